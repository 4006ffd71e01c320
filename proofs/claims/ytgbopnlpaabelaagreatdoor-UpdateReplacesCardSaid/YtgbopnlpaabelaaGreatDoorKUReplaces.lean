/- Behind a replacement a document has the other one's items and its own id, and no more. Conditions: the row's own tables (laid). -/
import Derived.Test.YtgbopnlpaabelaaGreatDoorKUpLv
import Derived.Test.YtgbopnlpaabelaaGreatDoorKPathS
import Derived.Test.YtgbopnlpaabelaaGreatDoorKRefM
import Derived.SizedLaws
import Derived.ChangeOld
import Derived.Below
import Derived.Deep.Slices
import Derived.SevenTiedAt
set_option maxHeartbeats 64000000
set_option maxRecDepth 100000
set_option linter.unusedVariables false
set_option linter.unusedSimpArgs false
namespace Go.Proofs.YtgbopnlpaabelaaGreatDoor.UReplaces
open Go.ChangeShapes Go.WideShapes Go.ChangeAt Go.RowKit Go.Joins Go.Deep
theorem own :ownKnob Tryz.prog.godebug=none:=by kernel_rfl
theorem laidOut :laidOutB Tryz.prog=true:=by kernel_rfl
theorem walk (t d:VT)(v x:Value)(w:World)(htab:Lib.TabIs Tryz.prog w "internal/strconv.uint64pow10" .u64 Lib.pow10Tab)(h:LV w (fun b=>b<w.heap.size) t v)(hx:LV w (fun b=>b<w.heap.size) d x):
  Calls Tryz.prog 7 #[v,x] w fun e w'=>e= .returned (.bool true)∧Below w.heap.size w w':=by
 obtain⟨EA,Ec,EA',Ec',rfl,-,-,-,-,-,-,-⟩:=id h.shape;obtain⟨FA,Fc,FA',Fc',rfl,-,-,-,-,-,hdn,hdi⟩:=id hx.shape;obtain⟨w2,hw2⟩: ∃W,W=(w.alloc (.cells #[.int .i64 t.kind,.int .i64 t.num,.string t.text,.slice EA t.items.length Ec,.slice EA' t.names.length Ec'] 25)).alloc (.cells #[.int .i64 d.kind,.int .i64 d.num,.string d.text,.slice FA d.items.length Fc,.slice FA' d.names.length Fc'] 25):=⟨_,rfl⟩;have hz1:(w.alloc (.cells #[.int .i64 t.kind,.int .i64 t.num,.string t.text,.slice EA t.items.length Ec,.slice EA' t.names.length Ec'] 25)).heap.size=w.heap.size+1:=by simp
 have hvb:w2.heap[w.heap.size]? =some (.cells #[.int .i64 t.kind,.int .i64 t.num,.string t.text,.slice EA t.items.length Ec,.slice EA' t.names.length Ec'] 25 (0,0)):=by rw[hw2,Below.heap_alloc _ _ _ (by omega)];exact heap_alloc_new w _
 have hxb:w2.heap[w.heap.size+1]? =some (.cells #[.int .i64 d.kind,.int .i64 d.num,.string d.text,.slice FA d.items.length Fc,.slice FA' d.names.length Fc'] 25 (0,0)):=by rw[hw2,←hz1];exact heap_alloc_new _ _
 have hb2:Below w.heap.size w w2:=by rw[hw2];exact((Below.refl _ _).alloc (Nat.le_refl _) _).alloc (by omega) _
 have hz2:w2.heap.size=w.heap.size+2:=by rw[hw2];simp
 have HW:Hid (∀W,Below w2.heap.size w2 W→(∀b,b<w.heap.size→b<W.heap.size)∧LV W (fun b=>b<w.heap.size) t (.agg #[.int .i64 t.kind,.int .i64 t.num,.string t.text,.slice EA t.items.length Ec,.slice EA' t.names.length Ec'])∧LV W (fun b=>b<w.heap.size) d (.agg #[.int .i64 d.kind,.int .i64 d.num,.string d.text,.slice FA d.items.length Fc,.slice FA' d.names.length Fc'])∧Lib.TabIs Tryz.prog W "internal/strconv.uint64pow10" .u64 Lib.pow10Tab∧Below w.heap.size w W∧W.heap[w.heap.size]? =some (.cells #[.int .i64 t.kind,.int .i64 t.num,.string t.text,.slice EA t.items.length Ec,.slice EA' t.names.length Ec'] 25 (0,0))∧W.heap[w.heap.size+1]? =some (.cells #[.int .i64 d.kind,.int .i64 d.num,.string d.text,.slice FA d.items.length Fc,.slice FA' d.names.length Fc'] 25 (0,0))∧ai W (fun b=>b<w.heap.size) FA' d.names∧bf LVC 5 W (fun b=>b<w.heap.size) FA d.items):=Lib.hid fun W hW=>by
  have hwW:Below w.heap.size w W:=hb2.trans (hW.mono hb2.size);have hk: ∀b,b<w.heap.size→W.heap[b]? =w.heap[b]? :=fun b hb=>hwW.block b hb;exact⟨fun b hb=>Nat.lt_of_lt_of_le hb hwW.size,h.keep hk,hx.keep hk,Lib.tabBelow_of_tabIs htab W hwW,hwW,(hW.block _ (by omega)).trans hvb,(hW.block _ (by omega)).trans hxb,hdn.keep hk,ic (hdi.keep hk)⟩
 have HZ2:=Lib.hid hz2;have HSZ:Hid (cm t=false→aE t≤9223372036854775807):=Lib.hid (fp h);have HSD:Hid (cm d=false→aE d≤9223372036854775807):=Lib.hid (fp hx);obtain⟨s1,s2,s3,s4,s5,s6,s7,-⟩:=HW.out w2 (Below.refl _ _);have HLT:=Lib.hid (fY (fun b=>b<w.heap.size) t _ w2 s1 s2);clear htab h hx hdn hdi hz1 hvb hxb hb2 hz2 s1 s2 s3 s4 s5 s6 s7;go_enter Tryz.func7,Tryz.ntmps7;go_wp2_with fail;rw[←hw2];clear hw2;refine HLT.out.mono ?_;rintro e w3 ⟨rfl,hb3⟩;have HB3:=Lib.hid hb3;clear hb3 HLT
 cases hlt:cm t with
 |true=>
  have HLV:=Lib.hid (dr w3 (HW.out w3 HB3.out).2.2.2.1);clear hlt;go_wp2_with fail;refine HLV.out.mono ?_;rintro e w4 ⟨rfl,hb4⟩;have HE:=Lib.hid ((HW.out w3 HB3.out).2.2.2.2.1.trans (hb4.mono (HW.out w3 HB3.out).2.2.2.2.1.size));clear hb4 HLV;go_wp2_with fail;go_ret
  exact⟨rfl,HE.out⟩
 |false=>
 have HT:=Lib.hid hlt;have HLD:=Lib.hid (fY (fun b=>b<w.heap.size) d _ w3 (HW.out w3 HB3.out).1 (HW.out w3 HB3.out).2.2.1);have y0:=Go.Joins.cell_of_block (HW.out w3 HB3.out).2.2.2.2.2.2.1 0;have y1:=Go.Joins.cell_of_block (HW.out w3 HB3.out).2.2.2.2.2.2.1 1;have y2:=Go.Joins.cell_of_block (HW.out w3 HB3.out).2.2.2.2.2.2.1 2;have y3:=Go.Joins.cell_of_block (HW.out w3 HB3.out).2.2.2.2.2.2.1 3;have y4:=Go.Joins.cell_of_block (HW.out w3 HB3.out).2.2.2.2.2.2.1 4;go_wp2_with fail;clear y0 y1 y2 y3 y4;refine HLD.out.mono ?_;rintro e w4 ⟨rfl,hb4⟩;have HB4:Hid (Below w2.heap.size w2 w4):=Lib.hid (HB3.out.trans (hb4.mono HB3.out.size));clear hb4 HLD HB3
 cases hld:cm d with
 |true=>
  have HLV:=Lib.hid (dr w4 (HW.out w4 HB4.out).2.2.2.1);clear hld hlt;go_wp2_with fail;refine HLV.out.mono ?_;rintro e w5 ⟨rfl,hb5⟩;have HE:=Lib.hid ((HW.out w4 HB4.out).2.2.2.2.1.trans (hb5.mono (HW.out w4 HB4.out).2.2.2.2.1.size));clear hb5 HLV;go_wp2_with fail;go_ret
  exact⟨rfl,HE.out⟩
 |false=>
 have HD:=Lib.hid hld;clear hld hlt;obtain⟨w5,hw5⟩: ∃W,W=w4.alloc (.cells #[.bool true,.int .i64 d.kind,.int .i64 d.num,.string d.text,.slice FA d.items.length Fc,.slice FA' d.names.length Fc',.slice none 0 0] 28):=⟨_,rfl⟩;have hsb5:w5.heap[w4.heap.size]? =some (.cells #[.bool true,.int .i64 d.kind,.int .i64 d.num,.string d.text,.slice FA d.items.length Fc,.slice FA' d.names.length Fc',.slice none 0 0] 28 (0,0)):=by rw[hw5];exact heap_alloc_new w4 _
 have hb5:Below w4.heap.size w4 w5:=by rw[hw5];exact(Below.refl _ _).alloc (Nat.le_refl _) _
 have HB5:Hid (Below w2.heap.size w2 w5):=Lib.hid (HB4.out.trans (hb5.mono HB4.out.size));have HUI:Hid (tH t ⟨true,d,[]⟩):=Lib.hid ⟨by have:=eL HT.out;omega,HSZ.out HT.out,⟨by have:=eL HD.out;show ac d≤_;omega,fun o ho=>(by cases ho)⟩,fun o ho=>(by cases ho),HSD.out HD.out⟩
 have HAP:Hid (Calls Tryz.prog 18 #[.agg #[.int .i64 t.kind,.int .i64 t.num,.string t.text,.slice EA t.items.length Ec,.slice EA' t.names.length Ec'],.agg #[.bool true,.int .i64 d.kind,.int .i64 d.num,.string d.text,.slice FA d.items.length Fc,.slice FA' d.names.length Fc',.slice none 0 0]] w5 (ApR (bo t ⟨true,d,[]⟩) w5)):=Lib.hid (by
  obtain⟨s1,s2,s3,s4,s5,s6,s7,-⟩:=HW.out w5 HB5.out
  exact ft (fun b=>b<w.heap.size) t _ ⟨true,d,[]⟩ _ w5 s1 s2 ⟨FA,Fc,FA',Fc',none,0,rfl,s3,fun h=>absurd h (by simp),Nat.le_refl _,by simp⟩ (fun OA n c e k hk=>absurd hk (Nat.not_lt_zero _)) HUI.out s4)
 have y0:=Go.Joins.cell_of_block (HW.out w4 HB4.out).2.2.2.2.2.2.1 0;have y1:=Go.Joins.cell_of_block (HW.out w4 HB4.out).2.2.2.2.2.2.1 1;have y2:=Go.Joins.cell_of_block (HW.out w4 HB4.out).2.2.2.2.2.2.1 2;have y3:=Go.Joins.cell_of_block (HW.out w4 HB4.out).2.2.2.2.2.2.1 3;have y4:=Go.Joins.cell_of_block (HW.out w4 HB4.out).2.2.2.2.2.2.1 4;have z0:=Go.Joins.cell_of_block (HW.out w5 HB5.out).2.2.2.2.2.1 0;have z1:=Go.Joins.cell_of_block (HW.out w5 HB5.out).2.2.2.2.2.1 1;have z2:=Go.Joins.cell_of_block (HW.out w5 HB5.out).2.2.2.2.2.1 2;have z3:=Go.Joins.cell_of_block (HW.out w5 HB5.out).2.2.2.2.2.1 3;have z4:=Go.Joins.cell_of_block (HW.out w5 HB5.out).2.2.2.2.2.1 4;rw[hw5]at z0 z1 z2 z3 z4;go_wp2_with fail;rw[←hw5];clear hw5 y0 y1 y2 y3 y4 z0 z1 z2 z3 z4 hsb5 hb5;refine HAP.out.mono ?_;rintro e w6 ⟨v6,A6,c6,rfl,hv6,-,-,-,hb6⟩;obtain⟨P,hP⟩: ∃P,P=bo t ⟨true,d,[]⟩:=⟨_,rfl⟩;rw[←hP]at hv6;rw[←hP];obtain⟨R,hR⟩: ∃R,R=P.2.1:=⟨_,rfl⟩;rw[←hR]at hv6;obtain⟨GA,Gc,GA',Gc',rfl,-⟩:=hv6.shape;have HP:=Lib.hid (And.intro hP hR);have HB6:Hid (Below w2.heap.size w2 w6):=Lib.hid (HB5.out.trans (hb6.mono HB5.out.size));have HV6:Hid (LV w6 (fun b=>b<w6.heap.size) R (.agg #[.int .i64 R.kind,.int .i64 R.num,.string R.text,.slice GA R.items.length Gc,.slice GA' R.names.length Gc'])):=Lib.hid (hv6.imp fun b hb=>hb.2);clear hP hR hv6 hb6 HAP;obtain⟨w7,hw7⟩: ∃W,W=w6.alloc (.cells #[.int .i64 R.kind,.int .i64 R.num,.string R.text,.slice GA R.items.length Gc,.slice GA' R.names.length Gc'] 25):=⟨_,rfl⟩;obtain⟨gW,hgW⟩: ∃g,g=w6.heap.size:=⟨_,rfl⟩
 have hx7:Box w7 gW (.int .i64 R.kind) (.int .i64 R.num) (.string R.text) (.slice GA R.items.length Gc) (.slice GA' R.names.length Gc'):=by rw[hw7,hgW];exact Box.new ..
 have hb7:Below w6.heap.size w6 w7:=by rw[hw7];exact ae _
 have HX7:=Lib.hid hx7;have HB7:Hid (Below w2.heap.size w2 w7):=Lib.hid (HB6.out.trans (hb7.mono HB6.out.size));have HV7:Hid (LV w7 (fun b=>b<w6.heap.size) R (.agg #[.int .i64 R.kind,.int .i64 R.num,.string R.text,.slice GA R.items.length Gc,.slice GA' R.names.length Gc'])):=Lib.hid (HV6.out.keep fun b hb=>hb7.block b hb);have HZ67:Hid (w6.heap.size≤w7.heap.size):=Lib.hid hb7.size;clear hx7 hb7 HV6;have HLV:=Lib.hid (dr w7 (HW.out w7 HB7.out).2.2.2.1);go_wp2_with fail;rw[←hw7,←hgW];clear hw7 hgW;refine HLV.out.mono ?_;rintro e w8 ⟨rfl,hb8⟩;have HB8:Hid (Below w2.heap.size w2 w8):=Lib.hid (HB7.out.trans (hb8.mono HB7.out.size));have HX8:=Lib.hid (HX7.out.call hb8);have HV8:Hid (LV w8 (fun b=>b<w8.heap.size) R (.agg #[.int .i64 R.kind,.int .i64 R.num,.string R.text,.slice GA R.items.length Gc,.slice GA' R.names.length Gc'])):=Lib.hid ((HV7.out.keep fun b hb=>hb8.block b (Nat.lt_of_lt_of_le hb HZ67.out)).imp fun b hb=>Nat.lt_of_lt_of_le hb (Nat.le_trans HZ67.out hb8.size));clear hb8 HLV HX7 HV7;by_cases he:P.1=0;rotate_left
 ·have dd:(P.1 != 0)=true:=by simp[he]
  have HLV:=Lib.hid (dr w8 (HW.out w8 HB8.out).2.2.2.1);clear he;go_wp2_with fail;refine HLV.out.mono ?_;rintro e w9 ⟨rfl,hb9⟩;have HE:=Lib.hid ((HW.out w8 HB8.out).2.2.2.2.1.trans (hb9.mono (HW.out w8 HB8.out).2.2.2.2.1.size));clear hb9 HLV;go_wp2_with fail;go_ret;exact⟨rfl,HE.out⟩
 have dd:(P.1 != 0)=false:=by simp[he]
 have HM:Hid (R.items.length=d.items.length+1∧d.names.length=d.items.length∧dL R=true∧ ∀i (h1:i<d.names.length) (h2:i<d.items.length),aT R [d.names[i]]=some d.items[i]):=Lib.hid (by
  obtain⟨R2,l2,e2,hm⟩:=jt (by rw[←HP.out.1];exact he);have:R=R2:=by rw[HP.out.2,HP.out.1,e2]
  subst this
  exact pC hm (HSZ.out HT.out) (HSD.out HD.out))
 have HDM:Hid (d.items.length≤100000):=Lib.hid (by
  obtain⟨R2,l2,e2,hm⟩:=jt (by rw[←HP.out.1];exact he);obtain⟨c1,c2,-⟩:=fK hm.chk;obtain⟨-,f2,f3⟩:=gl c1 rfl;have hw:d.items.length≤4096:=(iF (cz f3 (HSD.out HD.out))).1
  omega)
 clear he;have r3:=HX8.out.c3;have f3:=Go.Joins.cell_of_block (HW.out w8 HB8.out).2.2.2.2.2.2.1 3;have f4:=Go.Joins.cell_of_block (HW.out w8 HB8.out).2.2.2.2.2.2.1 4;have dne:((R.items.length:Int) != (d.items.length:Int)+1)=false:=by rw[HM.out.1];simp
 have hl9:(d.items.length:Int)+1≤9223372036854775807:=by have:=HDM.out;omega
 obtain⟨m,hm⟩: ∃m,m=d.names.length:=⟨_,rfl⟩;have HMM:=Lib.hid hm;have hm9:m≤100000:=by rw[hm,HM.out.2.1];exact HDM.out
 obtain⟨wF,hwF⟩: ∃W,W=w8:=⟨_,rfl⟩
 have HKP:Hid (∀W,Below wF.heap.size wF W→Box W gW (.int .i64 R.kind) (.int .i64 R.num) (.string R.text) (.slice GA R.items.length Gc) (.slice GA' R.names.length Gc')∧W.heap[w.heap.size+1]? =some (.cells #[.int .i64 d.kind,.int .i64 d.num,.string d.text,.slice FA d.items.length Fc,.slice FA' d.names.length Fc'] 25 (0,0))∧LV W (fun b=>b<wF.heap.size) R (.agg #[.int .i64 R.kind,.int .i64 R.num,.string R.text,.slice GA R.items.length Gc,.slice GA' R.names.length Gc'])∧ai W (fun b=>b<w.heap.size) FA' d.names∧bf LVC 5 W (fun b=>b<w.heap.size) FA d.items∧Below w.heap.size w W∧w.heap.size+1<wF.heap.size∧gW<wF.heap.size):=Lib.hid fun W hW=>by
  rw[hwF]at hW ⊢;have h2W:=HB8.out.trans (hW.mono HB8.out.size);obtain⟨s1,s2,s3,s4,s5,s6,s7,s8,s9⟩:=HW.out W h2W;exact⟨HX8.out.call hW,s7,HV8.out.keep fun b hb=>hW.block b hb,s8,s9,s5,by have:=HB8.out.size;have:=HZ2.out;omega,HX8.out.lt⟩
 clear hm HW HB8 HX8 HV8 HB7 HB6 HB5 HB4;go_wp2_with fail;rw[←hwF];clear hwF r3 f3 f4 dne hl9 dd;go_wp2_with fail
 go_loopw [9] (fun i wr=> ∃k:Nat,i= .int .i64 k∧k≤m∧Hid (Below wF.heap.size wF wr)) (fun i _=>m - (intOf i).toNat)
 case atStart=>exact⟨0,rfl,Nat.zero_le _,Lib.hid (Below.refl _ _)⟩
 case round=>
  obtain⟨k,rfl,hk,HR⟩:=hrel;obtain⟨p1,p2,p3,p4,p5,p6,p7,p8⟩:=HKP.out wr HR.out;have f4:=Go.Joins.cell_of_block p2 4;replace f4:wr.cell? ⟨w.heap.size+1,4,none⟩=some (.slice FA' m Fc'):=by rw[f4,HMM.out];rfl
  by_cases hlt:k<m
  ·have hkn:k<d.names.length:=by rw[←HMM.out];exact hlt
   have hki:k<d.items.length:=by rw[←HM.out.2.1];exact hkn
   obtain⟨bn,on,rfl,hbn,hcn⟩:=p4 (by omega);obtain⟨hc1,hc2⟩:=hcn k hkn;obtain⟨nm,hnm⟩: ∃s,s=d.names[k]:=⟨_,rfl⟩;rw[←hnm]at hc1 hc2;obtain⟨bi,oi,rfl,hbi,hci⟩:=p5 (by omega);obtain⟨Y,hY⟩: ∃Y,Y=d.items[k]:=⟨_,rfl⟩;have HGT:Hid (aT R [nm]=some Y):=Lib.hid (by rw[hnm,hY];exact HM.out.2.2.2 k hkn hki);obtain⟨wd,hwd⟩: ∃W,W=wr.drew:=⟨_,rfl⟩;have HBD:Hid (Below wF.heap.size wF wd):=Lib.hid (by rw[hwd];exact HR.out.drew);have HWD:Hid (wF.heap.size≤wd.heap.size):=Lib.hid HBD.out.size
   have HGET:Hid (∀W gN,Below wd.heap.size wd W→Kp wd W gN #[.string nm] 9→Calls Tryz.prog 22 #[.agg #[.int .i64 R.kind,.int .i64 R.num,.string R.text,.slice GA R.items.length Gc,.slice GA' R.names.length Gc'],.slice (some ⟨gN,0,none⟩) 1 1] W fun e w'=> ∃v',e= .returned (.tuple #[v',.bool true])∧LV w' (fun b=>b<wF.heap.size∨b=gN) Y v'∧Below W.heap.size W w'):=Lib.hid fun W gN hW hN=>by
    obtain⟨q1,q2,q3,q4,q5,q6,q7,q8⟩:=HKP.out W (HBD.out.trans (hW.mono HBD.out.size))
    refine(ie (fun b=>b<wF.heap.size∨b=gN) R _ (some ⟨gN,0,none⟩) 1 [nm] W (fun b hb=>by
     rcases hb with h|h
     ·have:=hW.size;have:=HWD.out;omega
     ·rw[h];exact hN.lt) (q3.imp fun b hb=> .inl hb) (bB.1 HM.out.2.2.1).1 (dT hN.cel (.inr rfl) hc2) (by simp)).mono fun e w' hh=> ?_
    obtain⟨v',h1,h2,h3⟩:=hh;have e1:okT R [nm]=true:=by unfold okT;rw[HGT.out];rfl
    have e2:ly R [nm]=Y:=by unfold ly;rw[HGT.out];rfl
    rw[e1]at h1;rw[e2]at h2;exact⟨v',h1,h2,h3⟩
   have HNN:=Lib.hid (And.intro hc1 (And.intro hbn (And.intro hbi (And.intro hci hY))));have kzz:=fun(qq:af (aA wd.heap.size) wd) (b i:Nat) (hb:b<wr.heap.size)=>(World.cell?_of_block (a:=⟨b,i,none⟩) ((qq.h.block b (by rw[hwd];exact hb)).trans (show wd.heap[b]? =wr.heap[b]? by rw[hwd];rfl)));have hbnw:bn<wr.heap.size:=by have:=HR.out.size;have:=p7;omega
   have hgWw:gW<wr.heap.size:=by have:=HR.out.size;omega
   have hw1w:w.heap.size+1<wr.heap.size:=by have:=HR.out.size;omega
   have z0:=fun qq=>(kzz qq gW 0 hgWw).trans p1.c0;have z1:=fun qq=>(kzz qq gW 1 hgWw).trans p1.c1;have z2:=fun qq=>(kzz qq gW 2 hgWw).trans p1.c2;have z3:=fun qq=>(kzz qq gW 3 hgWw).trans p1.c3;have z4:=fun qq=>(kzz qq gW 4 hgWw).trans p1.c4;have y4:=fun qq=>(kzz qq (w.heap.size+1) 4 hw1w).trans f4;have x0:=fun qq=>(kzz qq bn (on+k) hbnw).trans hc1;clear p1 p2 p3 p4 p5 p6 p7 p8 hcn hc1 hbn hnm hbi hci hY kzz;go_wp2_with fail;refine au (aA wd.heap.size) (aA.refl _) (aA.trans _) [12,13] (.pure [0,1,2,3,4,5] (.fork 6 (.fork 7 (.free [8,9,10] (.step 11 (.tail [12,13]))) 11 (.step 7 (.free [8,9,10] (.tail [12,13])))) 11 (.step 6 (.step 7 (.free [8,9,10] (.tail [12,13])))))) (by kernel_rfl) (by kernel_rfl) (fun _ d _ _ _ h=>by cases d<;>exact h) ?_;rw[←hwd];clear hwd f4;refine bG ?_;simp only[atR];show wpQuiet _ _ _ _ [_,_,_,_,_,_] _;try simp only[acR,Act.put]
   repeat(go_big_quiet_step (fail))
   refine wpQuiet_nil ?_;clear z0 z1 z2 z3 z4 y4 x0;have HU:Hid (Below wd.heap.size wd wd):=Lib.hid (Below.refl _ _);refine fL rfl rfl (fun K hK=> ?_) (fun K hK=> ?_)
   focus
    go_simp
    obtain⟨gN,hgN⟩: ∃g,g=wd.heap.size:=⟨_,rfl⟩;obtain⟨u1,hu⟩: ∃W,W=wd.alloc (.cells #[.string nm] 9):=⟨_,rfl⟩;have hst:Below wd.heap.size wd u1:=by rw[hu];exact(Below.refl _ _).alloc (Nat.le_refl _) _
    have HGN:Hid (Kp wd u1 gN #[.string nm] 9):=Lib.hid ⟨by rw[hu,hgN];exact heap_alloc_new wd _,by rw[hgN];exact HU.out.size,by rw[hu,hgN];simp⟩;rw[←hu,←hgN];refine hK _ _ (.inr (hst.mono HU.out.size)) ?_;clear hK K hu hgN;replace HU:=Lib.hid (HU.out.trans (hst.mono HU.out.size));clear hst;refine fL rfl rfl (fun K hK=> ?_) (fun K hK=> ?_)
    focus
     go_simp
     refine(HGET.out u1 gN HU.out HGN.out).mono ?_;rintro e u2 ⟨v5,rfl,hv5,hst⟩;obtain⟨HA,Hc,HA',Hc',rfl,-⟩:=hv5.shape;refine hK _ _ (.inr (hst.mono HU.out.size)) ?_;clear hK K;have HV:Hid (LV u2 (fun b=>(b<wF.heap.size∨b=gN)) Y (.agg #[.int .i64 Y.kind,.int .i64 Y.num,.string Y.text,.slice HA Y.items.length Hc,.slice HA' Y.names.length Hc'])):=Lib.hid (hv5.imp fun b hb=>hb);replace HU:=Lib.hid (HU.out.trans (hst.mono HU.out.size));clear hv5;replace HGN:=Lib.hid (HGN.out.next hst);clear hst;have HUS:Hid (wF.heap.size≤u2.heap.size):=Lib.hid (by have:=HU.out.size;have:=HWD.out;omega);refine aW ?_;simp only[atR];show wpQuiet _ _ _ _ [_,_,_] _;try simp only[acR,Act.put]
     repeat(go_big_quiet_step (fail))
     refine wpQuiet_nil ?_;refine ah rfl (fun K hK=> ?_)
     go_simp
     obtain⟨gV,hgV⟩: ∃g,g=u2.heap.size:=⟨_,rfl⟩;obtain⟨u3,hu⟩: ∃W,W=u2.alloc (.cells #[.int .i64 0,.int .i64 0,.string ⟨#[]⟩,.slice none 0 0,.slice none 0 0] 25):=⟨_,rfl⟩;have hst:Below u2.heap.size u2 u3:=by rw[hu];exact(Below.refl _ _).alloc (Nat.le_refl _) _
     have HGR:Hid (Kp wd u3 gV #[.int .i64 0,.int .i64 0,.string ⟨#[]⟩,.slice none 0 0,.slice none 0 0] 25):=Lib.hid ⟨by rw[hu,hgV];exact heap_alloc_new u2 _,by rw[hgV];exact HU.out.size,by rw[hu,hgV];simp⟩;have HNE:Hid (gN≠gV):=Lib.hid (by have:=HGN.out.lt;omega);have HVL:Hid (∀b,(b<wF.heap.size∨b=gN)→b≠gV):=Lib.hid (fun b hb=>hb.elim (fun h=>(by have:=HU.out.size;have:=HWD.out;omega)) (fun h=>(by have:=HGN.out.lt;omega)));rw[←hu,←hgV];refine hK _ _ (.inr (hst.mono HU.out.size)) ?_;clear hK K hu hgV;replace HU:=Lib.hid (HU.out.trans (hst.mono HU.out.size));replace HV:Hid (LV u3 (fun b=>(b<wF.heap.size∨b=gN)∧b≠gV) Y (.agg #[.int .i64 Y.kind,.int .i64 Y.num,.string Y.text,.slice HA Y.items.length Hc,.slice HA' Y.names.length Hc'])):=Lib.hid ((HV.out.keep fun b hb=>hst.block b (hb.elim (fun h=>(by have:=HUS.out;omega)) (fun h=>(by have:=HGN.out.lt;omega)))).imp fun b hb=>⟨hb,HVL.out b hb⟩);replace HGN:=Lib.hid (HGN.out.next hst);clear hst HVL HUS;refine aq rfl (fun K hK=> ?_);rw[if_pos (aU rfl)];refine bs 25 _ _ rfl rfl gV 0 rfl _ #[.int .i64 Y.kind,.int .i64 Y.num,.string Y.text,.slice HA Y.items.length Hc,.slice HA' Y.names.length Hc'] rfl rfl _ #[.int .i64 Y.kind,.int .i64 Y.num,.string Y.text,.slice HA Y.items.length Hc,.slice HA' Y.names.length Hc'] 25 HGR.out.cel (by simp) (by kernel_rfl) (by simp[Value.oneCell']) (by kernel_rfl) (fun w5 h9 ho9 hz9=> ?_);refine hK _ _ ?_;clear hK K;have HX5:Hid (Box w5 gV (.int .i64 Y.kind) (.int .i64 Y.num) (.string Y.text) (.slice HA Y.items.length Hc) (.slice HA' Y.names.length Hc')):=Lib.hid h9
     have HL5:Hid (LV w5 (fun b=>b<w5.heap.size) Y (.agg #[.int .i64 Y.kind,.int .i64 Y.num,.string Y.text,.slice HA Y.items.length Hc,.slice HA' Y.names.length Hc'])):=Lib.hid ((LV.keep (bL (S:=fun b=>(b<wF.heap.size∨b=gN)∧b≠gV) ho9 fun b hb=>⟨hb.1.elim (fun h=>(by have:=HU.out.size;have:=HWD.out;omega)) (fun h=>(by have:=HGN.out.lt;omega)),hb.2⟩) HV.out).imp fun b hb=>hb.1.elim (fun h=>(by rw[hz9];have:=HU.out.size;have:=HWD.out;omega)) (fun h=>(by rw[hz9];have:=HGN.out.lt;omega)));have HU5:Hid (Below wd.heap.size wd w5):=Lib.hid (aB (Nat.le_refl _) HU.out ho9 hz9 HGR.out.lo);have HG5:Hid (gV<w5.heap.size):=Lib.hid (by rw[hz9];exact HGR.out.lt);clear h9 ho9 hz9 HU HV HGR HGN HNE;refine aq rfl (fun K hK=> ?_)
     go_simp
     refine hK _ _ ?_;clear hK K;refine aQ ?_
    rotate_left
    focus
     go_simp
     obtain⟨gV,hgV⟩: ∃g,g=u1.heap.size:=⟨_,rfl⟩;obtain⟨u2,hu⟩: ∃W,W=u1.alloc (.cells #[.int .i64 0,.int .i64 0,.string ⟨#[]⟩,.slice none 0 0,.slice none 0 0] 25):=⟨_,rfl⟩;have hst:Below u1.heap.size u1 u2:=by rw[hu];exact(Below.refl _ _).alloc (Nat.le_refl _) _
     have HGR:Hid (Kp wd u2 gV #[.int .i64 0,.int .i64 0,.string ⟨#[]⟩,.slice none 0 0,.slice none 0 0] 25):=Lib.hid ⟨by rw[hu,hgV];exact heap_alloc_new u1 _,by rw[hgV];exact HU.out.size,by rw[hu,hgV];simp⟩;have HNE:Hid (gN≠gV):=Lib.hid (by have:=HGN.out.lt;omega);rw[←hu,←hgV];refine hK _ _ (.inr (hst.mono HU.out.size)) ?_;clear hK K hu hgV;replace HU:=Lib.hid (HU.out.trans (hst.mono HU.out.size));replace HGN:=Lib.hid (HGN.out.next hst);clear hst;refine ah rfl (fun K hK=> ?_)
     go_simp
     refine(HGET.out u2 gN HU.out HGN.out).mono ?_;rintro e u3 ⟨v5,rfl,hv5,hst⟩;obtain⟨HA,Hc,HA',Hc',rfl,-⟩:=hv5.shape;refine hK _ _ (.inr (hst.mono HU.out.size)) ?_;clear hK K;have HV:Hid (LV u3 (fun b=>(b<wF.heap.size∨b=gN)∧b≠gV) Y (.agg #[.int .i64 Y.kind,.int .i64 Y.num,.string Y.text,.slice HA Y.items.length Hc,.slice HA' Y.names.length Hc'])):=Lib.hid (hv5.imp fun b hb=>⟨hb,hb.elim (fun h=>(by have:=HGR.out.lo;have:=HWD.out;omega)) (fun h=>(by rw[h];exact HNE.out))⟩);replace HU:=Lib.hid (HU.out.trans (hst.mono HU.out.size));clear hv5;replace HGN:=Lib.hid (HGN.out.next hst);replace HGR:=Lib.hid (HGR.out.next hst);clear hst;refine aW ?_;simp only[atR];show wpQuiet _ _ _ _ [_,_,_] _;try simp only[acR,Act.put]
     repeat(go_big_quiet_step (fail))
     refine wpQuiet_nil ?_;refine aq rfl (fun K hK=> ?_);rw[if_pos (aU rfl)];refine bs 25 _ _ rfl rfl gV 0 rfl _ #[.int .i64 Y.kind,.int .i64 Y.num,.string Y.text,.slice HA Y.items.length Hc,.slice HA' Y.names.length Hc'] rfl rfl _ #[.int .i64 Y.kind,.int .i64 Y.num,.string Y.text,.slice HA Y.items.length Hc,.slice HA' Y.names.length Hc'] 25 HGR.out.cel (by simp) (by kernel_rfl) (by simp[Value.oneCell']) (by kernel_rfl) (fun w5 h9 ho9 hz9=> ?_);refine hK _ _ ?_;clear hK K;have HX5:Hid (Box w5 gV (.int .i64 Y.kind) (.int .i64 Y.num) (.string Y.text) (.slice HA Y.items.length Hc) (.slice HA' Y.names.length Hc')):=Lib.hid h9;have HL5:Hid (LV w5 (fun b=>b<w5.heap.size) Y (.agg #[.int .i64 Y.kind,.int .i64 Y.num,.string Y.text,.slice HA Y.items.length Hc,.slice HA' Y.names.length Hc'])):=Lib.hid ((LV.keep (bL (S:=fun b=>(b<wF.heap.size∨b=gN)∧b≠gV) ho9 fun b hb=>⟨hb.1.elim (fun h=>(by have:=HU.out.size;have:=HWD.out;omega)) (fun h=>(by have:=HGN.out.lt;omega)),hb.2⟩) HV.out).imp fun b hb=>hb.1.elim (fun h=>(by rw[hz9];have:=HU.out.size;have:=HWD.out;omega)) (fun h=>(by rw[hz9];have:=HGN.out.lt;omega)));have HU5:Hid (Below wd.heap.size wd w5):=Lib.hid (aB (Nat.le_refl _) HU.out ho9 hz9 HGR.out.lo);have HG5:Hid (gV<w5.heap.size):=Lib.hid (by rw[hz9];exact HGR.out.lt);clear h9 ho9 hz9 HU HV HGR HGN HNE;refine aq rfl (fun K hK=> ?_)
     go_simp
     refine hK _ _ ?_;clear hK K;refine aQ ?_
    rotate_left
   rotate_left 2
   focus
    go_simp
    obtain⟨gV,hgV⟩: ∃g,g=wd.heap.size:=⟨_,rfl⟩;obtain⟨u1,hu⟩: ∃W,W=wd.alloc (.cells #[.int .i64 0,.int .i64 0,.string ⟨#[]⟩,.slice none 0 0,.slice none 0 0] 25):=⟨_,rfl⟩;have hst:Below wd.heap.size wd u1:=by rw[hu];exact(Below.refl _ _).alloc (Nat.le_refl _) _
    have HGR:Hid (Kp wd u1 gV #[.int .i64 0,.int .i64 0,.string ⟨#[]⟩,.slice none 0 0,.slice none 0 0] 25):=Lib.hid ⟨by rw[hu,hgV];exact heap_alloc_new wd _,by rw[hgV];exact HU.out.size,by rw[hu,hgV];simp⟩;rw[←hu,←hgV];refine hK _ _ (.inr (hst.mono HU.out.size)) ?_;clear hK K hu hgV;replace HU:=Lib.hid (HU.out.trans (hst.mono HU.out.size));clear hst;refine ah rfl (fun K hK=> ?_)
    go_simp
    obtain⟨gN,hgN⟩: ∃g,g=u1.heap.size:=⟨_,rfl⟩;obtain⟨u2,hu⟩: ∃W,W=u1.alloc (.cells #[.string nm] 9):=⟨_,rfl⟩;have hst:Below u1.heap.size u1 u2:=by rw[hu];exact(Below.refl _ _).alloc (Nat.le_refl _) _
    have HGN:Hid (Kp wd u2 gN #[.string nm] 9):=Lib.hid ⟨by rw[hu,hgN];exact heap_alloc_new u1 _,by rw[hgN];exact HU.out.size,by rw[hu,hgN];simp⟩;have HNE:Hid (gN≠gV):=Lib.hid (by have:=HGR.out.lt;omega);rw[←hu,←hgN];refine hK _ _ (.inr (hst.mono HU.out.size)) ?_;clear hK K hu hgN;replace HU:=Lib.hid (HU.out.trans (hst.mono HU.out.size));replace HGR:=Lib.hid (HGR.out.next hst);clear hst;refine ah rfl (fun K hK=> ?_)
    go_simp
    refine(HGET.out u2 gN HU.out HGN.out).mono ?_;rintro e u3 ⟨v5,rfl,hv5,hst⟩;obtain⟨HA,Hc,HA',Hc',rfl,-⟩:=hv5.shape;refine hK _ _ (.inr (hst.mono HU.out.size)) ?_;clear hK K;have HV:Hid (LV u3 (fun b=>(b<wF.heap.size∨b=gN)∧b≠gV) Y (.agg #[.int .i64 Y.kind,.int .i64 Y.num,.string Y.text,.slice HA Y.items.length Hc,.slice HA' Y.names.length Hc'])):=Lib.hid (hv5.imp fun b hb=>⟨hb,hb.elim (fun h=>(by have:=HGR.out.lo;have:=HWD.out;omega)) (fun h=>(by rw[h];exact HNE.out))⟩);replace HU:=Lib.hid (HU.out.trans (hst.mono HU.out.size));clear hv5;replace HGN:=Lib.hid (HGN.out.next hst);replace HGR:=Lib.hid (HGR.out.next hst);clear hst;refine aW ?_;simp only[atR];show wpQuiet _ _ _ _ [_,_,_] _;try simp only[acR,Act.put]
    repeat(go_big_quiet_step (fail))
    refine wpQuiet_nil ?_;refine aq rfl (fun K hK=> ?_);rw[if_pos (aU rfl)];refine bs 25 _ _ rfl rfl gV 0 rfl _ #[.int .i64 Y.kind,.int .i64 Y.num,.string Y.text,.slice HA Y.items.length Hc,.slice HA' Y.names.length Hc'] rfl rfl _ #[.int .i64 Y.kind,.int .i64 Y.num,.string Y.text,.slice HA Y.items.length Hc,.slice HA' Y.names.length Hc'] 25 HGR.out.cel (by simp) (by kernel_rfl) (by simp[Value.oneCell']) (by kernel_rfl) (fun w5 h9 ho9 hz9=> ?_);refine hK _ _ ?_;clear hK K;have HX5:Hid (Box w5 gV (.int .i64 Y.kind) (.int .i64 Y.num) (.string Y.text) (.slice HA Y.items.length Hc) (.slice HA' Y.names.length Hc')):=Lib.hid h9;have HL5:Hid (LV w5 (fun b=>b<w5.heap.size) Y (.agg #[.int .i64 Y.kind,.int .i64 Y.num,.string Y.text,.slice HA Y.items.length Hc,.slice HA' Y.names.length Hc'])):=Lib.hid ((LV.keep (bL (S:=fun b=>(b<wF.heap.size∨b=gN)∧b≠gV) ho9 fun b hb=>⟨hb.1.elim (fun h=>(by have:=HU.out.size;have:=HWD.out;omega)) (fun h=>(by have:=HGN.out.lt;omega)),hb.2⟩) HV.out).imp fun b hb=>hb.1.elim (fun h=>(by rw[hz9];have:=HU.out.size;have:=HWD.out;omega)) (fun h=>(by rw[hz9];have:=HGN.out.lt;omega)));have HU5:Hid (Below wd.heap.size wd w5):=Lib.hid (aB (Nat.le_refl _) HU.out ho9 hz9 HGR.out.lo);have HG5:Hid (gV<w5.heap.size):=Lib.hid (by rw[hz9];exact HGR.out.lt);clear h9 ho9 hz9 HU HV HGR HGN HNE;refine aq rfl (fun K hK=> ?_)
    go_simp
    refine hK _ _ ?_;clear hK K;refine aQ ?_
   rotate_left
   all_goals
    have HF5:Hid (Below wF.heap.size wF w5):=Lib.hid (HBD.out.trans (HU5.out.mono HBD.out.size));obtain⟨p1,p2,p3,p4,p5,p6,p7,p8⟩:=HKP.out w5 HF5.out
    obtain⟨cs,hcs,hlv⟩: ∃cs:Array Value,(∀j v,cs[j]? =some v→w5.cell? ⟨bi,oi+k * 5+j,none⟩=some v)∧LVC w5 (fun b=>b<w.heap.size) Y cs:=by
     obtain⟨b',o',e',hb',hc'⟩:=p5 (by omega);injection e' with e'
     injection e' with e1 e2
     subst e1 e2;obtain⟨cs,hh1,hh2⟩:=hc' k hki;exact⟨cs,hh1,by rw[HNN.out.2.2.2.2];exact hh2⟩
    obtain⟨YA,yc,YA',yc',e,-⟩:=LV.shape (show LV w5 (fun b=>b<w.heap.size) Y (.agg cs) from hlv);injection e with e
    subst e;have hbiw:bi<w5.heap.size:=by have:=HNN.out.2.2.1;have:=HF5.out.size;omega
    have hgv:=HG5.out;have hw1w:w.heap.size+1<w5.heap.size:=by have:=HF5.out.size;omega
    have c0':=aa (B:=w5.heap.size) (w:=w5.drew) (hcs 0 _ rfl) hbiw;have c1':=aa (B:=w5.heap.size) (w:=w5.drew) (hcs 1 _ rfl) hbiw;have c2':=aa (B:=w5.heap.size) (w:=w5.drew) (hcs 2 _ rfl) hbiw;have c3':=aa (B:=w5.heap.size) (w:=w5.drew) (hcs 3 _ rfl) hbiw;have c4':=aa (B:=w5.heap.size) (w:=w5.drew) (hcs 4 _ rfl) hbiw;rw[Nat.add_zero]at c0';have d0:=aa (B:=w5.heap.size) (w:=w5.drew) HX5.out.c0 hgv;have d1:=aa (B:=w5.heap.size) (w:=w5.drew) HX5.out.c1 hgv;have d2:=aa (B:=w5.heap.size) (w:=w5.drew) HX5.out.c2 hgv;have d3:=aa (B:=w5.heap.size) (w:=w5.drew) HX5.out.c3 hgv;have d4:=aa (B:=w5.heap.size) (w:=w5.drew) HX5.out.c4 hgv;have f3:=aa (B:=w5.heap.size) (w:=w5.drew) (Go.Joins.cell_of_block p2 3) hw1w;have HSM:=Lib.hid (gc (fun b=>b<w5.heap.size) (ac Y) Y Y _ _ w5.drew (Nat.le_refl _) (fun b hb=>hb) HL5.out.drew ((show LV w5 (fun b=>b<w.heap.size) Y _ from hlv).drew.imp fun b hb=>by omega));clear p1 p2 p3 p4 p5 p6 p7 p8 hcs hlv;go_wp2_with fail;refine bh [0,1,2,3,4,5,6,7,8,9,10,11] (by kernel_rfl) (by kernel_rfl) (fun _ d _ _ _ h=>by cases d<;>exact h) ?_;simp only[atR];first|with_reducible refine ak ?_ |with_reducible refine ag ?_ |refine ak ?_ |refine ag ?_
    simp only[List.takeWhile,List.dropWhile,aC,Nat.reduceBNe];repeat(go_big_quiet_step (fail))
    first|with_reducible refine wpQuiet_nil ?_ |refine wpQuiet_nil ?_
    clear c0' c1' c2' c3' c4' d0 d1 d2 d3 d4 f3;first|with_reducible refine aK ?_ (fun K hK=> ?_)|with_reducible refine ay ?_ (fun K hK=> ?_)|refine aK ?_ (fun K hK=> ?_)|refine ay ?_ (fun K hK=> ?_)
    ·rfl
    go_simp
    refine(HSM.out).mono ?_;rintro e w6 ⟨⟨r,rfl,hr⟩,hb⟩;refine hK _ _ hb ?_;clear hK K;try simp only[Act.put]
    have hr:=hr.2 trivial;subst hr;have HF6:Hid (Below wF.heap.size wF w6):=Lib.hid (HF5.out.trans (((Below.refl _ _).drew.trans hb).mono HF5.out.size));clear hb HSM;first|with_reducible refine ak ?_ |with_reducible refine ag ?_ |refine ak ?_ |refine ag ?_
    simp only[List.takeWhile,List.dropWhile,aC,Nat.reduceBNe];repeat(go_big_quiet_step (fail))
    first|with_reducible refine wpQuiet_nil ?_ |refine wpQuiet_nil ?_
    unfold bj;go_wp2_with fail
    go_roundw
    case rel=>exact⟨k+1,by go_num,by omega,HF6⟩
    case measure=>simp[intOf];omega
  ·obtain rfl:k=m:=by omega
   go_wp2_with fail;go_ret;exact⟨rfl,p6⟩
theorem laid_met (os:Os):laidMet Tryz.prog Rows.updateReplacesRow.laid ((iM os).forCall (fun _ _=>0) ⟨#[], #[.agg #[.int .i64 0,.int .i64 0,.string ByteArray.empty,.slice none 0 0,.slice none 0 0],.agg #[.int .i64 0,.int .i64 0,.string ByteArray.empty,.slice none 0 0,.slice none 0 0]],[]⟩).memory:=
 laidMet_of_run' 8 (by kernel_rfl) (by kernel_rfl)
theorem contract (H:Type)(enc:TypeId×Value→H)(W:World)(base:Nat)(args:Array Value)(ds gs:List (DataW H))(before:List MemPlace)
  (hval: ∀(j:Nat) t v,Tryz.f7.params[j]? =some t→args[j]? =some v→Value.okWide Tryz.prog W .any base t v)
  (hW:DataW.Whole enc Tryz.prog Tryz.f7.params.toList Rows.updateReplacesSpec.vars false W args.toList ds gs before)
  (hsz:(DataW.weightsEach Tryz.prog (Tryz.f7.params.toList++Rows.updateReplacesSpec.plain.varTypes Tryz.prog) (ds++gs)).all (· ≤reachBytes)=true) (hL:laidMetH Tryz.prog Rows.updateReplacesRow.laid W):
  Calls Tryz.prog 7 args W fun e W'=> ∃v,e= .returned v∧Rows.updateReplacesSpec.post enc Tryz.prog Tryz.f7 false true false false W args v W':=by
 have hW':=hW;obtain⟨p,q,hA0,hV,rfl,hfz,hnd⟩:=hW;have hA:DataW.TrodAll enc Tryz.prog W 0 (fun _=>true) true Tryz.f7.params.toList args.toList ds p:=hA0;rw[Tryz.params7]at hA hval hsz;obtain⟨v0,v1,d0,d1,p0,p1,rfl,rfl,rfl,h0,h1⟩:=trodAll_two hA;obtain⟨rfl,rfl⟩:=trodVars_none hV;obtain⟨a0,rfl,-⟩:=okWide_struct Tryz.underlying25 (hval 0 25 v0 rfl rfl);have k0:=h0;have lt0: ∀x∈p0,x.block<W.heap.size:=by obtain⟨m,hm⟩:=k0;exact DataW.trod_lt m _ _ _ hm
 have wt0: ∀n∈d0.weights Tryz.prog 25,n≤reachBytes:=fun n hn=>by have:=List.all_eq_true.1 hsz n (DataW.weights_mem_each (j:=0) rfl rfl n hn);simpa using this
 obtain⟨a1,rfl,-⟩:=okWide_struct Tryz.underlying25 (hval 1 25 v1 rfl rfl);have k1:=h1;have lt1: ∀x∈p1,x.block<W.heap.size:=by obtain⟨m,hm⟩:=k1;exact DataW.trod_lt m _ _ _ hm
 have wt1: ∀n∈d1.weights Tryz.prog 25,n≤reachBytes:=fun n hn=>by have:=List.all_eq_true.1 hsz n (DataW.weights_mem_each (j:=1) rfl rfl n hn);simpa using this
 clear hA0
 obtain⟨t0,ht0⟩: ∃t,LV W (fun b=>b<W.heap.size) t (.agg a0):=by
  obtain⟨m,hm⟩:=k0;have h3:=iy m _ _ hm wt0;simpa[Value.cells]using h3
 obtain⟨t1,ht1⟩: ∃t,LV W (fun b=>b<W.heap.size) t (.agg a1):=by
  obtain⟨m,hm⟩:=k1;have h3:=iy m _ _ hm wt1;simpa[Value.cells]using h3
 refine(walk t0 t1 _ _ W (zS hL) ht0 ht1).mono fun e W' ⟨he,bel⟩=> ?_;subst he;exact⟨_,rfl,_,_,_,[],_,[],hW',trodAll_mk1 (shut_bool Tryz.underlying4 _),trodAll_mk2 (Below.trod laidOut (by kernel_rfl) (of_decide_eq_true (by kernel_rfl)) k0 bel lt0) (Below.trod laidOut (by kernel_rfl) (of_decide_eq_true (by kernel_rfl)) k1 bel lt1),rfl,bel.frame _,fun h=>by cases h⟩
theorem lifted (os:Os)(started:os.Started)(H:Type)(enc:TypeId×Value→H)(F:Stop.Interp):
  ReturnsInHanded {} Tryz.checked os 7 .any ((OpenSpec.ofChange Rows.updateReplacesSpec).preRow enc Tryz.prog Tryz.f7 Rows.updateReplacesRow.domain false Rows.updateReplacesRow.laid) (((OpenSpec.ofChange Rows.updateReplacesSpec).at F).post enc Tryz.prog Tryz.f7 false true false false):=by
 refine returnsInHanded_of_row (C:=Tryz.checked) (s:=OpenSpec.ofChange Rows.updateReplacesSpec) own started (by kernel_rfl) Tryz.func7
  (witness_row_at (enc:=enc) (C:=Tryz.checked) false (iM os) #[.agg #[.int .i64 0,.int .i64 0,.string ByteArray.empty,.slice none 0 0,.slice none 0 0],.agg #[.int .i64 0,.int .i64 0,.string ByteArray.empty,.slice none 0 0,.slice none 0 0]] rfl (by kernel_rfl) (by kernel_rfl) (by kernel_rfl)
   (OpenSpec.preRow_of_B rfl 8 (by kernel_rfl) (by kernel_rfl) (laid_met os))) ?_
 intro W base args ds gs before hval hW _ _ hsz hL _ _;exact contract H enc W base args ds gs before hval hW hsz hL
theorem said :Rows.UpdateReplacesSaid:=
 OpenClaim.holds_of_cond 7 Tryz.f7 rfl rfl rfl rfl rfl rfl rfl ⟨rfl,rfl,rfl,rfl,rfl⟩ rfl rfl rfl rfl rfl (by kernel_rfl) Tryz.func7 (by kernel_rfl)
  (of_decide_eq_true (by kernel_rfl)) (by unfold Func.isWrapper;first|(rw[if_pos (by decide +kernel)];kernel_rfl)|(rw[if_neg (by decide +kernel)];exact⟨rfl,rfl⟩))
  (fun os started H enc _ F=>by rw[OpenClaim.pre_eq_preRow];exact lifted os started H enc F)
theorem plain (f:FuncId)(fn:Func)(hf:Tryz.pinned.checked.prog.funcNamed "tributary/tributarylaw08.UpdateReplaces" =some f)(hfn:Tryz.pinned.checked.prog.funcs[f]? =some fn):
  false=Tryz.pinned.checked.prog.looks []∧ ∀(j:Nat) t,fn.params[j]? =some t→Tryz.pinned.checked.prog.wantsStandIn t=false:=by
 obtain rfl:f=7:=Option.some.inj ((show Tryz.prog.funcNamed "tributary/tributarylaw08.UpdateReplaces" =some 7 by kernel_rfl).symm.trans hf) |>.symm;obtain rfl:fn=Tryz.f7:=(Option.some.inj (Tryz.func7.symm.trans hfn)).symm;refine⟨by kernel_rfl,fun j t ht=> ?_⟩;rw[Tryz.params7]at ht;rcases j with _|j
 ·obtain rfl:t=25:=by simpa using ht.symm
  exact(show Tryz.prog.wantsStandIn 25=false by kernel_rfl)
 rcases j with _|j
 ·obtain rfl:t=25:=by simpa using ht.symm
  exact(show Tryz.prog.wantsStandIn 25=false by kernel_rfl)
 ·simp at ht
theorem proved :Rows.UpdateReplacesCardSaid:=
 Claim7.holds_tied_plain_at .later [] _ _ _ _ said (fun _ h=>by cases h) (by kernel_rfl) (fun _ h=>by cases h) updateReplaces_row_tie rfl ⟨rfl,rfl⟩ (by kernel_rfl) rfl plain (by kernel_rfl)
end Go.Proofs.YtgbopnlpaabelaaGreatDoor.UReplaces
