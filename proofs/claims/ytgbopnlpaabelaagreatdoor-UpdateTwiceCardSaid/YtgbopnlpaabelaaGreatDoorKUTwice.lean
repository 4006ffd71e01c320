/- An update's changes, done a second time, change nothing; the id stays. Conditions: the row's own tables (laid). -/
import Derived.Test.YtgbopnlpaabelaaGreatDoorKOpenUc
import Derived.Test.YtgbopnlpaabelaaGreatDoorKUpZ
import Derived.Test.YtgbopnlpaabelaaGreatDoorKRefM
import Derived.SizedLaws
import Derived.ChangeOld
import Derived.Below
import Derived.Deep.Slices
import Derived.SevenTiedAt
set_option maxHeartbeats 64000000
set_option maxRecDepth 100000
set_option linter.unusedVariables false
set_option linter.unusedSimpArgs false
namespace Go.Proofs.YtgbopnlpaabelaaGreatDoor.UTwice
open Go.ChangeShapes Go.WideShapes Go.ChangeAt Go.RowKit Go.Joins Go.Deep
theorem own :ownKnob Tryz.prog.godebug=none:=by kernel_rfl
theorem laidOut :laidOutB Tryz.prog=true:=by kernel_rfl
theorem lens_upL {K K':Nat}(h:K≤K'): ∀(n:Nat) (t:VT),ac t≤n→aM K t=true→aM K' t=true
 |0,t,hd,_=>absurd (fg t) (by omega)
 |n+1,t,hd,hl=>by
  cases t with
  |mk k i s l ns=>
   unfold aM at hl ⊢;simp only[Bool.and_eq_true,decide_eq_true_eq]at hl ⊢;refine⟨by omega,by omega,?_⟩;have hd':aF l≤n:=by rw[aL]at hd;omega
   have hL:=hl.2.2;clear hl
   induction l with
   |nil=>unfold jd;rfl
   |cons x r ih=>
    unfold jd at hL ⊢;simp only[Bool.and_eq_true]at hL ⊢;have hx:ac x≤n:=Nat.le_trans (bT (List.mem_cons_self ..)) hd';have hr:aF r≤n:=by unfold aF at hd';omega
    exact⟨lens_upL h n x hx hL.1,ih (by rw[aL];omega) hr hL.2⟩
theorem lens_up {t:VT}(h:aM 4096 t=true):aM 4160 t=true:=lens_upL (by omega) _ t (Nat.le_refl _) h
theorem walk (t:VT)(v:Value)(s:ba)(cs:Array Value)(w:World)(htab:Lib.TabIs Tryz.prog w "internal/strconv.uint64pow10" .u64 Lib.pow10Tab)(h:LV w (fun b=>b<w.heap.size) t v)(hs:cl w (fun b=>b<w.heap.size) s cs)(hcap:gE w s.ops cs):
  Calls Tryz.prog 5 #[v,.agg cs] w fun e w'=>e= .returned (.bool true)∧Below w.heap.size w w':=by
 obtain⟨EA,Ec,EA',Ec',rfl,-,-,-,-,-,-,-⟩:=id h.shape;have hss:=hs;obtain⟨DA,dc,DA',dc',OA,oc,rfl,hdv,hop,hoc,hol⟩:=hs;have hco:=hcap OA s.ops.length oc rfl;obtain⟨w2,hw2⟩: ∃W,W=(w.alloc (.cells #[.int .i64 t.kind,.int .i64 t.num,.string t.text,.slice EA t.items.length Ec,.slice EA' t.names.length Ec'] 25)).alloc (.cells #[.bool s.rep,.int .i64 s.doc.kind,.int .i64 s.doc.num,.string s.doc.text,.slice DA s.doc.items.length dc,.slice DA' s.doc.names.length dc',.slice OA s.ops.length oc] 28):=⟨_,rfl⟩;have hz1:(w.alloc (.cells #[.int .i64 t.kind,.int .i64 t.num,.string t.text,.slice EA t.items.length Ec,.slice EA' t.names.length Ec'] 25)).heap.size=w.heap.size+1:=by simp
 have hvb:w2.heap[w.heap.size]? =some (.cells #[.int .i64 t.kind,.int .i64 t.num,.string t.text,.slice EA t.items.length Ec,.slice EA' t.names.length Ec'] 25 (0,0)):=by rw[hw2,Below.heap_alloc _ _ _ (by omega)];exact heap_alloc_new w _
 have hxb:w2.heap[w.heap.size+1]? =some (.cells #[.bool s.rep,.int .i64 s.doc.kind,.int .i64 s.doc.num,.string s.doc.text,.slice DA s.doc.items.length dc,.slice DA' s.doc.names.length dc',.slice OA s.ops.length oc] 28 (0,0)):=by rw[hw2,←hz1];exact heap_alloc_new _ _
 have hb2:Below w.heap.size w w2:=by rw[hw2];exact((Below.refl _ _).alloc (Nat.le_refl _) _).alloc (by omega) _
 have hz2:w2.heap.size=w.heap.size+2:=by rw[hw2];simp
 have HW:Hid (∀W,Below w2.heap.size w2 W→(∀b,b<w.heap.size→b<W.heap.size)∧LV W (fun b=>b<w.heap.size) t (.agg #[.int .i64 t.kind,.int .i64 t.num,.string t.text,.slice EA t.items.length Ec,.slice EA' t.names.length Ec'])∧cl W (fun b=>b<w.heap.size) s #[.bool s.rep,.int .i64 s.doc.kind,.int .i64 s.doc.num,.string s.doc.text,.slice DA s.doc.items.length dc,.slice DA' s.doc.names.length dc',.slice OA s.ops.length oc]∧Lib.TabIs Tryz.prog W "internal/strconv.uint64pow10" .u64 Lib.pow10Tab∧Below w.heap.size w W∧W.heap[w.heap.size]? =some (.cells #[.int .i64 t.kind,.int .i64 t.num,.string t.text,.slice EA t.items.length Ec,.slice EA' t.names.length Ec'] 25 (0,0))∧W.heap[w.heap.size+1]? =some (.cells #[.bool s.rep,.int .i64 s.doc.kind,.int .i64 s.doc.num,.string s.doc.text,.slice DA s.doc.items.length dc,.slice DA' s.doc.names.length dc',.slice OA s.ops.length oc] 28 (0,0))∧gE W s.ops #[.bool s.rep,.int .i64 s.doc.kind,.int .i64 s.doc.num,.string s.doc.text,.slice DA s.doc.items.length dc,.slice DA' s.doc.names.length dc',.slice OA s.ops.length oc]):=Lib.hid fun W hW=>by
  have hwW:Below w.heap.size w W:=hb2.trans (hW.mono hb2.size);have hk: ∀b,b<w.heap.size→W.heap[b]? =w.heap[b]? :=fun b hb=>hwW.block b hb;refine⟨fun b hb=>Nat.lt_of_lt_of_le hb hwW.size,h.keep hk,hss.keep hk,Lib.tabBelow_of_tabIs htab W hwW,hwW,(hW.block _ (by omega)).trans hvb,(hW.block _ (by omega)).trans hxb,fun OA2 n2 oc2 e=> ?_⟩;have e:some (Value.slice OA s.ops.length oc)=some (.slice OA2 n2 oc2):=e;injection e with e
  injection e with e1 e2 e3
  subst e1;exact hco.keep hop hk
 have HSZ:Hid (cm t=false→aE t≤9223372036854775807):=Lib.hid (fp h);have HSS:Hid (cL s=false→mb s∧xG s):=Lib.hid (vZ hss);have HB2:Hid (Below w2.heap.size w2 w2):=Lib.hid (Below.refl _ _);have HLT:=Lib.hid (fY (fun b=>b<w.heap.size) t _ w2 (HW.out w2 HB2.out).1 (HW.out w2 HB2.out).2.1);clear htab h hss hdv hop hoc hol hcap hco hz1 hvb hxb hb2 hz2;go_enter Tryz.func5,Tryz.ntmps5;go_wp2_with fail;rw[←hw2];clear hw2;refine HLT.out.mono ?_;rintro e w3 ⟨rfl,hb3⟩;have HB3:Hid (Below w2.heap.size w2 w3):=Lib.hid (HB2.out.trans ((hb3).mono HB2.out.size));clear hb3 HLT
 cases hlt:cm t with
 |true=>
  have HLV:=Lib.hid (dr w3 (HW.out w3 HB3.out).2.2.2.1);clear hlt;go_wp2_with fail;refine HLV.out.mono ?_;rintro e wz ⟨rfl,hbz⟩;have HE:=Lib.hid ((HW.out w3 HB3.out).2.2.2.2.1.trans (hbz.mono (HW.out w3 HB3.out).2.2.2.2.1.size));clear hbz HLV;go_wp2_with fail;go_ret
  exact⟨rfl,HE.out⟩
 |false=>
 have HT:=Lib.hid hlt;have HLD:=Lib.hid (qv (fun b=>b<w.heap.size) s _ w3 (HW.out w3 HB3.out).1 (HW.out w3 HB3.out).2.2.1);have y0:=Go.Joins.cell_of_block (HW.out w3 HB3.out).2.2.2.2.2.2.1 0;have y1:=Go.Joins.cell_of_block (HW.out w3 HB3.out).2.2.2.2.2.2.1 1;have y2:=Go.Joins.cell_of_block (HW.out w3 HB3.out).2.2.2.2.2.2.1 2;have y3:=Go.Joins.cell_of_block (HW.out w3 HB3.out).2.2.2.2.2.2.1 3;have y4:=Go.Joins.cell_of_block (HW.out w3 HB3.out).2.2.2.2.2.2.1 4;have y5:=Go.Joins.cell_of_block (HW.out w3 HB3.out).2.2.2.2.2.2.1 5;have y6:=Go.Joins.cell_of_block (HW.out w3 HB3.out).2.2.2.2.2.2.1 6;go_wp2_with fail;clear y0 y1 y2 y3 y4 y5 y6;refine HLD.out.mono ?_;rintro e w4 ⟨rfl,hb4⟩;have HB4:Hid (Below w2.heap.size w2 w4):=Lib.hid (HB3.out.trans ((hb4).mono HB3.out.size));clear hb4 HLD
 cases hld:cL s with
 |true=>
  have HLV:=Lib.hid (dr w4 (HW.out w4 HB4.out).2.2.2.1);clear hld hlt;go_wp2_with fail;refine HLV.out.mono ?_;rintro e wz ⟨rfl,hbz⟩;have HE:=Lib.hid ((HW.out w4 HB4.out).2.2.2.2.1.trans (hbz.mono (HW.out w4 HB4.out).2.2.2.2.1.size));clear hbz HLV;go_wp2_with fail;go_ret
  exact⟨rfl,HE.out⟩
 |false=>
 have HD:=Lib.hid hld;clear hld hlt;have HUI:Hid (tH t s):=Lib.hid ⟨by have:=eL HT.out;omega,HSZ.out HT.out,(HSS.out HD.out).1,(HSS.out HD.out).2.2,(HSS.out HD.out).2.1⟩
 have HAP:Hid (Calls Tryz.prog 18 #[.agg #[.int .i64 t.kind,.int .i64 t.num,.string t.text,.slice EA t.items.length Ec,.slice EA' t.names.length Ec'],.agg #[.bool s.rep,.int .i64 s.doc.kind,.int .i64 s.doc.num,.string s.doc.text,.slice DA s.doc.items.length dc,.slice DA' s.doc.names.length dc',.slice OA s.ops.length oc]] w4 (ApR (bo t s) w4)):=Lib.hid (by
  obtain⟨s1,s2,s3,s4,s5,s6,s7,s8⟩:=HW.out w4 HB4.out
  exact ft (fun b=>b<w.heap.size) t _ s _ w4 s1 s2 s3 s8 HUI.out s4)
 have y0:=Go.Joins.cell_of_block (HW.out w4 HB4.out).2.2.2.2.2.2.1 0;have y1:=Go.Joins.cell_of_block (HW.out w4 HB4.out).2.2.2.2.2.2.1 1;have y2:=Go.Joins.cell_of_block (HW.out w4 HB4.out).2.2.2.2.2.2.1 2;have y3:=Go.Joins.cell_of_block (HW.out w4 HB4.out).2.2.2.2.2.2.1 3;have y4:=Go.Joins.cell_of_block (HW.out w4 HB4.out).2.2.2.2.2.2.1 4;have y5:=Go.Joins.cell_of_block (HW.out w4 HB4.out).2.2.2.2.2.2.1 5;have y6:=Go.Joins.cell_of_block (HW.out w4 HB4.out).2.2.2.2.2.2.1 6;have z0:=Go.Joins.cell_of_block (HW.out w4 HB4.out).2.2.2.2.2.1 0;have z1:=Go.Joins.cell_of_block (HW.out w4 HB4.out).2.2.2.2.2.1 1;have z2:=Go.Joins.cell_of_block (HW.out w4 HB4.out).2.2.2.2.2.1 2;have z3:=Go.Joins.cell_of_block (HW.out w4 HB4.out).2.2.2.2.2.1 3;have z4:=Go.Joins.cell_of_block (HW.out w4 HB4.out).2.2.2.2.2.1 4;go_wp2_with fail;clear y0 y1 y2 y3 y4 y5 y6 z0 z1 z2 z3 z4;refine HAP.out.mono ?_;rintro e w5 ⟨v5,A5,c5,rfl,hv5,hr5,hn5,hc5,hb5⟩;obtain⟨P,hP⟩: ∃P,P=bo t s:=⟨_,rfl⟩;rw[←hP]at hv5 hr5 hc5;rw[←hP];obtain⟨R,hR⟩: ∃R,R=P.2.1:=⟨_,rfl⟩;obtain⟨l,hl⟩: ∃l,l=P.2.2:=⟨_,rfl⟩;rw[←hR]at hv5;rw[←hl]at hr5 hc5;rw[←hl];obtain⟨GA,Gc,GA',Gc',rfl,-⟩:=hv5.shape;have HP:=Lib.hid (And.intro hP (And.intro hR hl));have HB5:Hid (Below w2.heap.size w2 w5):=Lib.hid (HB4.out.trans ((hb5).mono HB4.out.size));have HV5:=Lib.hid hv5;have HL5:Hid (bf fN 8 w5 (fun b=>b<w5.heap.size) A5 l):=Lib.hid (bf.imp dM hr5 fun b hb=>hb.2);clear hP hR hl hv5 hr5 hn5 hc5 hb5 HAP;obtain⟨w6,hw6⟩: ∃W,W=w5.alloc (.cells #[.int .i64 R.kind,.int .i64 R.num,.string R.text,.slice GA R.items.length Gc,.slice GA' R.names.length Gc'] 25):=⟨_,rfl⟩
 obtain⟨gR,hgR⟩: ∃g,g=w5.heap.size:=⟨_,rfl⟩;have hb6:Below w5.heap.size w5 w6:=by rw[hw6];exact eH _ _
 have HB6:Hid (Below w2.heap.size w2 w6):=Lib.hid (HB5.out.trans ((hb6).mono HB5.out.size));have HL6:=Lib.hid (fh HL5.out hb6);clear HL5;have HR6:Hid (KV w6 gR R GA Gc GA' Gc'):=Lib.hid (by rw[hw6,hgR];exact KV.new (fun b hb=>hb.2) HV5.out);have HLV:=Lib.hid (dr w6 (HW.out w6 HB6.out).2.2.2.1);clear hb6 HV5;go_wp2_with fail;rw[←hw6,←hgR];clear hw6 hgR;refine HLV.out.mono ?_;rintro e w7 ⟨rfl,hb7⟩;have HB7:Hid (Below w2.heap.size w2 w7):=Lib.hid (HB6.out.trans ((hb7).mono HB6.out.size));have HR7:=Lib.hid (HR6.out.next hb7);have HL7:=Lib.hid (fh HL6.out hb7);clear HR6 HL6;clear hb7 HLV;by_cases he:P.1=0;rotate_left
 ·have dd:(P.1 != 0)=true:=by simp[he]
  have HLV:=Lib.hid (dr w7 (HW.out w7 HB7.out).2.2.2.1);clear he;go_wp2_with fail;refine HLV.out.mono ?_;rintro e wz ⟨rfl,hbz⟩;have HE:=Lib.hid ((HW.out w7 HB7.out).2.2.2.2.1.trans (hbz.mono (HW.out w7 HB7.out).2.2.2.2.1.size));clear hbz HLV;go_wp2_with fail;go_ret;exact⟨rfl,HE.out⟩
 have dd:(P.1 != 0)=false:=by simp[he]
 have HM:Hid (us t s R l):=Lib.hid (by
  obtain⟨R2,l2,e2,hm⟩:=jt (by rw[←HP.out.1];exact he);have h1:R=R2:=by rw[HP.out.2.1,HP.out.1,e2]
  have h2:l=l2:=by rw[HP.out.2.2,HP.out.1,e2]
  subst h1 h2
  exact hm)
 have HCU:Hid (mD s):=Lib.hid ⟨HM.out.chk,HUI.out.zo,HUI.out.zd⟩;have HWV:=Lib.hid (ff HM.out.doc HUI.out.zt);have HFN:=Lib.hid (eY HM.out.doc HUI.out.zt HCU.out HM.out.ch);have HTW:=Lib.hid (tr HM.out HUI.out.zt HCU.out)
 have HAM:Hid (ac R≤1032∧aM 4160 R=true):=Lib.hid (by
  have h:=jk HWV.out.1 HWV.out.2.1 HFN.out.1 HFN.out.2.1 HFN.out.2.2.1 HFN.out.2.2.2 (by rw[HM.out.ap]);rw[HM.out.ap]at h
  exact⟨h.2.2.2.1,h.2.2.2.2⟩)
 clear he
 have HDA:Hid (Calls Tryz.prog 21 #[.agg #[.int .i64 t.kind,.int .i64 t.num,.string t.text,.slice EA t.items.length Ec,.slice EA' t.names.length Ec'],.slice A5 l.length c5] w7 (dF (0,R) w7)):=Lib.hid (by
  obtain⟨s1,s2,s3,s4,s5,s6,s7,s8⟩:=HW.out w7 HB7.out;rw[←HM.out.ap]
  exact hO (fun b=>b<w7.heap.size) t _ A5 c5 l w7 4096 8 (fun b hb=>hb) (s2.imp fun b hb=>s1 b hb) HWV.out.1.2.1 (er _ _ (Nat.le_refl _) HWV.out.1) (by omega) (by omega) (gk HL7.out) (gn HL7.out) (by have:=HFN.out.1;omega) (mR HFN.out.2.1))
 have z0:=Go.Joins.cell_of_block (HW.out w7 HB7.out).2.2.2.2.2.1 0;have z1:=Go.Joins.cell_of_block (HW.out w7 HB7.out).2.2.2.2.2.1 1;have z2:=Go.Joins.cell_of_block (HW.out w7 HB7.out).2.2.2.2.2.1 2;have z3:=Go.Joins.cell_of_block (HW.out w7 HB7.out).2.2.2.2.2.1 3;have z4:=Go.Joins.cell_of_block (HW.out w7 HB7.out).2.2.2.2.2.1 4;go_wp2_with fail;clear z0 z1 z2 z3 z4 dd;refine HDA.out.mono ?_;rintro e w8 ⟨v8,rfl,hv8,hb8⟩;obtain⟨HA,Hc,HA',Hc',rfl,-⟩:=hv8.shape;have HV8:=Lib.hid (show LV w8 (fun b=>w7.heap.size≤b∧b<w8.heap.size) R _ from hv8);have HB8:Hid (Below w2.heap.size w2 w8):=Lib.hid (HB7.out.trans ((hb8).mono HB7.out.size));have HR8:=Lib.hid (HR7.out.next hb8);have HL8:=Lib.hid (fh HL7.out hb8);clear HR7 HL7;clear hv8 hb8 HDA;obtain⟨w9,hw9⟩: ∃W,W=w8.alloc (.cells #[.int .i64 R.kind,.int .i64 R.num,.string R.text,.slice HA R.items.length Hc,.slice HA' R.names.length Hc'] 25):=⟨_,rfl⟩;obtain⟨gA,hgA⟩: ∃g,g=w8.heap.size:=⟨_,rfl⟩;have hb9:Below w8.heap.size w8 w9:=by rw[hw9];exact eH _ _
 have HB9:Hid (Below w2.heap.size w2 w9):=Lib.hid (HB8.out.trans ((hb9).mono HB8.out.size));have HR9:=Lib.hid (HR8.out.next hb9);have HL9:=Lib.hid (fh HL8.out hb9);clear HR8 HL8;have HA9:Hid (KV w9 gA R HA Hc HA' Hc'):=Lib.hid (by rw[hw9,hgA];exact KV.new (fun b hb=>hb.2) HV8.out)
 have HDA:Hid (Calls Tryz.prog 21 #[.agg #[.int .i64 R.kind,.int .i64 R.num,.string R.text,.slice GA R.items.length Gc,.slice GA' R.names.length Gc'],.slice A5 l.length c5] w9 (dF (0,R) w9)):=Lib.hid (by
  rw[←HTW.out.1]
  exact hO (fun b=>b<w9.heap.size) R _ A5 c5 l w9 4160 1032 (fun b hb=>hb) HR9.out.val HAM.out.1 HAM.out.2 (by omega) (by omega) (gk HL9.out) (gn HL9.out) (by have:=HFN.out.1;omega) (fun _=>⟨fun d hd=>by have:=jg (HFN.out.2.1 d hd);omega,fun d hd=>by have:=iD (HFN.out.2.1 d hd);omega,fun d hd=>lens_up (iO (HFN.out.2.1 d hd))⟩))
 have z0:=HR9.out.box.c0;have z1:=HR9.out.box.c1;have z2:=HR9.out.box.c2;have z3:=HR9.out.box.c3;have z4:=HR9.out.box.c4;rw[hw9]at z0 z1 z2 z3 z4;clear hb9 HV8;go_wp2_with fail;rw[←hw9,←hgA];clear hw9 hgA z0 z1 z2 z3 z4;refine HDA.out.mono ?_;rintro e w10 ⟨v10,rfl,hv10,hb10⟩;obtain⟨IA,Ic,IA',Ic',rfl,-⟩:=hv10.shape;have HV10:=Lib.hid (show LV w10 (fun b=>w9.heap.size≤b∧b<w10.heap.size) R _ from hv10);have HB10:Hid (Below w2.heap.size w2 w10):=Lib.hid (HB9.out.trans ((hb10).mono HB9.out.size));have HR10:=Lib.hid (HR9.out.next hb10);have HA10:=Lib.hid (HA9.out.next hb10);have HL10:=Lib.hid (fh HL9.out hb10);clear HR9 HA9 HL9;clear hv10 hb10 HDA;obtain⟨w11,hw11⟩: ∃W,W=w10.alloc (.cells #[.int .i64 R.kind,.int .i64 R.num,.string R.text,.slice IA R.items.length Ic,.slice IA' R.names.length Ic'] 25):=⟨_,rfl⟩;obtain⟨gB,hgB⟩: ∃g,g=w10.heap.size:=⟨_,rfl⟩;have hb11:Below w10.heap.size w10 w11:=by rw[hw11];exact eH _ _
 have HB11:Hid (Below w2.heap.size w2 w11):=Lib.hid (HB10.out.trans ((hb11).mono HB10.out.size));have HR11:=Lib.hid (HR10.out.next hb11);have HA11:=Lib.hid (HA10.out.next hb11);have HL11:=Lib.hid (fh HL10.out hb11);clear HR10 HA10 HL10;have HJ11:Hid (KV w11 gB R IA Ic IA' Ic'):=Lib.hid (by rw[hw11,hgB];exact KV.new (fun b hb=>hb.2) HV10.out);obtain⟨X,hX1,hX2,hX3,hX4⟩:=HTW.out.2.2;have HXX:=Lib.hid (And.intro hX3 hX4)
 have HRW:Hid (bN R=true):=Lib.hid (by
  unfold bN;have hk:=(bB.1 HTW.out.2.1).2
  simp[hk,HM.out.whole,hX2])
 clear hX1 hX2 hX3 hX4 HL11;have HTV:=Lib.hid (HW.out w11 HB11.out).2.2.2.2.2.1;have z0:=Go.Joins.cell_of_block HTV.out 0;have z1:=Go.Joins.cell_of_block HTV.out 1;have z2:=Go.Joins.cell_of_block HTV.out 2;have z3:=Go.Joins.cell_of_block HTV.out 3;have z4:=Go.Joins.cell_of_block HTV.out 4;obtain⟨w12,hw12⟩: ∃W,W=w11.alloc (.cells #[.string ⟨#[95,105,100]⟩] 9):=⟨_,rfl⟩;have hn12:w12.heap[w11.heap.size]? =some (.cells #[.string ⟨#[95,105,100]⟩] 9 (0,0)):=by rw[hw12];exact heap_alloc_new _ _
 have hb12:Below w11.heap.size w11 w12:=by rw[hw12];exact eH _ _
 have hz12:w11.heap.size<w12.heap.size:=by rw[hw12];simp
 have HB12:Hid (Below w2.heap.size w2 w12):=Lib.hid (HB11.out.trans ((hb12).mono HB11.out.size));have HR12:=Lib.hid (HR11.out.next hb12);have HA12:=Lib.hid (HA11.out.next hb12);have HJ12:=Lib.hid (HJ11.out.next hb12);clear HR11 HA11 HJ11
 have HG:Hid (Calls Tryz.prog 22 #[.agg #[.int .i64 t.kind,.int .i64 t.num,.string t.text,.slice EA t.items.length Ec,.slice EA' t.names.length Ec'],.slice (some ⟨w11.heap.size,0,none⟩) 1 1] w12 fun e w'=> ∃v',e= .returned (.tuple #[v',.bool true])∧LV w' (fun b=>b<w12.heap.size) X v'∧Below w12.heap.size w12 w'):=Lib.hid (by
  have e1:okT t idP=true:=by unfold okT;rw[show aT t idP=some X from HXX.out.1];rfl
  have e2:ly t idP=X:=by unfold ly;rw[show aT t idP=some X from HXX.out.1];rfl
  refine(ie (fun b=>b<w12.heap.size) t _ (some ⟨w11.heap.size,0,none⟩) 1 idP w12 (fun b hb=>hb) ((HW.out w12 HB12.out).2.1.imp fun b hb=>(HW.out w12 HB12.out).1 b hb) HWV.out.1.1 (dT hn12 hz12 (by decide)) (by decide)).mono fun e w' hh=> ?_;obtain⟨v',h1,h2,h3⟩:=hh;rw[e1]at h1;rw[e2]at h2
  exact⟨v',h1,h2,h3⟩)
 rw[hw11]at z0 z1 z2 z3 z4;clear hb11 HV10;go_wp2_with fail;have hs11:w10.heap.size+1=w11.heap.size:=by rw[hw11];simp
 rw[←hw11,←hw12,hs11,←hgB];clear hs11;clear hw11 hw12 hgB z0 z1 z2 z3 z4 hn12 hb12 hz12 HTV;refine HG.out.mono ?_;rintro e w13 ⟨v13,rfl,hv13,hb13⟩;obtain⟨JA,Jc,JA',Jc',rfl,-⟩:=hv13.shape;have HV13:Hid (LV w13 (fun b=>b<w13.heap.size) X (.agg #[.int .i64 X.kind,.int .i64 X.num,.string X.text,.slice JA X.items.length Jc,.slice JA' X.names.length Jc'])):=Lib.hid (hv13.imp fun b hb=>Nat.lt_of_lt_of_le hb hb13.size);have HB13:Hid (Below w2.heap.size w2 w13):=Lib.hid (HB12.out.trans ((hb13).mono HB12.out.size));have HR13:=Lib.hid (HR12.out.next hb13);have HA13:=Lib.hid (HA12.out.next hb13);have HJ13:=Lib.hid (HJ12.out.next hb13);clear HR12 HA12 HJ12;clear hv13 hb13 HG;obtain⟨w14,hw14⟩: ∃W,W=w13.alloc (.cells #[.int .i64 X.kind,.int .i64 X.num,.string X.text,.slice JA X.items.length Jc,.slice JA' X.names.length Jc'] 25):=⟨_,rfl⟩;obtain⟨gX,hgX⟩: ∃g,g=w13.heap.size:=⟨_,rfl⟩;have hb14:Below w13.heap.size w13 w14:=by rw[hw14];exact eH _ _
 have HB14:Hid (Below w2.heap.size w2 w14):=Lib.hid (HB13.out.trans ((hb14).mono HB13.out.size));have HR14:=Lib.hid (HR13.out.next hb14);have HA14:=Lib.hid (HA13.out.next hb14);have HJ14:=Lib.hid (HJ13.out.next hb14);clear HR13 HA13 HJ13;have HX14:Hid (KV w14 gX X JA Jc JA' Jc'):=Lib.hid (by rw[hw14,hgX];exact KV.new (fun b hb=>hb) HV13.out);have z0:=HR14.out.box.c0;have z1:=HR14.out.box.c1;have z2:=HR14.out.box.c2;have z3:=HR14.out.box.c3;have z4:=HR14.out.box.c4;obtain⟨w15,hw15⟩: ∃W,W=w14.alloc (.cells #[.string ⟨#[95,105,100]⟩] 9):=⟨_,rfl⟩;have hn15:w15.heap[w14.heap.size]? =some (.cells #[.string ⟨#[95,105,100]⟩] 9 (0,0)):=by rw[hw15];exact heap_alloc_new _ _
 have hb15:Below w14.heap.size w14 w15:=by rw[hw15];exact eH _ _
 have hz15:w14.heap.size<w15.heap.size:=by rw[hw15];simp
 have HB15:Hid (Below w2.heap.size w2 w15):=Lib.hid (HB14.out.trans ((hb15).mono HB14.out.size));have HR15:=Lib.hid (HR14.out.next hb15);have HA15:=Lib.hid (HA14.out.next hb15);have HJ15:=Lib.hid (HJ14.out.next hb15);have HX15:=Lib.hid (HX14.out.next hb15);clear HR14 HA14 HJ14 HX14
 have HG:Hid (Calls Tryz.prog 22 #[.agg #[.int .i64 R.kind,.int .i64 R.num,.string R.text,.slice GA R.items.length Gc,.slice GA' R.names.length Gc'],.slice (some ⟨w14.heap.size,0,none⟩) 1 1] w15 fun e w'=> ∃v',e= .returned (.tuple #[v',.bool true])∧LV w' (fun b=>b<w15.heap.size) X v'∧Below w15.heap.size w15 w'):=Lib.hid (by
  have e1:okT R idP=true:=by unfold okT;rw[show aT R idP=some X from HXX.out.2];rfl
  have e2:ly R idP=X:=by unfold ly;rw[show aT R idP=some X from HXX.out.2];rfl
  refine(ie (fun b=>b<w15.heap.size) R _ (some ⟨w14.heap.size,0,none⟩) 1 idP w15 (fun b hb=>hb) HR15.out.val (bB.1 HTW.out.2.1).1 (dT hn15 hz15 (by decide)) (by decide)).mono fun e w' hh=> ?_;obtain⟨v',h1,h2,h3⟩:=hh;rw[e1]at h1;rw[e2]at h2
  exact⟨v',h1,h2,h3⟩)
 rw[hw14]at z0 z1 z2 z3 z4;clear hb14 HV13;go_wp2_with fail;have hs14:w13.heap.size+1=w14.heap.size:=by rw[hw14];simp
 rw[←hw14,←hw15,hs14,←hgX];clear hs14;clear hw14 hw15 hgX z0 z1 z2 z3 z4 hn15 hb15 hz15;refine HG.out.mono ?_;rintro e w16 ⟨v16,rfl,hv16,hb16⟩;obtain⟨KA,Kc,KA',Kc',rfl,-⟩:=hv16.shape;have HV16:Hid (LV w16 (fun b=>b<w16.heap.size) X (.agg #[.int .i64 X.kind,.int .i64 X.num,.string X.text,.slice KA X.items.length Kc,.slice KA' X.names.length Kc'])):=Lib.hid (hv16.imp fun b hb=>Nat.lt_of_lt_of_le hb hb16.size);have HB16:Hid (Below w2.heap.size w2 w16):=Lib.hid (HB15.out.trans ((hb16).mono HB15.out.size));have HR16:=Lib.hid (HR15.out.next hb16);have HA16:=Lib.hid (HA15.out.next hb16);have HJ16:=Lib.hid (HJ15.out.next hb16);have HX16:=Lib.hid (HX15.out.next hb16);clear HR15 HA15 HJ15 HX15;clear hv16 hb16 HG;obtain⟨w17,hw17⟩: ∃W,W=w16.alloc (.cells #[.int .i64 X.kind,.int .i64 X.num,.string X.text,.slice KA X.items.length Kc,.slice KA' X.names.length Kc'] 25):=⟨_,rfl⟩;obtain⟨gY,hgY⟩: ∃g,g=w16.heap.size:=⟨_,rfl⟩;have hb17:Below w16.heap.size w16 w17:=by rw[hw17];exact eH _ _
 have HB17:Hid (Below w2.heap.size w2 w17):=Lib.hid (HB16.out.trans ((hb17).mono HB16.out.size));have HR17:=Lib.hid (HR16.out.next hb17);have HA17:=Lib.hid (HA16.out.next hb17);have HJ17:=Lib.hid (HJ16.out.next hb17);have HX17:=Lib.hid (HX16.out.next hb17);clear HR16 HA16 HJ16 HX16;have HY17:Hid (KV w17 gY X KA Kc KA' Kc'):=Lib.hid (by rw[hw17,hgY];exact KV.new (fun b hb=>hb) HV16.out);have HSM:=Lib.hid (gc (fun b=>b<w17.heap.size) (ac R) R R _ _ w17 (Nat.le_refl _) (fun b hb=>hb) HA17.out.val HR17.out.val);have y0:=HA17.out.box.c0;have y1:=HA17.out.box.c1;have y2:=HA17.out.box.c2;have y3:=HA17.out.box.c3;have y4:=HA17.out.box.c4;have z0:=HR17.out.box.c0;have z1:=HR17.out.box.c1;have z2:=HR17.out.box.c2;have z3:=HR17.out.box.c3;have z4:=HR17.out.box.c4;rw[hw17]at y0 y1 y2 y3 y4 z0 z1 z2 z3 z4;clear hb17 HV16;go_wp2_with fail;rw[←hw17,←hgY];clear hw17 hgY;clear y0 y1 y2 y3 y4 z0 z1 z2 z3 z4;refine HSM.out.mono ?_;rintro e w18 ⟨⟨r17,rfl,hr17⟩,hb18⟩;obtain rfl:r17=true:=hr17.2 trivial;have HB18:Hid (Below w2.heap.size w2 w18):=Lib.hid (HB17.out.trans ((hb18).mono HB17.out.size));have HR18:=Lib.hid (HR17.out.next hb18);have HA18:=Lib.hid (HA17.out.next hb18);have HJ18:=Lib.hid (HJ17.out.next hb18);have HX18:=Lib.hid (HX17.out.next hb18);have HY18:=Lib.hid (HY17.out.next hb18);clear HR17 HA17 HJ17 HX17 HY17;clear hr17 hb18 HSM;have HSM:=Lib.hid (gc (fun b=>b<w18.heap.size) (ac R) R R _ _ w18 (Nat.le_refl _) (fun b hb=>hb) HJ18.out.val HR18.out.val);have y0:=HJ18.out.box.c0;have y1:=HJ18.out.box.c1
 have y2:=HJ18.out.box.c2;have y3:=HJ18.out.box.c3;have y4:=HJ18.out.box.c4;have z0:=HR18.out.box.c0;have z1:=HR18.out.box.c1;have z2:=HR18.out.box.c2;have z3:=HR18.out.box.c3;have z4:=HR18.out.box.c4;go_wp2_with fail;clear y0 y1 y2 y3 y4 z0 z1 z2 z3 z4;refine HSM.out.mono ?_;rintro e w19 ⟨⟨r18,rfl,hr18⟩,hb19⟩;obtain rfl:r18=true:=hr18.2 trivial;have HB19:Hid (Below w2.heap.size w2 w19):=Lib.hid (HB18.out.trans ((hb19).mono HB18.out.size));have HR19:=Lib.hid (HR18.out.next hb19);have HA19:=Lib.hid (HA18.out.next hb19);have HJ19:=Lib.hid (HJ18.out.next hb19);have HX19:=Lib.hid (HX18.out.next hb19);have HY19:=Lib.hid (HY18.out.next hb19);clear HR18 HA18 HJ18 HX18 HY18;clear hr18 hb19 HSM;have HSM:=Lib.hid (gc (fun b=>b<w19.heap.size) (ac X) X X _ _ w19 (Nat.le_refl _) (fun b hb=>hb) HX19.out.val HY19.out.val);have y0:=HX19.out.box.c0;have y1:=HX19.out.box.c1;have y2:=HX19.out.box.c2;have y3:=HX19.out.box.c3;have y4:=HX19.out.box.c4;have z0:=HY19.out.box.c0;have z1:=HY19.out.box.c1;have z2:=HY19.out.box.c2;have z3:=HY19.out.box.c3;have z4:=HY19.out.box.c4;go_wp2_with fail;clear y0 y1 y2 y3 y4 z0 z1 z2 z3 z4;refine HSM.out.mono ?_;rintro e w20 ⟨⟨r19,rfl,hr19⟩,hb20⟩;obtain rfl:r19=true:=hr19.2 trivial;have HB20:Hid (Below w2.heap.size w2 w20):=Lib.hid (HB19.out.trans ((hb20).mono HB19.out.size));have HR20:=Lib.hid (HR19.out.next hb20);have HA20:=Lib.hid (HA19.out.next hb20);have HJ20:=Lib.hid (HJ19.out.next hb20);have HX20:=Lib.hid (HX19.out.next hb20);have HY20:=Lib.hid (HY19.out.next hb20)
 clear HR19 HA19 HJ19 HX19 HY19;clear hr19 hb20 HSM;have HWH:=Lib.hid (qU (fun b=>b<w20.heap.size) R _ w20 (fun b hb=>hb) HR20.out.val (by have:=HAM.out.1;omega));have y0:=HR20.out.box.c0;have y1:=HR20.out.box.c1;have y2:=HR20.out.box.c2;have y3:=HR20.out.box.c3;have y4:=HR20.out.box.c4;go_wp2_with fail;refine HWH.out.mono ?_;rintro e w21 ⟨rfl,hb21⟩;have HE:=Lib.hid ((HW.out w20 HB20.out).2.2.2.2.1.trans (hb21.mono (HW.out w20 HB20.out).2.2.2.2.1.size));clear hb21 y0 y1 y2 y3 y4 HWH;rw[HRW.out];go_wp2_with fail;go_ret;exact⟨rfl,HE.out⟩
theorem laid_met (os:Os):laidMet Tryz.prog Rows.updateTwiceRow.laid ((iM os).forCall (fun _ _=>0) ⟨#[], #[.agg #[.int .i64 0,.int .i64 0,.string ByteArray.empty,.slice none 0 0,.slice none 0 0],.agg #[.bool false,.int .i64 0,.int .i64 0,.string ByteArray.empty,.slice none 0 0,.slice none 0 0,.slice none 0 0]],[]⟩).memory:=
 laidMet_of_run' 8 (by kernel_rfl) (by kernel_rfl)
theorem contract (H:Type)(enc:TypeId×Value→H)(W:World)(base:Nat)(args:Array Value)(ds gs:List (DataW H))(before:List MemPlace)
  (hval: ∀(j:Nat) t v,Tryz.f5.params[j]? =some t→args[j]? =some v→Value.okWide Tryz.prog W .any base t v)
  (hW:DataW.Whole enc Tryz.prog Tryz.f5.params.toList Rows.updateTwiceSpec.vars false W args.toList ds gs before)
  (hsz:(DataW.weightsEach Tryz.prog (Tryz.f5.params.toList++Rows.updateTwiceSpec.plain.varTypes Tryz.prog) (ds++gs)).all (· ≤reachBytes)=true) (hL:laidMetH Tryz.prog Rows.updateTwiceRow.laid W):
  Calls Tryz.prog 5 args W fun e W'=> ∃v,e= .returned v∧Rows.updateTwiceSpec.post enc Tryz.prog Tryz.f5 false true false false W args v W':=by
 have hW':=hW;obtain⟨p,q,hA0,hV,rfl,hfz,hnd⟩:=hW;have hA:DataW.TrodAll enc Tryz.prog W 0 (fun _=>true) true Tryz.f5.params.toList args.toList ds p:=hA0;rw[Tryz.params5]at hA hval hsz;obtain⟨v0,v1,d0,d1,p0,p1,rfl,rfl,rfl,h0,h1⟩:=trodAll_two hA;obtain⟨rfl,rfl⟩:=trodVars_none hV;obtain⟨a0,rfl,-⟩:=okWide_struct Tryz.underlying25 (hval 0 25 v0 rfl rfl);have k0:=h0;have lt0: ∀x∈p0,x.block<W.heap.size:=by obtain⟨m,hm⟩:=k0;exact DataW.trod_lt m _ _ _ hm
 have wt0: ∀n∈d0.weights Tryz.prog 25,n≤reachBytes:=fun n hn=>by have:=List.all_eq_true.1 hsz n (DataW.weights_mem_each (j:=0) rfl rfl n hn);simpa using this
 obtain⟨a1,rfl,-⟩:=okWide_struct Tryz.underlying28 (hval 1 28 v1 rfl rfl);have k1:=h1;have lt1: ∀x∈p1,x.block<W.heap.size:=by obtain⟨m,hm⟩:=k1;exact DataW.trod_lt m _ _ _ hm
 have wt1: ∀n∈d1.weights Tryz.prog 28,n≤reachBytes:=fun n hn=>by have:=List.all_eq_true.1 hsz n (DataW.weights_mem_each (j:=1) rfl rfl n hn);simpa using this
 clear hA0
 obtain⟨t0,ht0⟩: ∃t,LV W (fun b=>b<W.heap.size) t (.agg a0):=by
  obtain⟨m,hm⟩:=k0;have h3:=iy m _ _ hm wt0;simpa[Value.cells]using h3
 obtain⟨sp1,hsp1,hcp1⟩: ∃s:ba,cl W (fun b=>b<W.heap.size) s a1∧gE W s.ops a1:=by
  obtain⟨m,hm⟩:=k1;obtain⟨s,h3,h4⟩:=sN hm wt1;exact⟨s,by simpa[Value.cells]using h3,by simpa[Value.cells]using h4⟩
 refine(walk t0 _ sp1 _ W (zS hL) ht0 hsp1 hcp1).mono fun e W' ⟨he,bel⟩=> ?_;subst he;exact⟨_,rfl,_,_,_,[],_,[],hW',trodAll_mk1 (shut_bool Tryz.underlying4 _),trodAll_mk2 (Below.trod laidOut (by kernel_rfl) (of_decide_eq_true (by kernel_rfl)) k0 bel lt0) (Below.trod laidOut (by kernel_rfl) (of_decide_eq_true (by kernel_rfl)) k1 bel lt1),rfl,bel.frame _,fun h=>by cases h⟩
theorem lifted (os:Os)(started:os.Started)(H:Type)(enc:TypeId×Value→H)(F:Stop.Interp):
  ReturnsInHanded {} Tryz.checked os 5 .any ((OpenSpec.ofChange Rows.updateTwiceSpec).preRow enc Tryz.prog Tryz.f5 Rows.updateTwiceRow.domain false Rows.updateTwiceRow.laid) (((OpenSpec.ofChange Rows.updateTwiceSpec).at F).post enc Tryz.prog Tryz.f5 false true false false):=by
 refine returnsInHanded_of_row (C:=Tryz.checked) (s:=OpenSpec.ofChange Rows.updateTwiceSpec) own started (by kernel_rfl) Tryz.func5
  (witness_row_at (enc:=enc) (C:=Tryz.checked) false (iM os) #[.agg #[.int .i64 0,.int .i64 0,.string ByteArray.empty,.slice none 0 0,.slice none 0 0],.agg #[.bool false,.int .i64 0,.int .i64 0,.string ByteArray.empty,.slice none 0 0,.slice none 0 0,.slice none 0 0]] rfl (by kernel_rfl) (by kernel_rfl) (by kernel_rfl)
   (OpenSpec.preRow_of_B rfl 8 (by kernel_rfl) (by kernel_rfl) (laid_met os))) ?_
 intro W base args ds gs before hval hW _ _ hsz hL _ _;exact contract H enc W base args ds gs before hval hW hsz hL
theorem said :Rows.UpdateTwiceSaid:=
 OpenClaim.holds_of_cond 5 Tryz.f5 rfl rfl rfl rfl rfl rfl rfl ⟨rfl,rfl,rfl,rfl,rfl⟩ rfl rfl rfl rfl rfl (by kernel_rfl) Tryz.func5 (by kernel_rfl)
  (of_decide_eq_true (by kernel_rfl)) (by unfold Func.isWrapper;first|(rw[if_pos (by decide +kernel)];kernel_rfl)|(rw[if_neg (by decide +kernel)];exact⟨rfl,rfl⟩))
  (fun os started H enc _ F=>by rw[OpenClaim.pre_eq_preRow];exact lifted os started H enc F)
theorem plain (f:FuncId)(fn:Func)(hf:Tryz.pinned.checked.prog.funcNamed "tributary/tributarylaw08.UpdateTwice" =some f)(hfn:Tryz.pinned.checked.prog.funcs[f]? =some fn):
  false=Tryz.pinned.checked.prog.looks []∧ ∀(j:Nat) t,fn.params[j]? =some t→Tryz.pinned.checked.prog.wantsStandIn t=false:=by
 obtain rfl:f=5:=Option.some.inj ((show Tryz.prog.funcNamed "tributary/tributarylaw08.UpdateTwice" =some 5 by kernel_rfl).symm.trans hf) |>.symm;obtain rfl:fn=Tryz.f5:=(Option.some.inj (Tryz.func5.symm.trans hfn)).symm;refine⟨by kernel_rfl,fun j t ht=> ?_⟩;rw[Tryz.params5]at ht;rcases j with _|j
 ·obtain rfl:t=25:=by simpa using ht.symm
  exact(show Tryz.prog.wantsStandIn 25=false by kernel_rfl)
 rcases j with _|j
 ·obtain rfl:t=28:=by simpa using ht.symm
  exact(show Tryz.prog.wantsStandIn 28=false by kernel_rfl)
 ·simp at ht
theorem proved :Rows.UpdateTwiceCardSaid:=
 Claim7.holds_tied_plain_at .later [] _ _ _ _ said (fun _ h=>by cases h) (by kernel_rfl) (fun _ h=>by cases h) updateTwice_row_tie rfl ⟨rfl,rfl⟩ (by kernel_rfl) rfl plain (by kernel_rfl)
end Go.Proofs.YtgbopnlpaabelaaGreatDoor.UTwice
