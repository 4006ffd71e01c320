/- What an update changes, by the program. -/
import Derived.Test.YtgbopnlpaabelaaGreatDoorKUpZ
import Derived.Test.YtgbopnlpaabelaaGreatDoorKSpJ
import Derived.Test.YtgbopnlpaabelaaGreatDoorKValF
import Derived.Test.YtgbopnlpaabelaaGreatDoorKOpenDl
import Derived.Test.YtgbopnlpaabelaaGreatDoorKTrA
set_option maxHeartbeats 64000000
set_option maxRecDepth 100000
set_option linter.unusedVariables false
set_option linter.unusedSimpArgs false
namespace Go.Proofs.YtgbopnlpaabelaaGreatDoor
open Lib (hid)
open Go.RowKit
def ChR (r:Int×List au)(w:World)(e:Ending)(w':World):Prop:=
 ∃A c,e= .returned (.tuple #[.slice A r.2.length c,.int .i64 r.1])∧bJ gH 8 w' (ba w.heap.size w') A r.2∧(A=none→c=0)∧r.2.length≤c∧Below w.heap.size w w'
theorem ChR.no {w w':World}(x:Int)(hb:Below w.heap.size w w'):ChR (x,[]) w (.returned (.tuple #[.slice none 0 0,.int .i64 x])) w':=⟨none,0,rfl,fun h=>absurd h (by simp),fun _=>rfl,Nat.le_refl _,hb⟩
structure th (t:VT)(s:bg):Prop where
 dt:ac t≤1000000
 zt:aA t≤9223372036854775807
 sm:mS s
 zo: ∀o∈s.ops,aA o.val≤9223372036854775807
 zd:aA s.doc≤9223372036854775807
theorem kq (S:Nat→Prop)(t:VT)(v:Value)(s:bg)(cs:Array Value)(w:World)(hS: ∀b,S b→b<w.heap.size)(h:LV w S t v)(hs:cw w S s cs)(hcap:lM w s.ops cs)(hin:th t s)(htab:Lib.TabIs Tryz.prog w "internal/strconv.uint64pow10" .u64 Lib.pow10Tab):
  Calls Tryz.prog 12 #[v,.agg cs] w (ChR (ay t s) w):=by
 have hv:=h;obtain⟨A0,c0,A0',c0',rfl,-,-,-,-,-,-,-⟩:=h.shape;have hss:=hs;obtain⟨DA,dc,DA',dc',OA,oc,rfl,hdv,hop,hoc,hol⟩:=hs;have hco:=hcap OA s.ops.length oc rfl;obtain⟨w2,hw2⟩: ∃W,W=(w.alloc (.cells #[.int .i64 t.kind,.int .i64 t.num,.string t.text,.slice A0 t.items.length c0,.slice A0' t.names.length c0'] 25)).alloc (.cells #[.bool s.rep,.int .i64 s.doc.kind,.int .i64 s.doc.num,.string s.doc.text,.slice DA s.doc.items.length dc,.slice DA' s.doc.names.length dc',.slice OA s.ops.length oc] 28):=⟨_,rfl⟩;have hz1:(w.alloc (.cells #[.int .i64 t.kind,.int .i64 t.num,.string t.text,.slice A0 t.items.length c0,.slice A0' t.names.length c0'] 25)).heap.size=w.heap.size+1:=by simp
 have hvb:w2.heap[w.heap.size]? =some (.cells #[.int .i64 t.kind,.int .i64 t.num,.string t.text,.slice A0 t.items.length c0,.slice A0' t.names.length c0'] 25 (0,0)):=by rw[hw2,Below.heap_alloc _ _ _ (by omega)];exact heap_alloc_new w _
 have hsb:w2.heap[w.heap.size+1]? =some (.cells #[.bool s.rep,.int .i64 s.doc.kind,.int .i64 s.doc.num,.string s.doc.text,.slice DA s.doc.items.length dc,.slice DA' s.doc.names.length dc',.slice OA s.ops.length oc] 28 (0,0)):=by rw[hw2,←hz1];exact heap_alloc_new _ _
 have hb2:Below w.heap.size w w2:=by rw[hw2];exact((Below.refl _ _).alloc (Nat.le_refl _) _).alloc (by omega) _
 have hz2:w2.heap.size=w.heap.size+2:=by rw[hw2];simp
 have HS:=hid hS;have HB2:=hid hb2;have HZ2:=hid hz2;have HBX:=hid (And.intro hvb hsb)
 have HW:Hid (∀W,Below w2.heap.size w2 W→(∀b,S b→b<W.heap.size)∧LV W S t (.agg #[.int .i64 t.kind,.int .i64 t.num,.string t.text,.slice A0 t.items.length c0,.slice A0' t.names.length c0'])∧cw W S s #[.bool s.rep,.int .i64 s.doc.kind,.int .i64 s.doc.num,.string s.doc.text,.slice DA s.doc.items.length dc,.slice DA' s.doc.names.length dc',.slice OA s.ops.length oc]∧lM W s.ops #[.bool s.rep,.int .i64 s.doc.kind,.int .i64 s.doc.num,.string s.doc.text,.slice DA s.doc.items.length dc,.slice DA' s.doc.names.length dc',.slice OA s.ops.length oc]∧Lib.TabIs Tryz.prog W "internal/strconv.uint64pow10" .u64 Lib.pow10Tab∧Below w.heap.size w W):=hid fun W hW=>by
  have hwW:Below w.heap.size w W:=hb2.trans (hW.mono hb2.size);have hk: ∀b,S b→W.heap[b]? =w.heap[b]? :=fun b hb=>hwW.block b (hS b hb);refine⟨fun b hb=>Nat.lt_of_lt_of_le (hS b hb) hwW.size,hv.keep hk,hss.keep hk,fun OA2 n2 oc2 e=> ?_,Lib.tabBelow_of_tabIs htab W hwW,hwW⟩;have e:some (Value.slice OA s.ops.length oc)=some (.slice OA2 n2 oc2):=e;injection e with e
  injection e with e1 e2 e3
  subst e1;exact hco.keep hop hk
 have HIN:=hid hin;have HID:=hid (Ay S t _ w2 (HW.out w2 (Below.refl _ _)).1 (HW.out w2 (Below.refl _ _)).2.1 (by have:=hin.dt;omega));clear hS h hv hss hcap hco hz1 hvb hsb hb2 hz2 hdv hop hoc hol hin htab;go_enter Tryz.func12,Tryz.ntmps12;go_wp2_with fail;rw[←hw2];clear hw2;refine HID.out.mono ?_;rintro e w3 ⟨v3,rfl,hv3,hb3⟩;obtain⟨B3,k3,B3',k3',rfl,-⟩:=hv3.shape;have HB3:=hid hb3;have HV3:=hid hv3;obtain⟨X,hX⟩: ∃X,X=(bC t idP).getD (.mk 0 0 ⟨#[]⟩ [] []):=⟨_,rfl⟩;rw[←hX];obtain⟨w4,hw4⟩: ∃W,W=w3.alloc (.cells #[.int .i64 X.kind,.int .i64 X.num,.string X.text,.slice B3 X.items.length k3,.slice B3' X.names.length k3'] 25):=⟨_,rfl⟩;have HB4:Hid (Below w2.heap.size w2 w4):=hid (by rw[hw4];exact hb3.alloc hb3.size _);have HVB4:=hid ((HB4.out.block _ (by have:=HZ2.out;omega)).trans HBX.out.1);have HSB4:=hid ((HB4.out.block _ (by have:=HZ2.out;omega)).trans HBX.out.2);obtain⟨has,hhas⟩: ∃b,b=(bC t idP).isSome:=⟨_,rfl⟩;rw[←hhas];have HH:=hid hhas;clear hX hhas hb3 hv3 HID HV3
 cases has with
 |false=>
  have HE:Hid (ay t s=(20,[])):=hid (lI (by
   cases e:dh t with
   |false=>rfl
   |true=>have:=(oE e).1;rw[←HH.out]at this;cases this))
  go_wp2_with fail;rw[←hw4];clear hw4;go_wp2_with fail
  go_ret2
  rw[HE.out]
  exact ChR.no 20 (HW.out w4 HB4.out).2.2.2.2.2
 |true=>
  have q0:=Go.Joins.cell_of_block HVB4.out 0;have q1:=Go.Joins.cell_of_block HVB4.out 1;have q2:=Go.Joins.cell_of_block HVB4.out 2;have q3:=Go.Joins.cell_of_block HVB4.out 3;have q4:=Go.Joins.cell_of_block HVB4.out 4;have HCK:=hid (fl S t _ w4 (HW.out w4 HB4.out).1 (HW.out w4 HB4.out).2.1 (by have:=HIN.out.dt;omega));rw[hw4]at q0 q1 q2 q3 q4;go_wp2_with fail;rw[←hw4];clear hw4 q0 q1 q2 q3 q4;refine HCK.out.mono ?_;rintro e w5 ⟨rfl,hb5⟩;have HB5:Hid (Below w2.heap.size w2 w5):=hid (HB4.out.trans (hb5.mono HB4.out.size));clear hb5 HCK;by_cases hc:az t=0;rotate_left
  ·have d:(az t != 0)=true:=by simp[hc]
   have HE:Hid (ay t s=(20,[])):=hid (lI (by
    cases e:dh t with
    |false=>rfl
    |true=>exact absurd (oE e).2 hc))
   clear hc;go_wp2_with fail
   go_ret2
   rw[HE.out];exact ChR.no 20 (HW.out w5 HB5.out).2.2.2.2.2
  have d:(az t != 0)=false:=by simp[hc]
  have HWT:Hid (dh t=true):=hid (by rw[←xE hc];exact HH.out.symm);have HSB5:=hid ((HB5.out.block _ (by have:=HZ2.out;omega)).trans HBX.out.2);have p0:=Go.Joins.cell_of_block HSB5.out 0;have p1:=Go.Joins.cell_of_block HSB5.out 1;have p2:=Go.Joins.cell_of_block HSB5.out 2;have p3:=Go.Joins.cell_of_block HSB5.out 3;have p4:=Go.Joins.cell_of_block HSB5.out 4;have p5:=Go.Joins.cell_of_block HSB5.out 5;have p6:=Go.Joins.cell_of_block HSB5.out 6;have HSC:=hid (qB S s _ w5 (HW.out w5 HB5.out).1 (HW.out w5 HB5.out).2.2.1 HIN.out.sm);clear hc;go_wp2_with fail;clear d;clear p0 p1 p2 p3 p4 p5 p6;refine HSC.out.mono ?_;rintro e w6 ⟨rfl,hb6⟩;have HB6:Hid (Below w2.heap.size w2 w6):=hid (HB5.out.trans (hb6.mono HB5.out.size));clear hb6 HSC;by_cases hc:bU s=0;rotate_left
  ·have d:(bU s != 0)=true:=by simp[hc]
   have HE:Hid (ay t s=(bU s,[])):=hid (nE HWT.out hc);clear hc;go_wp2_with fail
   go_ret2
   rw[HE.out];exact ChR.no _ (HW.out w6 HB6.out).2.2.2.2.2
  have d:(bU s != 0)=false:=by simp[hc]
  have HSB6:=hid ((HB6.out.block _ (by have:=HZ2.out;omega)).trans HBX.out.2);have HVB6:=hid ((HB6.out.block _ (by have:=HZ2.out;omega)).trans HBX.out.1);have p0:=Go.Joins.cell_of_block HSB6.out 0;have p1:=Go.Joins.cell_of_block HSB6.out 1;have p2:=Go.Joins.cell_of_block HSB6.out 2;have p3:=Go.Joins.cell_of_block HSB6.out 3;have p4:=Go.Joins.cell_of_block HSB6.out 4;have p5:=Go.Joins.cell_of_block HSB6.out 5;have p6:=Go.Joins.cell_of_block HSB6.out 6;have q0:=Go.Joins.cell_of_block HVB6.out 0;have q1:=Go.Joins.cell_of_block HVB6.out 1;have q2:=Go.Joins.cell_of_block HVB6.out 2;have q3:=Go.Joins.cell_of_block HVB6.out 3;have q4:=Go.Joins.cell_of_block HVB6.out 4;have HCS:=hid hc
  have HGA:Hid (Calls Tryz.prog 33 #[.agg #[.int .i64 t.kind,.int .i64 t.num,.string t.text,.slice A0 t.items.length c0,.slice A0' t.names.length c0'],.agg #[.bool s.rep,.int .i64 s.doc.kind,.int .i64 s.doc.num,.string s.doc.text,.slice DA s.doc.items.length dc,.slice DA' s.doc.names.length dc',.slice OA s.ops.length oc]] w6 (OpR S (gb t s) w6)):=hid (by
   obtain⟨g1,g2,g3,g4,g5,g6⟩:=HW.out w6 HB6.out;obtain⟨wt,kt,-⟩:=iU HWT.out HIN.out.zt;have hf:=(gZ HCS.out).1
   exact qO S t _ s _ w6 g1 g2 g3 g4 HIN.out.dt g5 (fun hr=>by
    obtain⟨-,r2,r3⟩:=ny hf hr
    exact zY wt kt (dz r3 HIN.out.zd) r2) (fun hr=>by have:=(kT hf hr).2.2.1;omega) (fun hr o ho=>Bi wt ((kT hf hr).2.2.2 o ho) (HIN.out.zo o ho)))
  have HE:Hid (ay t s=if(gb t s).1≠0 then((gb t s).1,[])else if 64<(gb t s).2.length then(3,[])else gb t s):=hid (rV HWT.out hc);clear hc;go_wp2_with fail;clear d;clear p0 p1 p2 p3 p4 p5 p6;clear q0 q1 q2 q3 q4;refine HGA.out.mono ?_;rintro e w7 ⟨A,c,rfl,hd7,hn7,hc7,hb7⟩;obtain⟨R,hR⟩: ∃R,R=gb t s:=⟨_,rfl⟩;rw[←hR]at hd7 hn7 hc7 HE;rw[←hR];have HB7:Hid (Below w2.heap.size w2 w7):=hid (HB6.out.trans (hb7.mono HB6.out.size))
  have HS7:Hid (∀b,((S b∧b<w6.heap.size)∨New w6.heap.size w7 b)→b<w7.heap.size):=hid fun b hb=>by
   rcases hb with k|k
   ·exact Nat.lt_of_lt_of_le k.2 hb7.size
   ·exact k.2
  have HD7:=hid hd7;clear hR hd7 hn7 hc7 hb7 HGA;by_cases hx:R.1=0;rotate_left
  ·have d:(R.1 != 0)=true:=by simp[hx]
   have HEE:Hid (ay t s=(R.1,[])):=hid (by rw[HE.out,if_pos hx]);clear hx;go_wp2_with fail
   go_ret2
   rw[HEE.out];exact ChR.no _ (HW.out w7 HB7.out).2.2.2.2.2
  have d:(R.1 != 0)=false:=by simp[hx]
  have HX:=hid hx;by_cases hl:64<R.2.length
  ·have d2:decide ((64:Int)<(R.2.length:Int))=true:=decide_eq_true (by omega);have HEE:Hid (ay t s=(3,[])):=hid (by rw[HE.out,if_neg (by simp[hx]),if_pos hl]);clear hx hl;go_wp2_with fail
   go_ret2
   rw[HEE.out];exact ChR.no _ (HW.out w7 HB7.out).2.2.2.2.2
  have d2:decide ((64:Int)<(R.2.length:Int))=false:=decide_eq_false (by omega);have HEE:Hid (ay t s=(0,R.2)):=hid (by rw[HE.out,if_neg (by simp[hx]),if_neg hl];exact Prod.ext hx rfl);have HCL:=hid (qU _ A c R.2 w7 HS7.out HD7.out (by omega));clear hx hl;go_wp2_with fail;refine HCL.out.mono ?_;rintro e w8 ⟨A8,c8,rfl,g1,g2,g3,hb8⟩;have HG:=hid (And.intro g1 (And.intro g2 g3));have HB8:Hid (Below w2.heap.size w2 w8):=hid (HB7.out.trans (hb8.mono HB7.out.size));clear g1 g2 g3 hb8 HCL;go_wp2_with fail
  go_ret2
  rw[HEE.out];exact⟨A8,c8,rfl,bJ.imp eu HG.out.2.2 (fun b hb=>⟨by have:=HB7.out.size;have:=HZ2.out;have:=hb.2;omega,hb.1⟩),HG.out.1,HG.out.2.1,(HW.out w8 HB8.out).2.2.2.2.2⟩
theorem cI {fn:Func}{p u v:Tmp}(h:fn.results= #[.cell p 25,.tmp u,.tmp v])(tmps:Array Value)(w:World)(g:Nat)(t:TypeId)(cs:Array Value)(fr:Nat×Nat)
  (hp:tmps.getD p undef= .pointer (some ⟨g,0,none⟩)) (hg:w.heap[g]? =some (.cells cs t fr)) (hi:(Tryz.prog.info? 25).map (·.size)=some cs.size):
  (results fn tmps).run Tryz.prog w= .ok (.tuple #[.agg cs,tmps.getD u undef,tmps.getD v undef]) w:=by
 have hp':tmps[p]?.getD undef= .pointer (some ⟨g,0,none⟩):=by simpa using hp
 simp[results,h,hp',asAddr,run_loadVar_row w g t 25 cs fr _ hg Tryz.underlying25 rfl hi]
def ApR (r:Int×VT×List au)(w:World)(e:Ending)(w':World):Prop:=
 ∃v A c,e= .returned (.tuple #[v,.slice A r.2.2.length c,.int .i64 r.1])∧LV w' (New w.heap.size w') r.2.1 v∧bJ gH 8 w' (ba w.heap.size w') A r.2.2∧(A=none→c=0)∧r.2.2.length≤c∧Below w.heap.size w w'
theorem ApR.no {w w':World}(x:Int)(hb:Below w.heap.size w w'):ApR (x,aT,[]) w (.returned (.tuple #[.agg #[.int .i64 0,.int .i64 0,.string ⟨#[]⟩,.slice none 0 0,.slice none 0 0],.slice none 0 0,.int .i64 x])) w':=
 ⟨_,none,0,rfl,ic _ _,fun h=>absurd h (by simp),fun _=>rfl,Nat.le_refl _,hb⟩
theorem qd {w:World}{S:Nat→Prop}{A:Option Addr}{l:List au}(h:bJ gH 8 w S A l):AJ w A l:=fun k hk b off hA PA n pc hc=>by
 obtain⟨b',off',hA',hb,hcs⟩:=h (by omega);rw[hA]at hA';injection hA' with hA'
 injection hA' with e1 e2
 subst e1 e2;obtain⟨cs,h1,h2⟩:=hcs k hk;have h3:=h2.2;obtain⟨PA2,pc2,VA,vc,VA',vc',rfl,-⟩:=h2.1;have h4:=h1 1 _ rfl;rw[h4]at hc;have:=h3 PA n pc (by simpa using hc);unfold maxLen at this;omega
theorem Aq {t:VT}{s:bg}(h:(ay t s).1≠0):aW t s=((ay t s).1,aT,[]):=by unfold aW;rw[if_pos h]
theorem Ak {t:VT}{s:bg}{l:List au}(h:ay t s=(0,l))(hx:(aQ l t).1≠0):aW t s=((aQ l t).1,aT,[]):=by
 unfold aW;rw[h,if_neg (by simp),if_pos hx]
theorem Ah {t:VT}{s:bg}{l:List au}(h:ay t s=(0,l))(hx:(aQ l t).1=0)(hc:az (aQ l t).2≠0):aW t s=(az (aQ l t).2,aT,[]):=by
 unfold aW;rw[h,if_neg (by simp),if_neg (by simp[hx]),if_pos hc]
theorem Az {t:VT}{s:bg}{l:List au}(h:ay t s=(0,l))(hx:(aQ l t).1=0)(hc:az (aQ l t).2=0):aW t s=(0,(aQ l t).2,l):=by
 unfold aW;rw[h,if_neg (by simp),if_neg (by simp[hx]),if_neg (by simp[hc])]
theorem ox {t:VT}{s:bg}{l:List au}(h:ay t s=(0,l)):dh t=true∧bU s=0:=by
 unfold ay at h
 cases hw:dh t with
 |false=>rw[if_pos hw]at h;injection h with h _;cases h
 |true=>
  rw[if_neg (by simp[hw])]at h;by_cases hc:bU s=0
  ·exact⟨rfl,hc⟩
  ·rw[if_pos hc]at h;injection h with h _;exact absurd h hc
theorem fp (S:Nat→Prop)(t:VT)(v:Value)(s:bg)(cs:Array Value)(w:World)(hS: ∀b,S b→b<w.heap.size)(h:LV w S t v)(hs:cw w S s cs)(hcap:lM w s.ops cs)(hin:th t s)(htab:Lib.TabIs Tryz.prog w "internal/strconv.uint64pow10" .u64 Lib.pow10Tab):
  Calls Tryz.prog 18 #[v,.agg cs] w (ApR (aW t s) w):=by
 have hv:=h;obtain⟨A0,c0,A0',c0',rfl,-,-,-,-,-,-,-⟩:=h.shape;have hss:=hs;obtain⟨DA,dc,DA',dc',OA,oc,rfl,hdv,hop,hoc,hol⟩:=hs;have hco:=hcap OA s.ops.length oc rfl;obtain⟨w2,hw2⟩: ∃W,W=((w.alloc (.cells #[.int .i64 t.kind,.int .i64 t.num,.string t.text,.slice A0 t.items.length c0,.slice A0' t.names.length c0'] 25)).alloc (.cells #[.bool s.rep,.int .i64 s.doc.kind,.int .i64 s.doc.num,.string s.doc.text,.slice DA s.doc.items.length dc,.slice DA' s.doc.names.length dc',.slice OA s.ops.length oc] 28)).alloc (.cells #[.int .i64 0,.int .i64 0,.string ⟨#[]⟩,.slice none 0 0,.slice none 0 0] 25):=⟨_,rfl⟩;have hz1:(w.alloc (.cells #[.int .i64 t.kind,.int .i64 t.num,.string t.text,.slice A0 t.items.length c0,.slice A0' t.names.length c0'] 25)).heap.size=w.heap.size+1:=by simp
 have hz1':((w.alloc (.cells #[.int .i64 t.kind,.int .i64 t.num,.string t.text,.slice A0 t.items.length c0,.slice A0' t.names.length c0'] 25)).alloc (.cells #[.bool s.rep,.int .i64 s.doc.kind,.int .i64 s.doc.num,.string s.doc.text,.slice DA s.doc.items.length dc,.slice DA' s.doc.names.length dc',.slice OA s.ops.length oc] 28)).heap.size=w.heap.size+2:=by simp
 have hvb:w2.heap[w.heap.size]? =some (.cells #[.int .i64 t.kind,.int .i64 t.num,.string t.text,.slice A0 t.items.length c0,.slice A0' t.names.length c0'] 25 (0,0)):=by rw[hw2,Below.heap_alloc _ _ _ (by omega),Below.heap_alloc _ _ _ (by omega)];exact heap_alloc_new w _
 have hsb:w2.heap[w.heap.size+1]? =some (.cells #[.bool s.rep,.int .i64 s.doc.kind,.int .i64 s.doc.num,.string s.doc.text,.slice DA s.doc.items.length dc,.slice DA' s.doc.names.length dc',.slice OA s.ops.length oc] 28 (0,0)):=by rw[hw2,Below.heap_alloc _ _ _ (by omega),←hz1];exact heap_alloc_new _ _
 have hrb:w2.heap[w.heap.size+2]? =some (.cells #[.int .i64 0,.int .i64 0,.string ⟨#[]⟩,.slice none 0 0,.slice none 0 0] 25 (0,0)):=by rw[hw2,←hz1'];exact heap_alloc_new _ _
 have hb2:Below w.heap.size w w2:=by rw[hw2];exact(((Below.refl _ _).alloc (Nat.le_refl _) _).alloc (by omega) _).alloc (by omega) _
 have hz2:w2.heap.size=w.heap.size+3:=by rw[hw2];simp
 have HS:=hid hS;have HB2:=hid hb2;have HZ2:=hid hz2;have HBX:=hid (And.intro hvb (And.intro hsb hrb))
 have HW:Hid (∀W,Below w2.heap.size w2 W→(∀b,S b→b<W.heap.size)∧LV W S t (.agg #[.int .i64 t.kind,.int .i64 t.num,.string t.text,.slice A0 t.items.length c0,.slice A0' t.names.length c0'])∧cw W S s #[.bool s.rep,.int .i64 s.doc.kind,.int .i64 s.doc.num,.string s.doc.text,.slice DA s.doc.items.length dc,.slice DA' s.doc.names.length dc',.slice OA s.ops.length oc]∧lM W s.ops #[.bool s.rep,.int .i64 s.doc.kind,.int .i64 s.doc.num,.string s.doc.text,.slice DA s.doc.items.length dc,.slice DA' s.doc.names.length dc',.slice OA s.ops.length oc]∧Lib.TabIs Tryz.prog W "internal/strconv.uint64pow10" .u64 Lib.pow10Tab∧Below w.heap.size w W):=hid fun W hW=>by
  have hwW:Below w.heap.size w W:=hb2.trans (hW.mono hb2.size);have hk: ∀b,S b→W.heap[b]? =w.heap[b]? :=fun b hb=>hwW.block b (hS b hb);refine⟨fun b hb=>Nat.lt_of_lt_of_le (hS b hb) hwW.size,hv.keep hk,hss.keep hk,fun OA2 n2 oc2 e=> ?_,Lib.tabBelow_of_tabIs htab W hwW,hwW⟩;have e:some (Value.slice OA s.ops.length oc)=some (.slice OA2 n2 oc2):=e;injection e with e
  injection e with e1 e2 e3
  subst e1;exact hco.keep hop hk
 have HIN:=hid hin;obtain⟨g1,g2,g3,g4,g5,g6⟩:=HW.out w2 (Below.refl _ _);have HCH:=hid (kq S t _ s _ w2 g1 g2 g3 g4 hin g5);clear hS h hv hss hcap hco hz1 hz1' hvb hsb hrb hb2 hz2 hdv hop hoc hol hin htab g1 g2 g3 g4 g5 g6;go_enter Tryz.func18,Tryz.ntmps18;go_wp2_with fail;rw[←hw2];clear hw2;refine HCH.out.mono ?_;rintro e w3 ⟨A,c,rfl,hr3,hn3,hc3,hb3⟩;have HB3:=hid hb3;obtain⟨R,hR⟩: ∃R,R=ay t s:=⟨_,rfl⟩;rw[←hR]at hr3 hc3;rw[←hR];have HR:=hid hR;have HR3:=hid (And.intro hr3 (And.intro hn3 hc3));clear hR hr3 hn3 hc3 hb3 HCH;by_cases hx:R.1=0;rotate_left
 ·have d:(R.1 != 0)=true:=by simp[hx]
  have HE:Hid (aW t s=(R.1,aT,[])):=hid (by rw[HR.out];exact Aq (by rw[←HR.out];exact hx));clear hx;have HRB9:=hid ((HB3.out.block _ (by have:=HZ2.out;omega)).trans HBX.out.2.2);go_wp2_with(refine aS (by rfl) 25 _ _ rfl rfl (w.heap.size+2) 0 rfl _ #[.int .i64 0,.int .i64 0,.string ⟨#[]⟩,.slice none 0 0,.slice none 0 0] rfl rfl _ #[.int .i64 0,.int .i64 0,.string ⟨#[]⟩,.slice none 0 0,.slice none 0 0] 25 HRB9.out (by simp) (by kernel_rfl) (by simp[Value.oneCell']) (by kernel_rfl) ?_;intro w9 hk ho hz;have HK9:=hid hk;have HO9:=hid (And.intro ho hz);clear hk ho hz);refine bodyPost_ret (cI rfl _ _ (w.heap.size+2) 25 _ (0,0) rfl HK9.out (by kernel_rfl)) rfl ?_;rw[HE.out];exact ApR.no _ (aJ (Nat.le_refl _) (HW.out w3 HB3.out).2.2.2.2.2 HO9.out.1 HO9.out.2 (by omega))
 have d:(R.1 != 0)=false:=by simp[hx]
 have HRZ:Hid (ay t s=(0,R.2)):=hid (by rw[←HR.out];exact Prod.ext hx rfl);have HWH:=hid (ox HRZ.out);have HWV:=hid (iU HWH.out.1 HIN.out.zt);have HFN:=hid (jV HWH.out.1 HIN.out.zt ⟨HWH.out.2,HIN.out.zo,HIN.out.zd⟩ HRZ.out);have HVB3:=hid ((HB3.out.block _ (by have:=HZ2.out;omega)).trans HBX.out.1);have q0:=Go.Joins.cell_of_block HVB3.out 0;have q1:=Go.Joins.cell_of_block HVB3.out 1;have q2:=Go.Joins.cell_of_block HVB3.out 2;have q3:=Go.Joins.cell_of_block HVB3.out 3;have q4:=Go.Joins.cell_of_block HVB3.out 4
 have HDA:Hid (Calls Tryz.prog 21 #[.agg #[.int .i64 t.kind,.int .i64 t.num,.string t.text,.slice A0 t.items.length c0,.slice A0' t.names.length c0'],.slice A R.2.length c] w3 (ej (aQ R.2 t) w3)):=hid (by
  obtain⟨g1,g2,g3,g4,g5,g6⟩:=HW.out w3 HB3.out
  exact rm (fun b=>S b∨ba w2.heap.size w3 b) t _ A c R.2 w3 4096 8 (fun b hb=>hb.elim (g1 b) (fun k=>k.2)) (g2.imp fun b hb=> .inl hb) HWV.out.1.2.1 (fD _ _ (Nat.le_refl _) HWV.out.1) (by omega) (by omega) ((qh HR3.out.1).imp fun b hb=> .inr hb) (qd HR3.out.1) (by have:=HFN.out.1;omega) (tE HFN.out.2.1))
 clear hx;go_wp2_with fail;clear d q0 q1 q2 q3 q4;refine HDA.out.mono ?_;rintro e w4 ⟨v4,rfl,hv4,hb4⟩;obtain⟨D,hD⟩: ∃D,D=aQ R.2 t:=⟨_,rfl⟩;rw[←hD]at hv4;rw[←hD];have HD:=hid hD;obtain⟨MA,mc,MA',mc',rfl,-⟩:=hv4.shape;obtain⟨w5,hw5⟩: ∃W,W=w4.alloc (.cells #[.int .i64 D.2.kind,.int .i64 D.2.num,.string D.2.text,.slice MA D.2.items.length mc,.slice MA' D.2.names.length mc'] 25):=⟨_,rfl⟩;have hbx:Box w5 w4.heap.size (.int .i64 D.2.kind) (.int .i64 D.2.num) (.string D.2.text) (.slice MA D.2.items.length mc) (.slice MA' D.2.names.length mc'):=by rw[hw5];exact Box.new ..
 have hb5:Below w4.heap.size w4 w5:=by rw[hw5];exact ae _
 have HB5:Hid (Below w2.heap.size w2 w5):=hid (HB3.out.trans ((hb4.trans (hb5.mono hb4.size)).mono HB3.out.size));have HZ5:Hid (w3.heap.size≤w4.heap.size):=hid hb4.size;have HV5:Hid (LV w5 (fun b=>w3.heap.size≤b∧b<w5.heap.size) D.2 (.agg #[.int .i64 D.2.kind,.int .i64 D.2.num,.string D.2.text,.slice MA D.2.items.length mc,.slice MA' D.2.names.length mc'])):=hid ((hv4.keep fun b hb=>hb5.block b hb.2).imp fun b hb=>⟨hb.1,Nat.lt_of_lt_of_le hb.2 hb5.size⟩);have HR5:Hid (bJ gH 8 w5 (ba w2.heap.size w3) A R.2):=hid (bJ.keep eu HR3.out.1 fun b hb=>(hb5.block b (Nat.lt_of_lt_of_le hb.2 hb4.size)).trans (hb4.block b hb.2));have HZ35:Hid (w3.heap.size≤w5.heap.size):=hid (Nat.le_trans hb4.size hb5.size);have HBOX5:=hid hbx;clear hD hv4 hb4 hb5 hbx HDA;by_cases hx:D.1=0;rotate_left
 ·have d:(D.1 == 0)=false:=by simp[hx]
  have d2:(D.1 != 0)=true:=by simp[hx]
  have HE:Hid (aW t s=(D.1,aT,[])):=hid (by rw[HD.out];exact Ak HRZ.out (by rw[←HD.out];exact hx));clear hx;have HRB9:=hid ((HB5.out.block _ (by have:=HZ2.out;omega)).trans HBX.out.2.2);go_wp2_with(rw[←hw5];refine aS (by rfl) 25 _ _ rfl rfl (w.heap.size+2) 0 rfl _ #[.int .i64 0,.int .i64 0,.string ⟨#[]⟩,.slice none 0 0,.slice none 0 0] rfl rfl _ #[.int .i64 0,.int .i64 0,.string ⟨#[]⟩,.slice none 0 0,.slice none 0 0] 25 HRB9.out (by simp) (by kernel_rfl) (by simp[Value.oneCell']) (by kernel_rfl) ?_;intro w9 hk ho hz;have HK9:=hid hk;have HO9:=hid (And.intro ho hz);clear hk ho hz);refine bodyPost_ret (cI rfl _ _ (w.heap.size+2) 25 _ (0,0) rfl HK9.out (by kernel_rfl)) rfl ?_;rw[HE.out];exact ApR.no _ (aJ (Nat.le_refl _) (HW.out w5 HB5.out).2.2.2.2.2 HO9.out.1 HO9.out.2 (by omega))
 have d:(D.1 == 0)=true:=by simp[hx]
 have HXD:=hid hx
 have HMD:Hid (cS D.2=true∧ac D.2≤1032):=hid (by
  have h:=sS HWV.out.1 HWV.out.2.1 HFN.out.1 HFN.out.2.1 HFN.out.2.2.1 HFN.out.2.2.2 (by rw[←HD.out];exact hx);rw[←HD.out]at h
  exact⟨h.1,h.2.2.2.1⟩)
 have HCK:=hid (fl (fun b=>w3.heap.size≤b∧b<w5.heap.size) D.2 _ w5 (fun b hb=>hb.2) HV5.out (by have:=HMD.out.2;omega));have y0:=HBOX5.out.c0;have y1:=HBOX5.out.c1;have y2:=HBOX5.out.c2;have y3:=HBOX5.out.c3;have y4:=HBOX5.out.c4;rw[hw5]at y0 y1 y2 y3 y4;clear hx;go_wp2_with fail;rw[←hw5];clear hw5 d y0 y1 y2 y3 y4;refine HCK.out.mono ?_;rintro e w6 ⟨rfl,hb6⟩;have HB6:Hid (Below w2.heap.size w2 w6):=hid (HB5.out.trans (hb6.mono HB5.out.size));have HBOX6:=hid (HBOX5.out.call hb6);have HV6:=hid (HV5.out.keep fun b hb=>hb6.block b hb.2);have HR6:Hid (bJ gH 8 w6 (ba w2.heap.size w3) A R.2):=hid (bJ.keep eu HR5.out fun b hb=>hb6.block b (Nat.lt_of_lt_of_le hb.2 HZ35.out));have HZ56:Hid (w5.heap.size≤w6.heap.size):=hid hb6.size;clear hb6 HCK;by_cases hc:az D.2=0;rotate_left
 ·have d2:(az D.2 != 0)=true:=by simp[hc]
  have HE:Hid (aW t s=(az D.2,aT,[])):=hid (by rw[HD.out];exact Ah HRZ.out (by rw[←HD.out];exact HXD.out) (by rw[←HD.out];exact hc));clear hc;have HRB9:=hid ((HB6.out.block _ (by have:=HZ2.out;omega)).trans HBX.out.2.2);go_wp2_with(refine aS (by rfl) 25 _ _ rfl rfl (w.heap.size+2) 0 rfl _ #[.int .i64 0,.int .i64 0,.string ⟨#[]⟩,.slice none 0 0,.slice none 0 0] rfl rfl _ #[.int .i64 0,.int .i64 0,.string ⟨#[]⟩,.slice none 0 0,.slice none 0 0] 25 HRB9.out (by simp) (by kernel_rfl) (by simp[Value.oneCell']) (by kernel_rfl) ?_;intro w9 hk ho hz;have HK9:=hid hk;have HO9:=hid (And.intro ho hz);clear hk ho hz);refine bodyPost_ret (cI rfl _ _ (w.heap.size+2) 25 _ (0,0) rfl HK9.out (by kernel_rfl)) rfl ?_;rw[HE.out];exact ApR.no _ (aJ (Nat.le_refl _) (HW.out w6 HB6.out).2.2.2.2.2 HO9.out.1 HO9.out.2 (by omega))
 have d2:(az D.2 != 0)=false:=by simp[hc]
 have HE:Hid (aW t s=(0,D.2,R.2)):=hid (by rw[HD.out];exact Az HRZ.out (by rw[←HD.out];exact HXD.out) (by rw[←HD.out];exact hc));have y0:=HBOX6.out.c0;have y1:=HBOX6.out.c1;have y2:=HBOX6.out.c2;have y3:=HBOX6.out.c3;have y4:=HBOX6.out.c4;have HRB9:=hid ((HB6.out.block _ (by have:=HZ2.out;omega)).trans HBX.out.2.2);clear hc;go_wp2_with(refine aS (by rfl) 25 _ _ rfl rfl (w.heap.size+2) 0 rfl _ #[.int .i64 D.2.kind,.int .i64 D.2.num,.string D.2.text,.slice MA D.2.items.length mc,.slice MA' D.2.names.length mc'] rfl rfl _ #[.int .i64 D.2.kind,.int .i64 D.2.num,.string D.2.text,.slice MA D.2.items.length mc,.slice MA' D.2.names.length mc'] 25 HRB9.out (by simp) (by kernel_rfl) (by simp[Value.oneCell']) (by kernel_rfl) ?_;intro w9 hk ho hz;have HK9:=hid hk;have HO9:=hid (And.intro ho hz);clear hk ho hz);refine bodyPost_ret (cI rfl _ _ (w.heap.size+2) 25 _ (0,0) rfl HK9.out (by kernel_rfl)) rfl ?_;rw[HE.out];have hz3:w2.heap.size≤w3.heap.size:=HB3.out.size;have hk9: ∀b,w2.heap.size≤b∧b<w6.heap.size→w9.heap[b]? =w6.heap[b]? :=cr HO9.out.1 (S:=fun b=>w2.heap.size≤b∧b<w6.heap.size) fun b hb=>⟨hb.2,by have:=hb.1;have:=HZ2.out;omega⟩;refine⟨_,A,c,rfl,(HV6.out.keep fun b hb=>hk9 b ⟨by have:=hb.1;omega,Nat.lt_of_lt_of_le hb.2 HZ56.out⟩).imp fun b hb=>⟨by have:=hb.1;have:=HZ2.out;omega,by rw[HO9.out.2];exact Nat.lt_of_lt_of_le hb.2 HZ56.out⟩,?_,HR3.out.2.1,HR3.out.2.2,aJ (Nat.le_refl _) (HW.out w6 HB6.out).2.2.2.2.2 HO9.out.1 HO9.out.2 (by omega)⟩;exact bJ.imp eu (bJ.keep eu HR6.out fun b hb=>hk9 b ⟨hb.1,by have:=hb.2;have:=HZ35.out;have:=HZ56.out;omega⟩) fun b hb=>⟨by have:=hb.1;have:=HZ2.out;omega,by rw[HO9.out.2];have:=hb.2;have:=HZ35.out;have:=HZ56.out;omega⟩
inductive OM where
 |leaf (t:OT):OM
 |pure (l:List Nat) (t:OM):OM
 |step (i:Nat) (t:OM):OM
 |fork (i:Nat) (a:OM) (j:Nat) (b:OM):OM
 |three (i:Nat) (a:OM) (j:Nat) (b:OM) (k:Nat) (c:OM):OM
section
variable {P :Program} {ops:Array Oper} {Q:Exit→Act→World→Prop} {md:Region.Mode} {R:World→World→Prop} {T:List Nat}
def kE (md:Region.Mode)(ops:Array Oper)(T:List Nat):Nat→OM→Array Bool→Bool
 |f,.leaf t,listed=>lS md ops T f t listed
 |f,.pure l t,listed=>l.length≤f && ll false md ops T l listed && kE md ops T (f - l.length) t (lj l listed)
 |f,.step i t,listed=>1≤f && (ops[i]?).isSome && Region.ready md ops listed == [i] && kE md ops T (f - 1) t (listed.setIfInBounds i true)
 |f,.fork i a j b,listed=>1≤f && (ops[i]?).isSome && (ops[j]?).isSome && Region.ready md ops listed == [i,j] && kE md ops T (f - 1) a (listed.setIfInBounds i true) && kE md ops T (f - 1) b (listed.setIfInBounds j true)
 |f,.three i a j b k c,listed=>1≤f && (ops[i]?).isSome && (ops[j]?).isSome && (ops[k]?).isSome && Region.ready md ops listed == [i,j,k] && kE md ops T (f - 1) a (listed.setIfInBounds i true) && kE md ops T (f - 1) b (listed.setIfInBounds j true) && kE md ops T (f - 1) c (listed.setIfInBounds k true)
def fW (R:World→World→Prop)(T:List Nat)(P:Program)(ops:Array Oper)(Q:Exit→Act→World→Prop):OM→Act→World→Prop
 | .leaf t,a,w=>eZ R T P ops Q t a w
 | .pure l t,a,w=>wpQuiet P ops (CRR R w) (fun a'=>fW R T P ops Q t a' w) (cJ ops l) a
 | .step i t,a,w=> ∀o,ops[i]? =some o→cz P ops Q o (fun a' w'=>(i∈T∨R w w')∧fW R T P ops Q t a' w') a w
 | .fork i x j y,a,w=>(∀o,ops[i]? =some o→cz P ops Q o (fun a' w'=>(i∈T∨R w w')∧fW R T P ops Q x a' w') a w)∧(∀o,ops[j]? =some o→cz P ops Q o (fun a' w'=>(j∈T∨R w w')∧fW R T P ops Q y a' w') a w)
 | .three i x j y k z,a,w=>(∀o,ops[i]? =some o→cz P ops Q o (fun a' w'=>(i∈T∨R w w')∧fW R T P ops Q x a' w') a w)∧(∀o,ops[j]? =some o→cz P ops Q o (fun a' w'=>(j∈T∨R w w')∧fW R T P ops Q y a' w') a w)∧(∀o,ops[k]? =some o→cz P ops Q o (fun a' w'=>(k∈T∨R w w')∧fW R T P ops Q z a' w') a w)
theorem dA (hrr: ∀w,R w w)(htr: ∀a b c,R a b→R b c→R a c)(hsel:Region.noSelect ops=true)(hQ: ∀c d v a w,Q (.panic c) (Act.put a d v) w→Q (.panic c) a w):
  ∀(t:OM) (f:Nat) (listed:Array Bool) (a:Act) (w:World),kE md ops T f t listed=true→fW R T P ops Q t a w→lW R T P md ops Q f listed a w
 | .leaf t,f,listed,a,w,hB,h=>dU hrr htr hsel hQ t f listed a w hB h
 | .pure l t,f,listed,a,w,hB,h=>by
  unfold kE at hB;simp only[Bool.and_eq_true,decide_eq_true_eq]at hB;obtain⟨⟨h1,h2⟩,h3⟩:=hB;have e:f=l.length+(f - l.length):=by omega
  rw[e]
  exact gn hrr R false hrr htr (by simp) hsel hQ _ l listed a h2 (fun a' h'=>dA hrr htr hsel hQ t _ _ a' w h3 h') h
 | .step i t,f,listed,a,w,hB,h=>by
  unfold kE at hB;simp only[Bool.and_eq_true,decide_eq_true_eq,beq_iff_eq]at hB;obtain⟨⟨⟨h1,h2⟩,h3⟩,h4⟩:=hB;obtain⟨o,ho⟩:=Option.isSome_iff_exists.1 h2;have e:f=(f - 1)+1:=by omega
  rw[e]
  exact lm ho h3 (da (fun a' w' h'=>⟨h'.1,dA hrr htr hsel hQ t _ _ a' w' h4 h'.2⟩) (h o ho))
 | .fork i x j y,f,listed,a,w,hB,h=>by
  unfold kE at hB;simp only[Bool.and_eq_true,decide_eq_true_eq,beq_iff_eq]at hB;obtain⟨⟨⟨⟨⟨h1,h2⟩,h3⟩,h4⟩,h5⟩,h6⟩:=hB;obtain⟨o,ho⟩:=Option.isSome_iff_exists.1 h2;obtain⟨o',ho'⟩:=Option.isSome_iff_exists.1 h3;have e:f=(f - 1)+1:=by omega
  rw[e];refine⟨(fun h0=>by rw[h4]at h0;cases h0),fun k hk=> ?_⟩;rw[h4]at hk;rcases List.mem_cons.1 hk with rfl|hk
  ·exact cD ho (da (fun a' w' h'=>⟨h'.1,dA hrr htr hsel hQ x _ _ a' w' h5 h'.2⟩) (h.1 o ho))
  ·obtain rfl:k=j:=by simpa using hk
   exact cD ho' (da (fun a' w' h'=>⟨h'.1,dA hrr htr hsel hQ y _ _ a' w' h6 h'.2⟩) (h.2 o' ho'))
 | .three i x j y k z,f,listed,a,w,hB,h=>by
  unfold kE at hB;simp only[Bool.and_eq_true,decide_eq_true_eq,beq_iff_eq]at hB;obtain⟨⟨⟨⟨⟨⟨⟨h1,h2⟩,h3⟩,h3'⟩,h4⟩,h5⟩,h6⟩,h7⟩:=hB;obtain⟨o,ho⟩:=Option.isSome_iff_exists.1 h2;obtain⟨o',ho'⟩:=Option.isSome_iff_exists.1 h3;obtain⟨o'',ho''⟩:=Option.isSome_iff_exists.1 h3';have e:f=(f - 1)+1:=by omega
  rw[e];refine⟨(fun h0=>by rw[h4]at h0;cases h0),fun q hk=> ?_⟩;rw[h4]at hk;rcases List.mem_cons.1 hk with rfl|hk
  ·exact cD ho (da (fun a' w' h'=>⟨h'.1,dA hrr htr hsel hQ x _ _ a' w' h5 h'.2⟩) (h.1 o ho))
  rcases List.mem_cons.1 hk with rfl|hk
  ·exact cD ho' (da (fun a' w' h'=>⟨h'.1,dA hrr htr hsel hQ y _ _ a' w' h6 h'.2⟩) (h.2.1 o' ho'))
  ·obtain rfl:q=k:=by simpa using hk
   exact cD ho'' (da (fun a' w' h'=>⟨h'.1,dA hrr htr hsel hQ z _ _ a' w' h7 h'.2⟩) (h.2.2 o'' ho''))
def xI (ops:Array Oper)(T:List Nat)(t:OM):Bool:=Region.noSelect ops && kE .any ops T ops.size t (Array.replicate ops.size false)
theorem pG (R:World→World→Prop)(hrr: ∀w,R w w)(htr: ∀a b c,R a b→R b c→R a c)(T:List Nat)(t:OM){id:Nat}{a:Act}{w:World}(hm:P.follows .mixedOrders=true)(hB:xI ops T t=true)
  (hQ: ∀c d v a w,Q (.panic c) (Act.put a d v) w→Q (.panic c) a w) (h:fW R T P ops Q t a w.drew):(Code.region id ops true).wp P Q a w:=by
 unfold xI at hB;simp only[Bool.and_eq_true]at hB;exact wp_region_any hm (ig (R:=R) (T:=T) _ _ _ _ (dA hrr htr hB.1 hQ t _ _ a w.drew hB.2 h))
theorem eP {t:OT}{a:Act}{w:World}(h:eZ R T P ops Q t a w):fW R T P ops Q (.leaf t) a w:=h
theorem As {l:List Nat}{t:OM}{a:Act}{w:World}(h:wpQuiet P ops (CRR R w) (fun a'=>fW R T P ops Q t a' w) (cJ ops l) a):fW R T P ops Q (.pure l t) a w:=h
theorem bK {i:Nat}{o:Oper}{t:OM}{a:Act}{w:World}(ho:ops[i]? =some o)
  (h: ∀K:Act→World→Prop,(∀a' w',(i∈T∨R w w')→fW R T P ops Q t a' w'→K a' w')→if Region.wanted o (yielded ops a.tmps)=true then o.wp P a w K Q else K (a.put o.dst undef) w):
  fW R T P ops Q (.step i t) a w:=fun o' ho'=>by
 rw[ho]at ho';injection ho' with e
 subst e;exact h _ fun _ _ h1 h2=>⟨h1,h2⟩
theorem gy {i j:Nat}{o o':Oper}{x y:OM}{a:Act}{w:World}(ho:ops[i]? =some o)(ho':ops[j]? =some o')
  (h: ∀K:Act→World→Prop,(∀a' w',(i∈T∨R w w')→fW R T P ops Q x a' w'→K a' w')→if Region.wanted o (yielded ops a.tmps)=true then o.wp P a w K Q else K (a.put o.dst undef) w)
  (h': ∀K:Act→World→Prop,(∀a' w',(j∈T∨R w w')→fW R T P ops Q y a' w'→K a' w')→if Region.wanted o' (yielded ops a.tmps)=true then o'.wp P a w K Q else K (a.put o'.dst undef) w):
  fW R T P ops Q (.fork i x j y) a w:=⟨bK (t:=x) ho h,bK (t:=y) ho' h'⟩
theorem yH {i j k:Nat}{o o' o'':Oper}{x y z:OM}{a:Act}{w:World}(ho:ops[i]? =some o)(ho':ops[j]? =some o')(ho'':ops[k]? =some o'')
  (h: ∀K:Act→World→Prop,(∀a' w',(i∈T∨R w w')→fW R T P ops Q x a' w'→K a' w')→if Region.wanted o (yielded ops a.tmps)=true then o.wp P a w K Q else K (a.put o.dst undef) w)
  (h': ∀K:Act→World→Prop,(∀a' w',(j∈T∨R w w')→fW R T P ops Q y a' w'→K a' w')→if Region.wanted o' (yielded ops a.tmps)=true then o'.wp P a w K Q else K (a.put o'.dst undef) w)
  (h'': ∀K:Act→World→Prop,(∀a' w',(k∈T∨R w w')→fW R T P ops Q z a' w'→K a' w')→if Region.wanted o'' (yielded ops a.tmps)=true then o''.wp P a w K Q else K (a.put o''.dst undef) w):
  fW R T P ops Q (.three i x j y k z) a w:=⟨bK (t:=x) ho h,bK (t:=y) ho' h',bK (t:=z) ho'' h''⟩
end
end Go.Proofs.YtgbopnlpaabelaaGreatDoor
