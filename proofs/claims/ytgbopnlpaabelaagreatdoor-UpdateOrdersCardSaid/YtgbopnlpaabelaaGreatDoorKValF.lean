/- Which values may be: a value's own fields. -/
import Derived.Test.YtgbopnlpaabelaaGreatDoorKMath
import Derived.Laws.IdiomStrings
import Derived.Lib.ConvBytes
import Derived.BigQuiet
import Derived.Deep.QuietTactic
import Derived.Deep.RegionWith
set_option maxHeartbeats 64000000
set_option maxRecDepth 100000
set_option linter.unusedVariables false
set_option linter.unusedSimpArgs false
namespace Go.Proofs.YtgbopnlpaabelaaGreatDoor
open Lib (hid)
open Go.RowKit
theorem LV.alloc {w:World}{S:Nat→Prop}{t:VT}{v:Value}(h:LV w S t v)(hS: ∀b,S b→b<w.heap.size)(o:Obj):LV (w.alloc o) S t v:=h.keep fun b hb=>Below.heap_alloc w o b (hS b hb)
theorem LV.below {w w':World}{S:Nat→Prop}{t:VT}{v:Value}(h:LV w S t v)(hS: ∀b,S b→b<w.heap.size)(hb:Below w.heap.size w w'):LV w' S t v:=h.keep fun b h=>hb.block b (hS b h)
theorem ai.below {w w':World}{S:Nat→Prop}{A:Option Addr}{ns:List ByteArray}(h:ai w S A ns)(hS: ∀b,S b→b<w.heap.size)(hb:Below w.heap.size w w'):ai w' S A ns:=h.keep fun b h=>hb.block b (hS b h)
theorem de {w:World}{S:Nat→Prop}(hS: ∀b,S b→b<w.heap.size)(o:Obj): ∀b,S b→b<(w.alloc o).heap.size:=fun b hb=>by have:=hS b hb;simp;omega
theorem ct {w w':World}{S:Nat→Prop}(hS: ∀b,S b→b<w.heap.size)(hb:Below w.heap.size w w'): ∀b,S b→b<w'.heap.size:=fun b h=>Nat.lt_of_lt_of_le (hS b h) hb.size
theorem am {w w1 w2:World}(h:Below w.heap.size w w1)(h2:Below w1.heap.size w1 w2):Below w.heap.size w w2:=h.trans (h2.mono h.size)
theorem dF {a b:Bool}(h:a=b):Ending.returned (.bool a)= .returned (.bool b):=by rw[h]
theorem Bp (i:Int)(s:ByteArray)(A A':Option Addr)(n c c':Nat)(ns:List ByteArray)(w:World):
  Calls Tryz.prog 81 #[.agg #[.int .i64 1,.int .i64 i,.string s,.slice A n c,.slice A' ns.length c']] w fun e w'=>e= .returned (.bool (aU 1 i s n ns))∧Below w.heap.size w w':=by
 have e0:aU 1 i s n ns=aU 1 i s n ns:=rfl
 conv at e0=>rhs;unfold aU
 simp only[Int.reduceEq,if_true,if_false,or_true,true_or,or_false,false_or]at e0;rw[e0];clear e0;go_enter Tryz.func81,Tryz.ntmps81;go_wp2_with(go_at_call 125;refine(eK _ _ _ _ _ _ _ _ _ _).mono ?_;rintro e w' ⟨rfl,hb⟩)
 all_goals
  go_ret
  first
   |exact⟨rfl,am (ae _) hb⟩
   |exact⟨rfl,ae _⟩
   |exact⟨dF (by simp_all [bo,bM]<;>(intros;omega)),am (ae _) hb⟩
   |exact⟨dF (by simp_all [bo,bM]<;>(intros;omega)),ae _⟩
theorem Bb (i:Int)(s:ByteArray)(A A':Option Addr)(n c c':Nat)(ns:List ByteArray)(w:World):
  Calls Tryz.prog 81 #[.agg #[.int .i64 2,.int .i64 i,.string s,.slice A n c,.slice A' ns.length c']] w fun e w'=>e= .returned (.bool (aU 2 i s n ns))∧Below w.heap.size w w':=by
 have e0:aU 2 i s n ns=aU 2 i s n ns:=rfl
 conv at e0=>rhs;unfold aU
 simp only[Int.reduceEq,if_true,if_false,or_true,true_or,or_false,false_or]at e0;rw[e0];clear e0;go_enter Tryz.func81,Tryz.ntmps81;go_wp2_with(go_at_call 125;refine(eK _ _ _ _ _ _ _ _ _ _).mono ?_;rintro e w' ⟨rfl,hb⟩)
 all_goals
  go_ret
  first
   |exact⟨rfl,am (ae _) hb⟩
   |exact⟨rfl,ae _⟩
   |exact⟨dF (by simp_all [bo,bM]<;>(intros;omega)),am (ae _) hb⟩
   |exact⟨dF (by simp_all [bo,bM]<;>(intros;omega)),ae _⟩
theorem Bw (i:Int)(s:ByteArray)(A A':Option Addr)(n c c':Nat)(ns:List ByteArray)(w:World):
  Calls Tryz.prog 81 #[.agg #[.int .i64 3,.int .i64 i,.string s,.slice A n c,.slice A' ns.length c']] w fun e w'=>e= .returned (.bool (aU 3 i s n ns))∧Below w.heap.size w w':=by
 have e0:aU 3 i s n ns=aU 3 i s n ns:=rfl
 conv at e0=>rhs;unfold aU
 simp only[Int.reduceEq,if_true,if_false,or_true,true_or,or_false,false_or]at e0;rw[e0];clear e0;go_enter Tryz.func81,Tryz.ntmps81;go_wp2_with(go_at_call 125;refine(eK _ _ _ _ _ _ _ _ _ _).mono ?_;rintro e w' ⟨rfl,hb⟩)
 all_goals
  go_ret
  first
   |exact⟨rfl,am (ae _) hb⟩
   |exact⟨rfl,ae _⟩
   |exact⟨dF (by simp_all [bo,bM]<;>(intros;omega)),am (ae _) hb⟩
   |exact⟨dF (by simp_all [bo,bM]<;>(intros;omega)),ae _⟩
theorem BB (i:Int)(s:ByteArray)(A A':Option Addr)(n c c':Nat)(ns:List ByteArray)(w:World):
  Calls Tryz.prog 81 #[.agg #[.int .i64 4,.int .i64 i,.string s,.slice A n c,.slice A' ns.length c']] w fun e w'=>e= .returned (.bool (aU 4 i s n ns))∧Below w.heap.size w w':=by
 have e0:aU 4 i s n ns=aU 4 i s n ns:=rfl
 conv at e0=>rhs;unfold aU
 simp only[Int.reduceEq,if_true,if_false,or_true,true_or,or_false,false_or]at e0;rw[e0];clear e0;go_enter Tryz.func81,Tryz.ntmps81;go_wp2_with(go_at_call 125;refine(eK _ _ _ _ _ _ _ _ _ _).mono ?_;rintro e w' ⟨rfl,hb⟩)
 all_goals
  go_ret
  first
   |exact⟨rfl,am (ae _) hb⟩
   |exact⟨rfl,ae _⟩
   |exact⟨dF (by simp_all [bo,bM]<;>(intros;omega)),am (ae _) hb⟩
   |exact⟨dF (by simp_all [bo,bM]<;>(intros;omega)),ae _⟩
theorem Bc (i:Int)(s:ByteArray)(A A':Option Addr)(n c c':Nat)(ns:List ByteArray)(w:World):
  Calls Tryz.prog 81 #[.agg #[.int .i64 5,.int .i64 i,.string s,.slice A n c,.slice A' ns.length c']] w fun e w'=>e= .returned (.bool (aU 5 i s n ns))∧Below w.heap.size w w':=by
 have e0:aU 5 i s n ns=aU 5 i s n ns:=rfl
 conv at e0=>rhs;unfold aU
 simp only[Int.reduceEq,if_true,if_false,or_true,true_or,or_false,false_or]at e0;rw[e0];clear e0;go_enter Tryz.func81,Tryz.ntmps81;go_wp2_with(go_at_call 125;refine(eK _ _ _ _ _ _ _ _ _ _).mono ?_;rintro e w' ⟨rfl,hb⟩)
 all_goals
  go_ret
  first
   |exact⟨rfl,am (ae _) hb⟩
   |exact⟨rfl,ae _⟩
   |exact⟨dF (by simp_all [bo,bM]<;>(intros;omega)),am (ae _) hb⟩
   |exact⟨dF (by simp_all [bo,bM]<;>(intros;omega)),ae _⟩
theorem Bg (i:Int)(s:ByteArray)(A A':Option Addr)(n c c':Nat)(ns:List ByteArray)(w:World):
  Calls Tryz.prog 81 #[.agg #[.int .i64 6,.int .i64 i,.string s,.slice A n c,.slice A' ns.length c']] w fun e w'=>e= .returned (.bool (aU 6 i s n ns))∧Below w.heap.size w w':=by
 have e0:aU 6 i s n ns=aU 6 i s n ns:=rfl
 conv at e0=>rhs;unfold aU
 simp only[Int.reduceEq,if_true,if_false,or_true,true_or,or_false,false_or]at e0;rw[e0];clear e0;go_enter Tryz.func81,Tryz.ntmps81;go_wp2_with(go_at_call 125;refine(eK _ _ _ _ _ _ _ _ _ _).mono ?_;rintro e w' ⟨rfl,hb⟩)
 all_goals
  go_ret
  first
   |exact⟨rfl,am (ae _) hb⟩
   |exact⟨rfl,ae _⟩
   |exact⟨dF (by simp_all [bo,bM]<;>(intros;omega)),am (ae _) hb⟩
   |exact⟨dF (by simp_all [bo,bM]<;>(intros;omega)),ae _⟩
theorem Br (i:Int)(s:ByteArray)(A A':Option Addr)(n c c':Nat)(ns:List ByteArray)(w:World)(S:Nat→Prop)(hS: ∀b,S b→b<w.heap.size)(hN:ai w S A' ns)(hl:ns.length≤140737488351232):
  Calls Tryz.prog 81 #[.agg #[.int .i64 7,.int .i64 i,.string s,.slice A n c,.slice A' ns.length c']] w fun e w'=>e= .returned (.bool (aU 7 i s n ns))∧Below w.heap.size w w':=by
 have e0:aU 7 i s n ns=aU 7 i s n ns:=rfl
 conv at e0=>rhs;unfold aU
 simp only[Int.reduceEq,if_true,if_false,or_true,true_or,or_false,false_or]at e0;rw[e0];clear e0;have HN:=hid (hN.below hS (ae (.cells #[.int .i64 7,.int .i64 i,.string s,.slice A n c,.slice A' ns.length c'] 25)));clear hN;go_enter Tryz.func81,Tryz.ntmps81;go_wp2_with(go_at_call 126;refine(pU S _ _ _ _ (de hS _) (by simp_all;exact HN.out) hl).mono ?_;rintro e w' ⟨rfl,hb⟩)
 all_goals
  go_ret
  first
   |exact⟨rfl,am (ae _) hb⟩
   |exact⟨rfl,ae _⟩
   |exact⟨dF (by simp_all [bo,bM]<;>(intros;omega)),am (ae _) hb⟩
   |exact⟨dF (by simp_all [bo,bM]<;>(intros;omega)),ae _⟩
theorem Bk (k i:Int)(s:ByteArray)(A A':Option Addr)(n c c':Nat)(ns:List ByteArray)(w:World)(hk: ¬(1≤k∧k≤7)):
  Calls Tryz.prog 81 #[.agg #[.int .i64 k,.int .i64 i,.string s,.slice A n c,.slice A' ns.length c']] w fun e w'=>e= .returned (.bool (aU k i s n ns))∧Below w.heap.size w w':=by
 have e0:aU k i s n ns=false:=by
  unfold aU;rw[if_neg (by omega),if_neg (by omega),if_neg (by omega),if_neg (by omega),if_neg (by omega),if_neg (by omega)]
 rw[e0];have b1:(k == 1)=false:=by simp;omega
 have b2:(k == 2)=false:=by simp;omega
 have b3:(k == 3)=false:=by simp;omega
 have b4:(k == 4)=false:=by simp;omega
 have b5:(k == 5)=false:=by simp;omega
 have b6:(k == 6)=false:=by simp;omega
 have b7:(k == 7)=false:=by simp;omega
 clear e0 hk;go_enter Tryz.func81,Tryz.ntmps81;go_wp2_with fail;go_ret;exact⟨rfl,ae _⟩
theorem xA (S:Nat→Prop)(t:VT)(v:Value)(w:World)(hS: ∀b,S b→b<w.heap.size)(h:LV w S t v):Calls Tryz.prog 81 #[v] w fun e w'=>e= .returned (.bool (nB t))∧Below w.heap.size w w':=by
 obtain⟨A,c,A',c',rfl,-,-,-,-,h5,h6,-⟩:=h.shape
 cases t with
 |mk k i s l ns=>
 show Calls Tryz.prog 81 #[.agg #[.int .i64 k,.int .i64 i,.string s,.slice A l.length c,.slice A' ns.length c']] w fun e w'=>e= .returned (.bool (aU k i s l.length ns))∧Below w.heap.size w w';by_cases hk:1≤k∧k≤7
 ·obtain rfl|rfl|rfl|rfl|rfl|rfl|rfl:k=1∨k=2∨k=3∨k=4∨k=5∨k=6∨k=7:=by omega
  ·exact Bp _ _ _ _ _ _ _ _ _
  ·exact Bb _ _ _ _ _ _ _ _ _
  ·exact Bw _ _ _ _ _ _ _ _ _
  ·exact BB _ _ _ _ _ _ _ _ _
  ·exact Bc _ _ _ _ _ _ _ _ _
  ·exact Bg _ _ _ _ _ _ _ _ _
  ·exact Br _ _ _ _ _ _ _ _ _ S hS h6 h5
 ·exact Bk _ _ _ _ _ _ _ _ _ _ hk
theorem yC (s:ByteArray)(w1:World): ∃cap w2,(convert 9 101 (.string s)).run Tryz.prog w1= .ok (.slice (some ⟨w1.heap.size,0,none⟩) s.size cap) w2∧Below w1.heap.size w1 w2∧
  (∀j u,(dg s.data.toList)[j]? =some u→w2.cell? ((⟨w1.heap.size,0,none⟩:Addr).add j)=some u):=by
 refine⟨_,_,Lib.run_convert_string_bytes w1 9 101 5 s Tryz.underlying9 Tryz.underlying101 Tryz.underlying5,Go.Joins.below_bytesWorld _ _ _ _ (Nat.le_refl _),?_⟩;intro j u hu
 have hj:j<s.size:=by
  have:=(List.getElem?_eq_some_iff.1 hu).1;simpa[dg]using this
 have e:((⟨w1.heap.size,0,none⟩:Addr).add j)=⟨w1.heap.size,j,none⟩:=by unfold Addr.add;split<;>simp_all
 rw[e,Lib.bytesWorld_cell w1 _ s j hj];have hj':j<s.data.toList.length:=by simpa using hj
 simp only[dg,List.getElem?_map,List.getElem?_eq_getElem hj',Option.map_some,List.getD,Option.getD_some]at hu ⊢;exact hu
set_option maxRecDepth 1000000 in
theorem kK (s:ByteArray)(w:World)(hs:s.size≤140737488351232):
  Calls Tryz.prog 91 #[.string s] w (rW (txt s) w):=by
 obtain⟨i0,hi,hz0,hz1,hz2⟩:=info_parts Tryz.infoU8;have HS:=hid hs;clear hs;go_enter Tryz.func91,Tryz.ntmps91;go_wp2_with fail;refine(jr s.size _ (by have:=HS.out;omega)).mono ?_;rintro e w1 ⟨v,rfl,hv,hb1⟩;obtain⟨cap,w2,hrun,hb2,hc2⟩:=yC s w1;have hv2:=hv.below hb2;have hb3:=om hb1 hb2;have hsz:=hb3.size;have hgl:=bA s.size;have hv':w2.ownsRow w.heap.size 5 1 v (grp s.size).length (dg (grp s.size)):=hv2;have HC:=hid hc2;clear hc2 hb1 hb2 hv hv2;go_wp2_with(at_builtin;go_must (refine wpList_append_own _ rfl _ _ 101 rfl w.heap.size 5 i0 (.int .u8 0) 1 1 Tryz.underlying101 hi hz0 hz1 hz2 rfl (by decide) _ _ _ rfl hv' ⟨w1.heap.size,0,none⟩ s.size cap (dg s.data.toList) rfl ?c0 ?c1 ?c2 ?c3 ?c4 ?c5 ?_));case c0=>simp[dg]
 case c1=>exact HC.out
 case c2=>exact nq _
 case c3=>have:=HS.out;unfold maxLen;omega
 case c4=>have:=HS.out;omega
 case c5=>exact hsz
 intro v3 w3 hown3 hg3 _;have hb4:Below w.heap.size w w3:=hb3.grown hg3 hsz (fun k hk=>(hv'.lt k hk).1)
 have hfin:iX w3 w.heap.size v3 (txt s):=by
  unfold iX txt;rw[jf,List.length_append];have e:s.data.toList.length=s.size:=by simp
  rw[e];exact hown3
 clear hown3 hg3 hv' hrun;go_wp2_with fail;go_ret;exact⟨_,rfl,hfin,hb4⟩
/-! Sources. -/
abbrev bZ (w w':World)(g:Nat):Prop:=w.grownBy w' (some g)
theorem bZ.refl (w:World)(g:Nat):bZ w w g:=World.grownBy.refl w _
theorem bZ.set {a w:World}{g:Nat}(h:bZ a w g)(i:Nat)(u:Value):bZ a (w.setCell ⟨g,i,none⟩ u) g:=
 ⟨h.os,h.tape,h.output,by simpa[World.setCell]using h.size,fun k hk hne=>(Below.heap_setCell w _ u k (by rintro rfl;exact hne rfl)).trans (h.block k hk hne)⟩
theorem bZ.alloc {a w:World}{g:Nat}(h:bZ a w g)(o:Obj):bZ a (w.alloc o) g:=
 ⟨h.os,h.tape,h.output,Nat.le_trans h.size (by simp),fun k hk hne=>(Below.heap_alloc w o k (Nat.lt_of_lt_of_le hk h.size)).trans (h.block k hk hne)⟩
theorem bZ.trans {a b c:World}{g:Nat}(h:bZ a b g)(k:bZ b c g):bZ a c g:=
 ⟨k.os.trans h.os,k.tape.trans h.tape,k.output.trans h.output,Nat.le_trans h.size k.size,fun i hi hne=>(k.block i (Nat.lt_of_lt_of_le hi h.size) hne).trans (h.block i hi hne)⟩
theorem bZ.below {a w:World}{g B:Nat}(h:bZ a w g)(hB:B≤a.heap.size)(hg:B≤g):Below B a w:=
 ⟨h.os,h.tape,h.output,h.size,fun k hk=>h.block k (by omega) (by rintro⟨⟩;omega)⟩
theorem bZ.ofBelow {a w:World}{g:Nat}(h:Below a.heap.size a w):bZ a w g:=⟨h.os,h.tape,h.output,h.size,fun k hk _=>h.block k hk⟩
def eE (k:Nat):Prop:= ∀(args:Array Value) (W:World),(callFunc k args).run Tryz.prog W= .ok (.enter k args) W
/-! groups -/
/-! Sources by what they have left: none, if they are bad. -/
def mc (n:Int):Nat:=if n≤4611686018427387904 then n.toNat else 4611686018427387904
theorem cj {x:VT}: ∀ {l:List VT},x∈l→ac x≤aK l
 | [],h=>by cases h
 |t::r,h=>by
  unfold aK;rcases List.mem_cons.1 h with rfl|h
  ·omega
  ·have:=cj h;omega
theorem aN (k i:Int)(s:ByteArray)(l:List VT)(ns:List ByteArray):ac (.mk k i s l ns)=aK l+1:=by unfold ac;rfl
theorem nV {σ:Type}{f:VT→Nat→σ→σ×Bool}{t:VT}{d:Nat}{st:σ}(h:(f t d st).2=false):dG f t d st=((f t d st).1,false):=by
 cases t;unfold dG;rw[if_neg (by rw[h];exact Bool.false_ne_true)]
theorem jK {σ:Type}{f:VT→Nat→σ→σ×Bool}{t:VT}{d:Nat}{st:σ}(h:(f t d st).2=true):dG f t d st=eq f t.items (d+1) (f t d st).1:=by
 cases t;unfold dG;rw[if_pos h];rfl
theorem mF {σ:Type}{f:VT→Nat→σ→σ×Bool}{t:VT}{r:List VT}{d:Nat}{st:σ}(h:(dG f t d st).2=false):eq f (t::r) d st=((dG f t d st).1,false):=by
 unfold eq;rw[if_neg (by rw[h];exact Bool.false_ne_true)]
theorem jR {σ:Type}{f:VT→Nat→σ→σ×Bool}{t:VT}{r:List VT}{d:Nat}{st:σ}(h:(dG f t d st).2=true):eq f (t::r) d st=eq f r d (dG f t d st).1:=by
 conv=>lhs;unfold eq
 rw[if_pos h]
theorem iK {σ:Type}{f:VT→Nat→σ→σ×Bool}{d:Nat}{st:σ}:eq f [] d st=(st,true):=by unfold eq;rfl
def uB {σ:Type}(k:Nat)(caps:Array Value)(S:Nat→Prop)(g:Nat)(Inv:World→σ→Prop)(f:VT→Nat→σ→σ×Bool)(top:Nat):Prop:=
 ∀(x:VT) (v:Value) (W:World) (lvl:Nat) (st:σ),g<W.heap.size→LV W S x v→lvl≤top→Inv W st→
  Calls Tryz.prog k (#[v,.int .i64 lvl]++caps) W fun e w'=>e= .returned (.bool (f x lvl st).2)∧Inv w' (f x lvl st).1∧bZ W w' g
theorem bZ.blk {w w':World}{g b:Nat}(h:bZ w w' g)(hb:b<w.heap.size)(hne:b≠g):w'.heap[b]? =w.heap[b]? :=h.block b hb (by rintro⟨⟩;exact hne rfl)
theorem mr {σ:Type}(k:Nat)(caps:Array Value)(S:Nat→Prop)(g:Nat)(Inv:World→σ→Prop)(f:VT→Nat→σ→σ×Bool)(top:Nat)(hcf0:eE k)(hSg: ∀b,S b→b<g)(htop:top≤4611686018427387904)
  (hInv: ∀W W' st,W'.heap[g]? =W.heap[g]? →Inv W st→Inv W' st) (hsee:uB k caps S g Inv f top):
  ∀(n:Nat) (t:VT) (v:Value) (w:World) (lvl:Nat) (st:σ),ac t≤n→LV w S t v→g<w.heap.size→lvl+ac t≤top→Inv w st→
   Calls Tryz.prog 79 #[v,.int .i64 lvl,.func (.func k) #[] caps] w fun e w'=>e= .returned (.bool (dG f t lvl st).2)∧Inv w' (dG f t lvl st).1∧bZ w w' g:=by
 intro n
 induction n with
 |zero=>intro t v w lvl st hd;cases t;rw[aN]at hd;omega
 |succ n ih=>
  intro t v w lvl st hd hv hg hlv hst;have hcf: ∀(args:Array Value) (W:World),(callFunc k args).run Tryz.prog W= .ok (.enter k args) W:=hcf0;have HV:=hid hv;obtain⟨A,c,A',c',rfl,-,-,-,hll,-,-,hit⟩:=hv.shape;have HIT:=hid hit;have HLL:=hid hll;have hlv2:lvl≤4611686018427387904:=by omega
  obtain⟨o,ho⟩: ∃o:Obj,o= .cells #[.int .i64 t.kind,.int .i64 t.num,.string t.text,.slice A t.items.length c,.slice A' t.names.length c'] 25:=⟨_,rfl⟩;have hI1:Inv (w.alloc o) st:=hInv _ _ _ (Below.heap_alloc w o g hg) hst;have hV1:LV (w.alloc o) S t _:=HV.out.alloc (fun b h=>Nat.lt_trans (hSg b h) hg) o;have SEE:=hid (hsee t _ (w.alloc o) lvl st (by simp;omega) hV1 (by omega) hI1);have HO:=hid ho;clear hv hit hll hst hI1 hV1 hsee hcf0;subst ho;generalize hR:dG f t lvl st=R;have HR:=hid hR;clear hR;go_enter Tryz.func79,Tryz.ntmps79;go_wp2_with fail;refine SEE.out.mono ?_;rintro e w1 ⟨rfl,hinv1,honly1⟩;have honly:bZ w w1 g:=((bZ.refl w g).alloc _).trans honly1;by_cases hf:(f t lvl st).2=true
  ·have hbx:w1.cell? ⟨w.heap.size,3,none⟩=some (.slice A t.items.length c):=by
    rw[World.cell?_of_block (a:=⟨w.heap.size,3,none⟩) (honly1.blk (b:=w.heap.size) (by simp) (by omega))];simp
   have HIN:=hid hinv1;have HON:=hid honly;have hsz:=honly.size;have HR1:Hid (eq f t.items (lvl+1) (f t lvl st).1=R):=by rw[←jK hf];exact HR
   clear HR;clear hinv1 honly1 honly SEE HO HV hlv2;go_wp2_with fail;clear hf;generalize (f t lvl st).1=st1 at *
   go_loopw [17] (fun i wr=> ∃(j:Nat) (sj:σ),i= .int .i64 j∧j≤t.items.length∧Hid (eq f (t.items.drop j) (lvl+1) sj=R∧Inv wr sj∧bZ w wr g)) (fun i _=>t.items.length - (intOf i).toNat)
   case atStart=>exact⟨0,st1,rfl,Nat.zero_le _,HR1.out,HIN.out,HON.out⟩
   case round=>
    obtain⟨j,sj,rfl,hj,HI⟩:=hrel;have hlb:=HLL.out;by_cases hlt:j<t.items.length
    ·obtain⟨b,off,rfl,hb,hl⟩:=HIT.out (by omega);obtain⟨c0,c1,c2,c3,c4,h0,h1,h2,h3,h4,hx⟩:=hl.at j hlt;obtain⟨A2,e2,A3,e3,hag,-⟩:=hx.shape;injection hag with hag
     injection hag with hag
     injection hag with g0 hag;injection hag with g1 hag;injection hag with g2 hag;injection hag with g3 hag;injection hag with g4 hag
     subst g0 g1 g2 g3 g4;have hbg:=hSg b hb;have hk:=HI.out.2.2.blk (b:=b) (by omega) (by omega);have hw: ∀o,wr.cell? ⟨b,o,none⟩=w.cell? ⟨b,o,none⟩:=fun o=>World.cell?_of_block (a:=⟨b,o,none⟩) hk;rw[←hw]at h0 h1 h2 h3 h4;have hx1:LV wr S t.items[j] (.agg #[.int .i64 t.items[j].kind,.int .i64 t.items[j].num,.string t.items[j].text,.slice A2 t.items[j].items.length e2,.slice A3 t.items[j].names.length e3]):=hx.keep fun b' hb'=>HI.out.2.2.blk (by have:=hSg b' hb';omega) (by have:=hSg b' hb';omega);have hgr:=Nat.lt_of_lt_of_le hg HI.out.2.2.size;have hx2:LV (wr.alloc (.cells #[.int .i64 t.items[j].kind,.int .i64 t.items[j].num,.string t.items[j].text,.slice A2 t.items[j].items.length e2,.slice A3 t.items[j].names.length e3] 25)) S t.items[j] (.agg #[.int .i64 t.items[j].kind,.int .i64 t.items[j].num,.string t.items[j].text,.slice A2 t.items[j].items.length e2,.slice A3 t.items[j].names.length e3]):=hx1.alloc (fun b' hb'=>Nat.lt_trans (hSg b' hb') hgr) _;have hdp:=cj (List.getElem_mem hlt);have hdt:ac t=aK t.items+1:=by cases t;exact aN _ _ _ _ _
     have IH:=hid (ih t.items[j] _ _ (lvl+1) sj (by omega) hx2 (by simp;omega) (by omega) (hInv _ _ _ (Below.heap_alloc wr _ g hgr) HI.out.2.1));have hdr:t.items.drop j=t.items[j]::t.items.drop (j+1):=List.drop_eq_getElem_cons hlt;have HDR:=hid hdr;have hcl:((lvl+1:Nat):Int)=(lvl:Int)+1:=by omega
     rw[hcl]at IH;clear hl hx hx1 hx2 hdr hdp hdt hcl hw hk;go_wp2_with fail;refine IH.out.mono ?_;rintro e w2 ⟨rfl,hinv2,honly2⟩;have hon2:bZ w w2 g:=(HI.out.2.2.alloc _).trans honly2;by_cases hf2:(dG f t.items[j] (lvl+1) sj).2=true
     ·have HI2:Hid (eq f (t.items.drop (j+1)) (lvl+1) (dG f t.items[j] (lvl+1) sj).1=R∧Inv w2 (dG f t.items[j] (lvl+1) sj).1∧bZ w w2 g):=by
       refine⟨?_,hinv2,hon2⟩;rw[←HI.out.1,HDR.out,jR hf2]
      clear hinv2 honly2 hon2 IH HI HDR;go_wp2_with fail
      go_roundw
      case rel=>exact⟨j+1,_,by go_num,by omega,HI2⟩
      case measure=>simp[intOf];omega
     ·have hfin:R=((dG f t.items[j] (lvl+1) sj).1,false):=by
       rw[←HI.out.1,HDR.out,mF (by simpa using hf2)]
      have HI2:=hid (And.intro hinv2 hon2);have HF:=hid hfin;clear hinv2 honly2 hon2 IH HI HDR hfin;go_wp2_with fail;go_ret;rw[HF.out];exact⟨rfl,HI2.out⟩
    ·have hfin:R=(sj,true):=by
      rw[←HI.out.1,List.drop_eq_nil_of_le (by omega),iK]
     have HF:=hid hfin;clear hfin;go_wp2_with fail;go_ret;rw[HF.out];exact⟨rfl,HI.out.2⟩
  ·have HF:Hid (R=((f t lvl st).1,false)):=by rw[←nV (by simpa using hf)];exact HR.out.symm
   have HI2:=hid (And.intro hinv1 honly);clear hinv1 honly1 honly SEE HO HV;go_wp2_with fail;go_ret;rw[HF.out];exact⟨rfl,HI2.out⟩
theorem sJ :eE 80:=fun _ _=>by simp[callFunc,go_sem,Tryz.func80,Tryz.f80]
theorem qj :eE 96:=fun _ _=>by simp[callFunc,go_sem,Tryz.func96,Tryz.f96]
def uj :VT→Nat→Unit→Unit×Bool:=fun x _ st=>(st,nB x)
mutual
theorem ra : ∀(t:VT) (d:Nat) (st:Unit),(dG uj t d st).2=ao t
 | .mk k i s l ns,d,st=>by
  unfold ao;by_cases h:nB (.mk k i s l ns)=true
  ·rw[jK (f:=uj) (t:= .mk k i s l ns) (d:=d) (st:=st) h,h,Bool.true_and];exact pn l _ _
  ·rw[nV (f:=uj) (by simpa[uj]using h)];simp[h]
theorem pn : ∀(l:List VT) (d:Nat) (st:Unit),(eq uj l d st).2=gk l
 | [],d,st=>by rw[iK];unfold gk;rfl
 |t::r,d,st=>by
  unfold gk;have h:=ra t d st;by_cases hm:ao t=true
  ·rw[jR (by rw[h,hm]),hm,Bool.true_and];exact pn r _ _
  ·rw[mF (by rw[h];simpa using hm)];simp[hm]
end
theorem xH (S:Nat→Prop)(x:VT)(v:Value)(W:World)(lvl:Nat)(hS: ∀b,S b→b<W.heap.size)(h:LV W S x v):Calls Tryz.prog 80 #[v,.int .i64 lvl] W fun e w'=>e= .returned (.bool (nB x))∧Below W.heap.size W w':=by
 have HV:=hid h;obtain⟨A,c,A',c',rfl,-,-,-,-,-,-,-⟩:=h.shape;have HC:=hid (xA S x _ _ (de hS _) (h.alloc hS (.cells #[.int .i64 x.kind,.int .i64 x.num,.string x.text,.slice A x.items.length c,.slice A' x.names.length c'] 25)));clear h;go_enter Tryz.func80,Tryz.ntmps80;go_wp2_with fail;refine HC.out.mono ?_;rintro e w' ⟨rfl,hb⟩;have HB:=hid (am (ae _) hb);clear hb HC;go_wp2_with fail;go_ret;exact⟨rfl,HB.out⟩
theorem iQ (S:Nat→Prop)(t:VT)(v:Value)(w:World)(hS: ∀b,S b→b<w.heap.size)(h:LV w S t v)(hd:ac t≤4611686018427387903):Calls Tryz.prog 43 #[v] w fun e w'=>e= .returned (.bool (ao t))∧Below w.heap.size w w':=by
 have HV:=hid h;obtain⟨A,c,A',c',rfl,-,-,-,-,-,-,-⟩:=h.shape
 have hs:uB 80 #[] S w.heap.size (fun _ _=>True) uj 4611686018427387904:=fun x v W lvl st hg hv _ _=>
  (xH S x v W lvl (fun b hb=>Nat.lt_trans (hS b hb) hg) hv).mono fun e w' ⟨he,hb⟩=>⟨he,trivial,bZ.ofBelow hb⟩
 have HC:=hid (mr 80 #[] S w.heap.size (fun _ _=>True) uj 4611686018427387904 sJ hS (Nat.le_refl _) (fun _ _ _ _ _=>trivial) hs (ac t) t _ (w.alloc (.cells #[.int .i64 t.kind,.int .i64 t.num,.string t.text,.slice A t.items.length c,.slice A' t.names.length c'] 25)) 1 () (Nat.le_refl _)
  (h.alloc hS _) (by simp) (by omega) trivial)
 have HR:=hid (ra t 1 ());clear h hs;go_enter Tryz.func43,Tryz.ntmps43;go_wp2_with fail;refine HC.out.mono ?_;rintro e w' ⟨rfl,-,hb⟩;have HB:=hid ((ae (w:=w) _).trans (hb.below (by simp) (Nat.le_refl _)));rw[HR.out];clear hb HC;go_wp2_with fail;go_ret;exact⟨rfl,HB.out⟩
/-! ### depth -/
def sC :VT→Nat→Nat→Nat×Bool:=fun _ lvl st=>(max st lvl,true)
mutual
theorem rl : ∀(t:VT) (d:Nat) (st:Nat),dG sC t d st=(max st (d+ac t - 1),true)
 | .mk k i s l ns,d,st=>by
  rw[jK (f:=sC) rfl,aN];show eq sC l (d+1) (max st d)=_;rw[oZ l];by_cases h:aK l=0
  ·rw[if_pos h,h];congr 1
  ·rw[if_neg h];congr 1;omega
theorem oZ : ∀(l:List VT) (d:Nat) (st:Nat),eq sC l d st=(if aK l=0 then st else max st (d+aK l - 1),true)
 | [],d,st=>by rw[iK];unfold aK;rfl
 |t::r,d,st=>by
  have h:=rl t d st;have ht:1≤ac t:=by cases t;rw[aN];omega
  rw[jR (by rw[h]),h,oZ r]
  conv=>rhs;unfold aK
  show(if aK r=0 then max st (d+ac t - 1)else max (max st (d+ac t - 1)) (d+aK r - 1),true)=(if max (ac t) (aK r)=0 then st else max st (d+max (ac t) (aK r) - 1),true)
  congr 1
  split<;>split<;>omega
end
def dm (w:World)(g:Nat)(v:Value):Prop:=w.heap[g]? =some (.cells #[v] 3 (0,0))
theorem dm.cell {w:World}{g:Nat}{v:Value}(h:dm w g v):w.cell? ⟨g,0,none⟩=some v:=Go.Joins.cell_of_block h 0
theorem dm.free {w:World}{g:Nat}{v:Value}(h:dm w g v):w.frozen? ⟨g,0,none⟩=false:=Go.Joins.unfrozen_of_block h 0
theorem dm.set {w:World}{g:Nat}{v:Value}(h:dm w g v)(u:Value):dm (w.setCell ⟨g,0,none⟩ u) g u:=Go.Joins.block_setCell (i:=0) h u
theorem dm.alloc {w:World}{g:Nat}{v:Value}(h:dm w g v)(hg:g<w.heap.size)(o:Obj):dm (w.alloc o) g v:=(Below.heap_alloc w o g hg).trans h
theorem zP (S:Nat→Prop)(g:Nat)(x:VT)(v:Value)(W:World)(lvl st:Nat)(hg:g<W.heap.size)(h:LV W S x v)(hl:lvl≤4611686018427387904)(hc:dm W g (.int .i64 st)):
  Calls Tryz.prog 96 #[v,.int .i64 lvl,.pointer (some ⟨g,0,none⟩)] W fun e w'=>e= .returned (.bool true)∧dm w' g (.int .i64 ((max st lvl:Nat):Int))∧bZ W w' g:=by
 obtain⟨A,c,A',c',rfl,-,-,-,-,-,-,-⟩:=h.shape;have HC:=hid hc;have c0:=hc.cell;have f0:=hc.free;clear h hc;go_enter Tryz.func96,Tryz.ntmps96;go_wp2_with fail
 all_goals
  go_ret;refine⟨rfl,?_,((bZ.refl W g).set _ _).alloc _⟩;have e:=(HC.out.set (.int .i64 ((max st lvl:Nat):Int))).alloc (by simpa[World.setCell]using hg) (.cells #[.int .i64 x.kind,.int .i64 x.num,.string x.text,.slice A x.items.length c,.slice A' x.names.length c'] 25)
 ·have h:st<lvl:=by assumption
  rwa[Nat.max_eq_right (by omega)]at e ⊢
 ·have h: ¬st<lvl:=by assumption
  rwa[Nat.max_eq_left (by omega)]at e ⊢
theorem vF (S:Nat→Prop)(t:VT)(v:Value)(w:World)(hS: ∀b,S b→b<w.heap.size)(h:LV w S t v)(hd:ac t≤4611686018427387903):Calls Tryz.prog 55 #[v] w fun e w'=>e= .returned (.int .i64 (ac t))∧Below w.heap.size w w':=by
 obtain⟨A,c,A',c',rfl,-,-,-,-,-,-,-⟩:=h.shape;obtain⟨o,ho⟩: ∃o:Obj,o= .cells #[.int .i64 t.kind,.int .i64 t.num,.string t.text,.slice A t.items.length c,.slice A' t.names.length c'] 25:=⟨_,rfl⟩;obtain⟨w2,hw2⟩: ∃w2:World,w2=(w.alloc o).alloc (.cells #[.int .i64 0] 3):=⟨_,rfl⟩;have hsz:w2.heap.size=w.heap.size+2:=by rw[hw2];simp
 have hb2:Below w.heap.size w w2:=by rw[hw2];exact((ae o).alloc (by simp) _)
 have hs:uB 96 #[.pointer (some ⟨w.heap.size+1,0,none⟩)] S (w.heap.size+1) (fun W st=>dm W (w.heap.size+1) (.int .i64 ((st:Nat):Int))) sC 4611686018427387904:=fun x v W lvl st hg hv hl hc=>
  (zP S _ x v W lvl st hg hv hl hc).mono fun e w' ⟨he,hb,ho⟩=>⟨he,hb,ho⟩
 have hc0:dm w2 (w.heap.size+1) (.int .i64 ((0:Nat):Int)):=by
  have:=heap_alloc_new (w.alloc o) (.cells #[.int .i64 0] 3);rw[hw2];unfold dm;simpa using this
 have HC:=hid (mr 96 #[.pointer (some ⟨w.heap.size+1,0,none⟩)] S (w.heap.size+1) (fun W st=>dm W (w.heap.size+1) (.int .i64 ((st:Nat):Int))) sC 4611686018427387904 qj (fun b hb=>Nat.lt_succ_of_lt (hS b hb)) (Nat.le_refl _) (fun _ _ _ he hi=>he.trans hi) hs (ac t) t _ w2 1 0 (Nat.le_refl _)
  (h.below hS hb2) (by omega) (by omega) hc0)
 have hr:=rl t 1 0;have ht:1≤ac t:=by cases t;rw[aN];omega
 have hr1:(dG sC t 1 0).1=ac t:=by rw[hr];show max 0 (1+ac t - 1)=_;omega
 rw[hr1]at HC;have HB:=hid hb2;subst ho hw2;clear h hs hr hr1 ht hc0 hb2 hsz;go_enter Tryz.func55,Tryz.ntmps55;go_wp2_with fail;refine HC.out.mono ?_;rintro e w' ⟨rfl,hc,ho⟩;have c0:=hc.cell;have HB2:=hid (HB.out.trans (ho.below (B:=w.heap.size) (by simp;omega) (by omega)));clear hc ho HC HB;go_wp2_with fail;go_ret;exact⟨rfl,HB2.out⟩
theorem iX.slice {w:World}{B:Nat}{v:Value}{l:List UInt8}(h:iX w B v l): ∃A c,v= .slice A l.length c:=by
 rcases h.2 with ⟨rfl,h2⟩|⟨g,cap,cur,rfl,_⟩
 ·exact⟨none,0,by rw[h2]⟩
 ·exact⟨_,_,rfl⟩
theorem eM (a b:Int):wrap64 (wrap64 a+b)=wrap64 (a+b):=by unfold wrap64;omega
theorem lK (a b:Int):wrap64 (a+wrap64 b)=wrap64 (a+b):=by unfold wrap64;omega
theorem bW {a:Int}(h1: -9223372036854775808≤a)(h2:a≤9223372036854775807):wrap64 a=a:=by unfold wrap64;omega
theorem kQ (n:Nat)(w:World)(hn:n≤4611686018427387904):Calls Tryz.prog 139 #[.int .i64 n] w fun e w'=>e= .returned (.int .i64 ((grp n).length))∧Below w.heap.size w w':=by
 go_enter Tryz.func139,Tryz.ntmps139;go_wp2_with fail;refine(wY n _ (by omega)).mono ?_;rintro e w1 (⟨_,_,v,rfl,hv,hb⟩|⟨h,_⟩);rotate_left
 ·omega
 obtain⟨A,c,rfl⟩:=hv.slice;have HB:=hid hb;clear hv hb;go_wp2_with fail;go_ret;exact⟨rfl,HB.out⟩
def tsz (s:ByteArray):Nat:=(grp s.size).length+s.size
theorem pt (s:ByteArray)(w:World)(hs:s.size≤140737488351232):Calls Tryz.prog 138 #[.string s] w fun e w'=>e= .returned (.int .i64 (tsz s))∧Below w.heap.size w w':=by
 have hg:=(bA s.size).1;go_enter Tryz.func138,Tryz.ntmps138;go_wp2_with fail;refine(kQ s.size _ (by omega)).mono ?_;rintro e w1 ⟨rfl,hb⟩;have HB:=hid hb;clear hb;go_wp2_with fail;go_ret;exact⟨aH (by unfold tsz;omega),HB.out⟩
def eI (ns:List ByteArray):Nat:=(ns.map tsz).sum
def dp (k i:Int)(s:ByteArray)(n:Nat)(ns:List ByteArray):Nat:=
 if k=2 then 2 else if k=3 then 1+(grp (zig i)).length else if k=4∨k=5 then 1+tsz s
 else if k=6 then 1+(grp n).length else if k=7 then 1+(grp n).length+eI ns else 1
def pF :VT→Nat
 | .mk k i s l ns=>dp k i s l.length ns
theorem xk (ns:List ByteArray)(k:Nat)(hk:k<ns.length):eI (ns.take (k+1))=eI (ns.take k)+tsz ns[k]:=by
 unfold eI;rw[List.take_add_one,List.getElem?_eq_getElem hk,List.map_append,List.sum_append];simp
theorem xX (ns:List ByteArray)(k:Nat)(hk:ns.length≤k):eI (ns.take k)=eI ns:=by rw[List.take_of_length_le hk]
theorem mW (s:ByteArray)(h:s.size≤140737488351232):tsz s≤140737488351300:=by have:=(bA s.size).1;unfold tsz;omega
section
variable (i :Int) (s:ByteArray) (A A':Option Addr) (n c c':Nat) (ns:List ByteArray) (w:World)
set_option maxHeartbeats 1000000
theorem BG (k:Int)(hk: ¬(2≤k∧k≤7)):Calls Tryz.prog 98 #[.agg #[.int .i64 k,.int .i64 i,.string s,.slice A n c,.slice A' ns.length c']] w fun e w'=>e= .returned (.int .i64 (wrap64 (dp k i s n ns)))∧Below w.heap.size w w':=by
 have e0:dp k i s n ns=1:=by
  unfold dp;rw[if_neg (by omega),if_neg (by omega),if_neg (by omega),if_neg (by omega),if_neg (by omega)]
 rw[e0];have b2:(k == 2)=false:=by simp;omega
 have b3:(k == 3)=false:=by simp;omega
 have b4:(k == 4)=false:=by simp;omega
 have b5:(k == 5)=false:=by simp;omega
 have b6:(k == 6)=false:=by simp;omega
 have b7:(k == 7)=false:=by simp;omega
 clear e0 hk;go_enter Tryz.func98,Tryz.ntmps98;go_wp2_with fail;go_ret;exact⟨aH (by rw[bW (by decide) (by decide)];rfl),ae _⟩
theorem BI :Calls Tryz.prog 98 #[.agg #[.int .i64 2,.int .i64 i,.string s,.slice A n c,.slice A' ns.length c']] w fun e w'=>e= .returned (.int .i64 (wrap64 (dp 2 i s n ns)))∧Below w.heap.size w w':=by
 go_enter Tryz.func98,Tryz.ntmps98;go_wp2_with fail;go_ret;exact⟨aH (by unfold dp;rw[if_pos rfl,bW (by decide) (by decide)];rfl),ae _⟩
theorem BH (hi:Rng i):Calls Tryz.prog 98 #[.agg #[.int .i64 3,.int .i64 i,.string s,.slice A n c,.slice A' ns.length c']] w fun e w'=>e= .returned (.int .i64 (wrap64 (dp 3 i s n ns)))∧Below w.heap.size w w':=by
 have hg:=(bA (zig i)).1;go_enter Tryz.func98,Tryz.ntmps98;go_wp2_with fail;refine(AE i _ hi.1 hi.2).mono ?_;rintro e w1 ⟨v,rfl,hv,hb⟩;obtain⟨A2,c2,rfl⟩:=hv.slice;have HB:=hid (am (ae _) hb);clear hv hb;go_wp2_with fail;go_ret;exact⟨aH (by unfold dp;simp;rw[bW (by omega) (by omega)]),HB.out⟩
theorem Bl (k:Int)(hk:k=4∨k=5)(hs:s.size≤140737488351232):Calls Tryz.prog 98 #[.agg #[.int .i64 k,.int .i64 i,.string s,.slice A n c,.slice A' ns.length c']] w fun e w'=>e= .returned (.int .i64 (wrap64 (dp k i s n ns)))∧Below w.heap.size w w':=by
 have hg:=mW s hs;have HS:=hid hs;clear hs;have e0:dp k i s n ns=1+tsz s:=by unfold dp;rw[if_neg (by omega),if_neg (by omega),if_pos hk]
 rw[e0];clear e0;rcases hk with rfl|rfl
 all_goals
  go_enter Tryz.func98,Tryz.ntmps98;go_wp2_with fail;refine(pt s _ HS.out).mono ?_;rintro e w1 ⟨rfl,hb⟩;have HB:=hid (am (ae _) hb);clear hb;go_wp2_with fail;go_ret;exact⟨aH (by rw[bW (by omega) (by omega)];omega),HB.out⟩
theorem BJ (hn:n≤140737488351232):Calls Tryz.prog 98 #[.agg #[.int .i64 6,.int .i64 i,.string s,.slice A n c,.slice A' ns.length c']] w fun e w'=>e= .returned (.int .i64 (wrap64 (dp 6 i s n ns)))∧Below w.heap.size w w':=by
 have hg:=(bA n).1;go_enter Tryz.func98,Tryz.ntmps98;go_wp2_with fail;refine(kQ n _ (by omega)).mono ?_;rintro e w1 ⟨rfl,hb⟩;have HB:=hid (am (ae _) hb);clear hb;go_wp2_with fail;go_ret;exact⟨aH (by unfold dp;simp;rw[bW (by omega) (by omega)]),HB.out⟩
theorem BL (S:Nat→Prop)(hS: ∀b,S b→b<w.heap.size)(hN:ai w S A' ns)(hl:ns.length≤140737488351232)(hn:n≤140737488351232):
  Calls Tryz.prog 98 #[.agg #[.int .i64 7,.int .i64 i,.string s,.slice A n c,.slice A' ns.length c']] w fun e w'=>e= .returned (.int .i64 (wrap64 (dp 7 i s n ns)))∧Below w.heap.size w w':=by
 have hg:=(bA n).1;have e0:dp 7 i s n ns=1+(grp n).length+eI ns:=by unfold dp;simp
 have HE:=hid e0;clear e0;generalize dp 7 i s n ns=R at *;have HN:=hid hN;have HL:=hid hl;clear hN;go_enter Tryz.func98,Tryz.ntmps98;go_wp2_with fail;refine(kQ n _ (by omega)).mono ?_;rintro e w1 ⟨rfl,hb⟩;have hcell: ∀q,w1.cell? ⟨w.heap.size,q,none⟩=(w.alloc (.cells #[.int .i64 7,.int .i64 i,.string s,.slice A n c,.slice A' ns.length c'] 25)).cell? ⟨w.heap.size,q,none⟩:=fun q=>hb.cell (p:=⟨w.heap.size,q,none⟩) (by simp);have k4:=hcell 4;simp at k4;have HB:=hid (am (ae _) hb);clear hb hcell;go_wp2_with fail
 go_loopw [3,41] (fun tot j wr=> ∃k:Nat,j= .int .i64 k∧k≤ns.length∧tot= .int .i64 (wrap64 ((1+(grp n).length+eI (ns.take k):Nat):Int))∧Hid (Below w.heap.size w wr)) (fun _ j _=>ns.length - (intOf j).toNat)
 case atStart=>exact⟨0,rfl,Nat.zero_le _,by rw[bW (by simp[eI];omega) (by simp[eI];omega)];simp[eI],HB.out⟩
 case round=>
  obtain⟨k,rfl,hk,rfl,HI⟩:=hrel;by_cases hlt:k<ns.length
  ·obtain⟨b,off,rfl,hb,hcells⟩:=HN.out (by omega);obtain⟨hc0,hsz⟩:=hcells k hlt;have hcx:wr.cell? ⟨b,off+k,none⟩=some (.string ns[k]):=(HI.out.cell (p:=⟨b,off+k,none⟩) (hS b hb)).trans hc0;have hst:=xk ns k hlt;generalize hgs:ns[k]=s1 at *;have HSZ:=hid hsz;have HST:=hid hst;clear hcells hc0 hsz hst;generalize hR:1+(grp n).length+eI (ns.take k)=T at *;go_wp2_with fail;refine(pt s1 _ HSZ.out).mono ?_;rintro e w2 ⟨rfl,hb2⟩;have HB2:=hid (HI.out.trans (hb2.mono HI.out.size));clear hb2 HI;go_wp2_with fail
   go_roundw
   case rel=>exact⟨k+1,by go_num,by omega,by
    have e1:1+(grp n).length+eI (ns.take (k+1))=T+tsz s1:=by rw[HST.out];omega
    rw[e1,eM];congr 2,HB2⟩
   case measure=>simp[intOf];omega
  ·have e1:=xX ns k (by omega);rw[e1,←HE.out];go_wp2_with fail;go_ret;exact⟨rfl,HI.out⟩
end
theorem Af (S:Nat→Prop)(t:VT)(v:Value)(w:World)(hS: ∀b,S b→b<w.heap.size)(h:LV w S t v):Calls Tryz.prog 98 #[v] w fun e w'=>e= .returned (.int .i64 (wrap64 (pF t)))∧Below w.heap.size w w':=by
 obtain⟨A,c,A',c',rfl,-,h2,h3,h4,h5,h6,-⟩:=h.shape
 cases t with
 |mk k i s l ns=>
 show Calls Tryz.prog 98 #[.agg #[.int .i64 k,.int .i64 i,.string s,.slice A l.length c,.slice A' ns.length c']] w fun e w'=>e= .returned (.int .i64 (wrap64 (dp k i s l.length ns)))∧Below w.heap.size w w';by_cases hk:2≤k∧k≤7
 ·obtain rfl|rfl|hk|rfl|rfl:k=2∨k=3∨(k=4∨k=5)∨k=6∨k=7:=by omega
  ·exact BI _ _ _ _ _ _ _ _ _
  ·exact BH _ _ _ _ _ _ _ _ _ h2
  ·exact Bl _ _ _ _ _ _ _ _ _ k hk h3
  ·exact BJ _ _ _ _ _ _ _ _ _ h4
  ·exact BL _ _ _ _ _ _ _ _ _ S hS h6 h5 h4
 ·exact BG _ _ _ _ _ _ _ _ _ k hk
theorem LV.drew {w:World}{S:Nat→Prop}{t:VT}{v:Value}(h:LV w S t v):LV w.drew S t v:=LV.keep (w:=w) (w':=w.drew) (fun _ _=>rfl) h
theorem sr :eE 97:=fun _ _=>by simp[callFunc,go_sem,Tryz.func97,Tryz.f97]
theorem Ax (x:Int):IntKind.i64.wrap x=wrap64 x:=by rw[IntKind.wrap_i64];unfold wrap64;rfl
def rx :VT→Nat→Int→Int×Bool:=fun x _ st=>(wrap64 (st+wrap64 (pF x)),true)
mutual
def aA :VT→Nat
 | .mk k i s l ns=>dp k i s l.length ns+bI l
def bI :List VT→Nat
 | []=>0
 |t::r=>aA t+bI r
end
mutual
theorem ri : ∀(t:VT) (d:Nat) (st:Int),dG rx t d (wrap64 st)=(wrap64 (st+aA t),true)
 | .mk k i s l ns,d,st=>by
  rw[jK (f:=rx) rfl];show eq rx l (d+1) (wrap64 (wrap64 st+wrap64 (dp k i s l.length ns)))=_;rw[lK,eM,oA l];unfold aA
  congr 2;omega
theorem oA : ∀(l:List VT) (d:Nat) (st:Int),eq rx l d (wrap64 st)=(wrap64 (st+bI l),true)
 | [],d,st=>by rw[iK];unfold bI;simp
 |t::r,d,st=>by
  have h:=ri t d st;rw[jR (by rw[h]),h];show eq rx r d (wrap64 (st+aA t))=_;rw[oA r]
  conv=>rhs;unfold bI
  congr 2;omega
end
theorem xw (S:Nat→Prop)(g:Nat)(x:VT)(v:Value)(W:World)(lvl:Nat)(st:Int)(hS: ∀b,S b→b<g)(hg:g<W.heap.size)(h:LV W S x v)(hc:dm W g (.int .i64 (wrap64 st))):
  Calls Tryz.prog 97 #[v,.int .i64 lvl,.pointer (some ⟨g,0,none⟩)] W fun e w'=>e= .returned (.bool true)∧dm w' g (.int .i64 (wrap64 (st+wrap64 (pF x))))∧bZ W w' g:=by
 have HV:=hid h;obtain⟨A,c,A',c',rfl,-,-,-,-,-,-,-⟩:=h.shape;obtain⟨o,ho⟩: ∃o:Obj,o= .cells #[.int .i64 x.kind,.int .i64 x.num,.string x.text,.slice A x.items.length c,.slice A' x.names.length c'] 25:=⟨_,rfl⟩;have HO:=hid ho;have HC:=hid hc;have c0:=hc.cell;have f0:=hc.free;have hc2:=hc.alloc hg o;have C0:Hid ((W.alloc o).drew.cell? ⟨g,0,none⟩=some (.int .i64 (wrap64 st))):=hc2.cell;have F0:Hid ((W.alloc o).drew.frozen? ⟨g,0,none⟩=false):=hc2.free
 have HG:Hid (g<(W.alloc o).drew.heap.size):=by
  show g<(W.alloc o).heap.size;simp;omega
 have HC2:Hid (dm (W.alloc o).drew g (.int .i64 (wrap64 st))):=hc2;have HON:Hid (bZ W (W.alloc o).drew g):=bZ.ofBelow ((ae o).drew);have HW:=hid (Af S x _ (W.alloc o).drew (fun b hb=>by have:=hS b hb;simp;omega) (h.alloc (fun b hb=>Nat.lt_trans (hS b hb) hg) o).drew);clear h hc hc2;subst ho;go_enter Tryz.func97,Tryz.ntmps97;go_wp2_with fail
 go_region_with (go_at_call 98;refine HW.out.mono ?_;rintro e w1 ⟨rfl,hb⟩;have c1:=(hb.cell (p:=⟨g,0,none⟩) HG.out).trans C0.out;have f1:=(World.frozen?_of_block (a:=⟨g,0,none⟩) (hb.block g HG.out)).trans F0.out)
 all_goals
  have hcw:dm w1 g _:=(hb.block g HG.out).trans HC2.out;have how:bZ W w1 g:=HON.out.trans (bZ.ofBelow hb);have HF:=hid (And.intro (hcw.set (.int .i64 (wrap64 (st+wrap64 (pF x))))) (how.set 0 (.int .i64 (wrap64 (st+wrap64 (pF x))))));have e:IntKind.i64.wrap (wrap64 st+wrap64 (pF x))=wrap64 (st+wrap64 (pF x)):=(Ax _).trans (eM _ _);rw[e];clear hcw how hb HW HON HC2 HG C0 F0 HV HC c0 f0 e c1 f1;go_wp2;go_ret;exact⟨rfl,HF.out⟩
theorem zO (S:Nat→Prop)(t:VT)(v:Value)(w:World)(hS: ∀b,S b→b<w.heap.size)(h:LV w S t v)(hd:ac t≤4611686018427387903):Calls Tryz.prog 56 #[v] w fun e w'=>e= .returned (.int .i64 (wrap64 (aA t)))∧Below w.heap.size w w':=by
 obtain⟨A,c,A',c',rfl,-,-,-,-,-,-,-⟩:=h.shape;obtain⟨o,ho⟩: ∃o:Obj,o= .cells #[.int .i64 t.kind,.int .i64 t.num,.string t.text,.slice A t.items.length c,.slice A' t.names.length c'] 25:=⟨_,rfl⟩;obtain⟨w2,hw2⟩: ∃w2:World,w2=(w.alloc o).alloc (.cells #[.int .i64 0] 3):=⟨_,rfl⟩;have hsz:w2.heap.size=w.heap.size+2:=by rw[hw2];simp
 have hb2:Below w.heap.size w w2:=by rw[hw2];exact((ae o).alloc (by simp) _)
 have hs:uB 97 #[.pointer (some ⟨w.heap.size+1,0,none⟩)] S (w.heap.size+1) (fun W st=> ∃st0,st=wrap64 st0∧dm W (w.heap.size+1) (.int .i64 (wrap64 st0))) rx 4611686018427387904:=by
  rintro x v W lvl _ hg hv hl ⟨st,rfl,hc⟩;refine(xw S _ x v W lvl st (fun b hb=>Nat.lt_succ_of_lt (hS b hb)) hg hv hc).mono fun e w' ⟨he,hb,ho⟩=>⟨he,⟨st+wrap64 (pF x),?_,hb⟩,ho⟩;show wrap64 (wrap64 st+wrap64 (pF x))=_;exact eM _ _
 have hc0:dm w2 (w.heap.size+1) (.int .i64 (wrap64 0)):=by
  have:=heap_alloc_new (w.alloc o) (.cells #[.int .i64 0] 3);rw[hw2,bW (by decide) (by decide)];unfold dm;simpa using this
 have HC:=hid (mr 97 #[.pointer (some ⟨w.heap.size+1,0,none⟩)] S (w.heap.size+1) (fun W st=> ∃st0,st=wrap64 st0∧dm W (w.heap.size+1) (.int .i64 (wrap64 st0))) rx 4611686018427387904 sr (fun b hb=>Nat.lt_succ_of_lt (hS b hb)) (Nat.le_refl _) (fun _ _ _ he ⟨st0,hi,hc⟩=>⟨st0,hi,he.trans hc⟩) hs (ac t) t _ w2 1 (wrap64 0) (Nat.le_refl _)
  (h.below hS hb2) (by omega) (by omega) ⟨0,rfl,hc0⟩)
 have hr:=ri t 1 0;have hr1:(dG rx t 1 (wrap64 0)).1=wrap64 (aA t):=by rw[hr];show wrap64 (0+(aA t:Int))=_;rw[Int.zero_add]
 rw[hr1]at HC;have HB:=hid hb2;subst ho hw2;clear h hs hr hr1 hc0 hb2 hsz;go_enter Tryz.func56,Tryz.ntmps56;go_wp2_with fail;refine HC.out.mono ?_;rintro e w' ⟨rfl,⟨st0,hst,hc⟩,ho⟩;rw[←hst]at hc;have c0:=hc.cell;have HB2:=hid (HB.out.trans (ho.below (B:=w.heap.size) (by simp;omega) (by omega)));clear hc ho HC HB hst;go_wp2_with fail;go_ret;exact⟨rfl,HB2.out⟩
def Box (w:World)(g:Nat)(a b c d e:Value):Prop:=w.heap[g]? =some (.cells #[a,b,c,d,e] 25 (0,0))
theorem Box.c0 {w:World}{g:Nat}{a b c d e:Value}(h:Box w g a b c d e):w.cell? ⟨g,0,none⟩=some a:=Go.Joins.cell_of_block h 0
theorem Box.c1 {w:World}{g:Nat}{a b c d e:Value}(h:Box w g a b c d e):w.cell? ⟨g,1,none⟩=some b:=Go.Joins.cell_of_block h 1
theorem Box.c2 {w:World}{g:Nat}{a b c d e:Value}(h:Box w g a b c d e):w.cell? ⟨g,2,none⟩=some c:=Go.Joins.cell_of_block h 2
theorem Box.c3 {w:World}{g:Nat}{a b c d e:Value}(h:Box w g a b c d e):w.cell? ⟨g,3,none⟩=some d:=Go.Joins.cell_of_block h 3
theorem Box.c4 {w:World}{g:Nat}{a b c d e:Value}(h:Box w g a b c d e):w.cell? ⟨g,4,none⟩=some e:=Go.Joins.cell_of_block h 4
theorem Box.free {w:World}{g:Nat}{a b c d e:Value}(h:Box w g a b c d e)(i:Nat):w.frozen? ⟨g,i,none⟩=false:=Go.Joins.unfrozen_of_block h i
theorem Box.lt {w:World}{g:Nat}{a b c d e:Value}(h:Box w g a b c d e):g<w.heap.size:=(Array.getElem?_eq_some_iff.1 h).1
theorem Box.new {w:World}(a b c d e:Value):Box (w.alloc (.cells #[a,b,c,d,e] 25)) w.heap.size a b c d e:=heap_alloc_new w _
theorem Box.below {w w':World}{g B:Nat}{a b c d e:Value}(h:Box w g a b c d e)(hb:Below B w w')(hg:g<B):Box w' g a b c d e:=(hb.block g hg).trans h
theorem Box.call {w w':World}{g:Nat}{a b c d e:Value}(h:Box w g a b c d e)(hb:Below w.heap.size w w'):Box w' g a b c d e:=h.below hb h.lt
theorem Box.alloc {w:World}{g:Nat}{a b c d e:Value}(h:Box w g a b c d e)(o:Obj):Box (w.alloc o) g a b c d e:=(Below.heap_alloc w o g h.lt).trans h
def az (t:VT):Int:=if ao t then(if 8<(ac t:Int)then 21 else if 4096<wrap64 (aA t)then 22 else 0)else 20
section
variable (S :Nat→Prop) (t:VT) (v:Value) (w:World)
set_option maxHeartbeats 400000
theorem fl (hS: ∀b,S b→b<w.heap.size)(h:LV w S t v)(hd:ac t≤4611686018427387903):Calls Tryz.prog 31 #[v] w fun e w'=>e= .returned (.int .i64 (az t))∧Below w.heap.size w w':=by
 have HV:=hid h;obtain⟨A,c,A',c',rfl,-,-,-,-,-,-,-⟩:=h.shape;have HX:=hid (Box.new (w:=w) (.int .i64 t.kind) (.int .i64 t.num) (.string t.text) (.slice A t.items.length c) (.slice A' t.names.length c'));have HM:=hid (iQ S t _ _ (de hS _) (h.alloc hS (.cells #[.int .i64 t.kind,.int .i64 t.num,.string t.text,.slice A t.items.length c,.slice A' t.names.length c'] 25)) hd);have HD:=hid hd;have HE:Hid (az t=if ao t then(if 8<(ac t:Int)then 21 else if 4096<wrap64 (aA t)then 22 else 0)else 20):=rfl;generalize az t=R at *;clear h hd;generalize hm:ao t=m at *;clear hm;go_enter Tryz.func31,Tryz.ntmps31;go_wp2_with fail;refine HM.out.mono ?_;rintro e w1 ⟨rfl,hb⟩;have HB1:=hid (am (ae _) hb);have hx:=HX.out.call hb;have HX1:=hid hx;have k0:=hx.c0;have k1:=hx.c1;have k2:=hx.c2;have k3:=hx.c3;have k4:=hx.c4;clear hx hb HM HX;cases m
 ·go_wp2_with fail;go_ret;rw[HE.out];exact⟨rfl,HB1.out⟩
 ·go_wp2_with fail;refine(vF S t _ w1 (ct hS HB1.out) (HV.out.below hS HB1.out) HD.out).mono ?_;rintro e w2 ⟨rfl,hb⟩;have HB2:=hid (am HB1.out hb);have hx:=HX1.out.call hb;clear k0 k1 k2 k3 k4;have k0:=hx.c0;have k1:=hx.c1;have k2:=hx.c2;have k3:=hx.c3;have k4:=hx.c4;clear hx hb HB1 HX1;by_cases h8:8<(ac t:Int)
  ·have e1:R=21:=by rw[HE.out,if_pos trivial,if_pos h8]
   go_wp2_with fail;go_ret;rw[e1];exact⟨rfl,HB2.out⟩
  ·have HE2:Hid (R=if 4096<wrap64 (aA t)then 22 else 0):=hid (by rw[HE.out,if_pos trivial,if_neg h8]);clear HE;go_wp2_with fail;refine(zO S t _ w2 (ct hS HB2.out) (HV.out.below hS HB2.out) HD.out).mono ?_;rintro e w3 ⟨rfl,hb⟩;have HB3:=hid (am HB2.out hb);clear k0 k1 k2 k3 k4 hb HB2 HV;generalize wrap64 (aA t)=z at *;by_cases hz:4096<z
   ·have e1:R=22:=by rw[HE2.out,if_pos hz]
    go_wp2_with fail;go_ret;rw[e1];exact⟨rfl,HB3.out⟩
   ·have e1:R=0:=by rw[HE2.out,if_neg hz]
    go_wp2_with fail;go_ret;rw[e1];exact⟨rfl,HB3.out⟩
end
theorem px (s:ByteArray)(w:World)(hs:s.size≤9223372036854775807):Calls Tryz.prog 88 #[.string s] w fun e w'=>e= .returned (.bool (bH s.data.toList))∧w=w':=by
 have HS:=hid hs;clear hs;go_enter Tryz.func88,Tryz.ntmps88;go_wp2
 go_loopw [3] (fun i wr=> ∃k:Nat,i= .int .i64 k∧k≤s.size∧wr=w∧ ∀j (h:j<s.size),j<k→s[j].toNat≠46) (fun i _=>s.size - (intOf i).toNat)
 case atStart=>exact⟨0,rfl,by omega,rfl,fun j _ h=>absurd h (by omega)⟩
 case round=>
  obtain⟨k,rfl,hk,rfl,hj⟩:=hrel;have HJ:=hid hj;have hs:=HS.out;clear hj;by_cases hlt:k<s.size
  ·by_cases hb:s[k].toNat=46
   ·go_wp2;go_ret;exact⟨aM (dr fun h=>h.2.2.2 k hlt hb),rfl⟩
   ·go_wp2
    go_roundw
    case rel=>exact⟨k+1,by go_num,by omega,trivial,fun j h hjk=>by
     by_cases e:j=k
     ·subst e;exact hb
     ·exact HJ.out j h (by omega)⟩
    case measure=>simp[intOf];omega
  ·obtain rfl:k=s.size:=by omega
   clear hlt hk;by_cases h1:1≤s.size
   ·by_cases h2:s.size≤32
    ·by_cases h3:s[0].toNat=36
     ·go_wp2;go_ret;exact⟨aM (dr fun h=>h.2.2.1 h1 h3),rfl⟩
     ·go_wp2;go_ret;exact⟨aM (((bne_iff_ne).2 fun h=>h3 (by omega)).trans (oJ ⟨h1,h2,fun _=>h3,fun i h=>HJ.out i h h⟩)),rfl⟩
    ·go_wp2;go_ret;exact⟨aM (dr fun h=>h2 h.2.1),rfl⟩
   ·go_wp2;go_ret;exact⟨aM (dr fun h=>h1 h.1),rfl⟩
end Go.Proofs.YtgbopnlpaabelaaGreatDoor
