/- What lies at a path: plain; and the steps of a path, one at a time. -/
import Derived.Test.YtgbopnlpaabelaaGreatDoorKRefM
import Derived.Test.YtgbopnlpaabelaaGreatDoorKRefO
import Derived.Test.YtgbopnlpaabelaaGreatDoorKPathA
import Derived.Test.YtgbopnlpaabelaaGreatDoorKValF
import Derived.Test.YtgbopnlpaabelaaGreatDoorKMath
import Derived.Laws.ResultCell
set_option maxHeartbeats 64000000
set_option maxRecDepth 100000
set_option linter.unusedVariables false
set_option linter.unusedSimpArgs false
namespace Go.Proofs.YtgbopnlpaabelaaGreatDoor
open Lib (hid)
open Go.RowKit
def nmI (k:Nat):List ByteArray→ByteArray→Int
 | [],_=> -1
 |a::r,s=>if a=s then k else nmI (k+1) r s
def ab (t:VT)(s:ByteArray):Int:=
 if t.kind=7 then nmI 0 t.names s else if t.kind=6 then(if ed s.data.toList<t.items.length then ed s.data.toList else -1)else -1
def aV :VT→List ByteArray→Option VT
 |t,[]=>some t
 |t,s::r=>if ab t s<0 then none else match t.items[(ab t s).toNat]? with
  |some u=>aV u r
  |none=>none
theorem qn {s:ByteArray}: ∀ {l:List ByteArray} {j k:Nat} (h:j<l.length),l[j]=s→(∀i (hi:i<l.length),i<j→l[i]≠s)→nmI k l s=((k+j:Nat):Int)
 |a::r,0,k,_,h1,_=>by
  unfold nmI
  rw[if_pos (by simpa using h1)];simp
 |a::r,j+1,k,h,h1,h2=>by
  unfold nmI;rw[if_neg (by have:=h2 0 (by simp) (by omega);simpa using this)];have h':j<r.length:=by simpa using h
  rw[qn (k:=k+1) h' (by simpa using h1) (fun i hi hij=>by have:=h2 (i+1) (by simp;omega) (by omega);simpa using this)]
  congr 1;omega
theorem kl {s:ByteArray}: ∀ {l:List ByteArray} {k:Nat},(∀i (hi:i<l.length),l[i]≠s)→nmI k l s= -1
 | [],_,_=>rfl
 |a::r,k,h=>by
  unfold nmI;rw[if_neg (by have:=h 0 (by simp);simpa using this)];exact kl fun i hi=>by have:=h (i+1) (by simp;omega);simpa using this
theorem im {s:ByteArray}: ∀ {l:List ByteArray} {k:Nat},-1≤nmI k l s∧nmI k l s<((k+l.length:Nat):Int)
 | [],k=>by unfold nmI;constructor<;>simp<;>omega
 |a::r,k=>by
  unfold nmI
  split
  ·constructor<;>simp<;>omega
  ·have h:=im (s:=s) (l:=r) (k:=k+1);constructor
   ·exact h.1
   ·simp only[List.length_cons];have:=h.2;omega
theorem AB (l:List UInt8): -1≤ed l:=by
 unfold ed
 split<;>omega
theorem iJ (t:VT)(s:ByteArray): -1≤ab t s:=by
 unfold ab
 split
 ·exact im.1
 ·split
  ·split
   ·exact AB _
   ·omega
  ·omega
theorem aP {t:VT}{s:ByteArray}(hn:t.kind=7→t.names.length≤t.items.length)(h:0≤ab t s):(ab t s).toNat<t.items.length:=by
 unfold ab at h ⊢
 split at h
 ·next hk=>
  rw[if_pos hk];have h1:=(im (s:=s) (l:=t.names) (k:=0)).2;have:=hn hk;omega
 ·next hk=>
  rw[if_neg hk]
  split at h
  ·next h6=>
   rw[if_pos h6]
   split at h
   ·next hl=>rw[if_pos hl];omega
   ·omega
  ·omega
theorem lD (A:Option Addr)(c:Nat)(ns:List ByteArray)(s:ByteArray)(w:World)(S:Nat→Prop)(h:ai w S A ns)(hn:ns.length≤140737488351232):Calls Tryz.prog 107 #[.slice A ns.length c,.string s] w fun e w'=>e= .returned (.int .i64 (nmI 0 ns s))∧w=w':=by
 have HS:=hid h;have HN:=hid hn;clear h;go_enter Tryz.func107,Tryz.ntmps107;go_wp2_with fail
 go_loopw [8] (fun i wr=> ∃k:Nat,i= .int .i64 k∧k≤ns.length∧wr=w∧Hid (∀j (h:j<ns.length),j<k→ns[j]≠s)) (fun i _=>ns.length - (intOf i).toNat)
 case atStart=>exact⟨0,rfl,by omega,rfl,fun j _ h=>absurd h (by omega)⟩
 case round=>
  obtain⟨k,rfl,hk,rfl,HJ⟩:=hrel;by_cases hlt:k<ns.length
  ·obtain⟨p,o,rfl,-,hc⟩:=HS.out (by omega);have hck:=(hc k hlt).1;clear hc;by_cases hb:s=ns[k]
   ·have hb2:(s.toList == ns[k].toList)=true:=by rw[eO];exact decide_eq_true hb
    have HB:=hid hb;clear hb;go_wp2_with fail;go_ret;refine⟨?_,rfl⟩;rw[qn (k:=0) hlt HB.out.symm (fun i hi hij=>HJ.out i hi hij)];simp
   ·have hb2:(s.toList == ns[k].toList)=false:=by rw[eO];exact decide_eq_false hb
    have HB:=hid hb;clear hb;go_wp2_with fail
    go_roundw
    case rel=>exact⟨k+1,by go_num,by omega,trivial,fun j h hjk=>by
     by_cases e:j=k
     ·subst e;exact fun h=>HB.out h.symm
     ·exact HJ.out j h (by omega)⟩
    case measure=>simp[intOf];omega
  ·go_wp2_with fail;go_ret;exact⟨by rw[kl fun j h=>HJ.out j h (by omega)];rfl,rfl⟩
structure AtV (w:World)(S:Nat→Prop)(t:VT)(g o:Nat)(A:Option Addr)(c:Nat)(A':Option Addr)(c':Nat):Prop where
 c0:w.cell? ⟨g,o,none⟩=some (.int .i64 t.kind)
 c1:w.cell? ⟨g,o+1,none⟩=some (.int .i64 t.num)
 c2:w.cell? ⟨g,o+2,none⟩=some (.string t.text)
 c3:w.cell? ⟨g,o+3,none⟩=some (.slice A t.items.length c)
 c4:w.cell? ⟨g,o+4,none⟩=some (.slice A' t.names.length c')
 v:LV w S t (.agg #[.int .i64 t.kind,.int .i64 t.num,.string t.text,.slice A t.items.length c,.slice A' t.names.length c'])
theorem AtV.of_box {w:World}{S:Nat→Prop}{t:VT}{g:Nat}{A:Option Addr}{c:Nat}{A':Option Addr}{c':Nat}(h:Box w g (.int .i64 t.kind) (.int .i64 t.num) (.string t.text) (.slice A t.items.length c) (.slice A' t.names.length c'))
  (hv:LV w S t (.agg #[.int .i64 t.kind,.int .i64 t.num,.string t.text,.slice A t.items.length c,.slice A' t.names.length c'])):AtV w S t g 0 A c A' c':=⟨h.c0,h.c1,h.c2,h.c3,h.c4,hv⟩
theorem AtV.keep {w w':World}{S:Nat→Prop}{t:VT}{g o:Nat}{A:Option Addr}{c:Nat}{A':Option Addr}{c':Nat}(h:AtV w S t g o A c A' c')(hg:w'.heap[g]? =w.heap[g]?)(hS: ∀b,S b→w'.heap[b]? =w.heap[b]?):AtV w' S t g o A c A' c':=
 ⟨(World.cell?_of_block (a:=⟨g,o,none⟩) hg).trans h.c0,(World.cell?_of_block (a:=⟨g,o+1,none⟩) hg).trans h.c1,(World.cell?_of_block (a:=⟨g,o+2,none⟩) hg).trans h.c2,(World.cell?_of_block (a:=⟨g,o+3,none⟩) hg).trans h.c3,(World.cell?_of_block (a:=⟨g,o+4,none⟩) hg).trans h.c4,h.v.keep hS⟩
theorem AtV.item {w:World}{S:Nat→Prop}{t:VT}{g o:Nat}{A:Option Addr}{c:Nat}{A':Option Addr}{c':Nat}(h:AtV w S t g o A c A' c'){j:Nat}(hj:j<t.items.length):
  ∃G off A2 c2 A3 c3,A=some ⟨G,off,none⟩∧S G∧AtV w S t.items[j] G (off+j * 5) A2 c2 A3 c3:=by
 obtain⟨A0,c0,A0',c0',hag,-,-,-,-,-,-,hla⟩:=h.v.shape;injection hag with hag;injection hag with hag
 injection hag with y0 hag;injection hag with y1 hag;injection hag with y2 hag;injection hag with y3 hag
 injection y3 with y3
 subst y3;obtain⟨G,off,hA,hG,hls⟩:=hla (by omega);obtain⟨x0,x1,x2,x3,x4,h0,h1,h2,h3,h4,hx⟩:=hls.at j hj;obtain⟨A2,e2,A3,e3,hag2,-⟩:=hx.shape;injection hag2 with hag2;injection hag2 with hag2
 injection hag2 with z0 hag2;injection hag2 with z1 hag2;injection hag2 with z2 hag2;injection hag2 with z3 hag2;injection hag2 with z4 hag2
 subst z0 z1 z2 z3 z4;exact⟨G,off,A2,e2,A3,e3,hA,hG,h0,h1,h2,h3,h4,hx⟩
theorem AtV.names {w:World}{S:Nat→Prop}{t:VT}{g o:Nat}{A:Option Addr}{c:Nat}{A':Option Addr}{c':Nat}(h:AtV w S t g o A c A' c'):ai w S A' t.names∧t.names.length≤140737488351232∧t.items.length≤140737488351232:=by
 obtain⟨A0,c0,A0',c0',hag,-,-,-,hl1,hl2,hst,-⟩:=h.v.shape;injection hag with hag;injection hag with hag
 injection hag with y0 hag;injection hag with y1 hag;injection hag with y2 hag;injection hag with y3 hag;injection hag with y4 hag
 injection y4 with y4
 subst y4;exact⟨hst,hl2,hl1⟩
theorem bL {t:VT}{s:ByteArray}(h:t.kind=7):ab t s=nmI 0 t.names s:=by unfold ab;rw[if_pos h]
theorem dC {t:VT}{s:ByteArray}(h:t.kind=6):ab t s=if ed s.data.toList<t.items.length then ed s.data.toList else -1:=by unfold ab;rw[if_neg (by omega),if_pos h]
theorem fM {t:VT}{s:ByteArray}(h7:t.kind≠7)(h6:t.kind≠6):ab t s= -1:=by unfold ab;rw[if_neg h7,if_neg h6]
theorem xK (S:Nat→Prop)(t:VT)(g o:Nat)(A:Option Addr)(c:Nat)(A':Option Addr)(c':Nat)(s:ByteArray)(w:World)(h:AtV w S t g o A c A' c')(hg:g<w.heap.size)(hs:s.size≤140737488351232):
  Calls Tryz.prog 136 #[.pointer (some ⟨g,o,none⟩),.string s] w fun e w'=>e= .returned (.int .i64 (ab t s))∧Below w.heap.size w w':=by
 have H:=hid h;have c0:=h.c0;have c4:=h.c4;clear h;obtain⟨R,hR⟩: ∃R,R=ab t s:=⟨_,rfl⟩;rw[←hR];obtain⟨k,hk⟩: ∃k,k=t.kind:=⟨_,rfl⟩;rw[←hk]at c0;have HP:=hid hR;have HK:=hid hk;clear hk hR;go_enter Tryz.func136,Tryz.ntmps136;by_cases h7:k=7
 ·subst h7;go_wp2_with fail;refine(lD A' c' t.names s w S H.out.names.1 H.out.names.2.1).mono ?_;rintro e w1 ⟨rfl,rfl⟩;go_wp2_with fail;go_ret;exact⟨by rw[HP.out,bL HK.out.symm];rfl,Below.refl _ _⟩
 have b7:=beq_false_of_ne h7;by_cases h6:k=6
 ·subst h6;go_wp2_with fail;refine(oV s w hs).mono ?_;rintro e w1 hi;unfold iY at hi
  cases hix:fV s.data.toList with
  |none=>
   rw[hix]at hi;obtain⟨rfl,hb⟩:=hi;have HB:=hid hb;have hI:=dH hix;go_wp2_with fail;go_ret;refine⟨?_,HB.out⟩
   rw[HP.out,dC HK.out.symm,hI,if_pos (by omega)];rfl
  |some n=>
   rw[hix]at hi;obtain⟨rfl,hb⟩:=hi;have HB:=hid hb;have hI:=ge hix;have c3:w1.cell? ⟨g,o+3,none⟩=some (.slice A t.items.length c):=(World.cell?_of_block (a:=⟨g,o+3,none⟩) (hb.block g hg)).trans H.out.c3;by_cases hlt:(n:Int)<(t.items.length:Int)
   ·have hlt2:decide ((n:Int)<(t.items.length:Int))=true:=decide_eq_true hlt;go_wp2_with fail;go_ret;refine⟨?_,HB.out⟩;rw[HP.out,dC HK.out.symm,hI,if_pos hlt];rfl
   ·have hlt2:decide ((n:Int)<(t.items.length:Int))=false:=decide_eq_false hlt;go_wp2_with fail;go_ret;refine⟨?_,HB.out⟩;rw[HP.out,dC HK.out.symm,hI,if_neg (by omega)];rfl
 have b6:=beq_false_of_ne h6;go_wp2_with fail;go_ret;exact⟨by rw[HP.out,fM (fun h=>h7 (HK.out.trans h)) (fun h=>h6 (HK.out.trans h))];rfl,Below.refl _ _⟩
end Go.Proofs.YtgbopnlpaabelaaGreatDoor
/- Statements whose order Go leaves open, where two operations that do more than yield may come in either order: a walk along a tree of orders, with a relation of one's choice for what must stay while something that only yields is waited for. -/
namespace Go.Proofs.YtgbopnlpaabelaaGreatDoor
open Go.RowKit Go.Sort
structure af (R:World→World→Prop)(w:World) where
 u:World
 h:R w u
abbrev CRR (R:World→World→Prop)(w:World):World→Prop:=fun u=> ∃p:af R w,u=p.u
inductive OT where
 |tail (l:List Nat):OT
 |pure (l:List Nat) (t:OT):OT
 |free (l:List Nat) (t:OT):OT
 |step (i:Nat) (t:OT):OT
 |fork (i:Nat) (a:OT) (j:Nat) (b:OT):OT
section
variable {P :Program} {ops:Array Oper} {Q:Exit→Act→World→Prop} {md:Region.Mode} {R:World→World→Prop} {T:List Nat}
def lW (R:World→World→Prop)(T:List Nat)(P:Program)(md:Region.Mode)(ops:Array Oper)(Q:Exit→Act→World→Prop):Nat→Array Bool→Act→World→Prop
 |0,listed,a,w=>Region.ready md ops listed= []∧Q .normal a w
 |f+1,listed,a,w=>(Region.ready md ops listed= []→Q .normal a w)∧
   ∀i∈Region.ready md ops listed,wpOp P ops Q i (fun a' w'=>(i∈T∨R w w')∧lW R T P md ops Q f (listed.setIfInBounds i true) a' w') a w
theorem ig : ∀(f:Nat) (listed:Array Bool) (a:Act) (w:World),lW R T P md ops Q f listed a w→wpAny P md ops Q f listed a w
 |0,_,_,_,h=>h
 |f+1,_,_,_,h=>⟨h.1,fun i hi=>wpOp_mono (fun a' w' h'=>ig f _ a' w' h'.2) (h.2 i hi)⟩
def kr (md:Region.Mode)(ops:Array Oper)(T:List Nat)(i:Nat):Bool:=T.all fun j=>match ops[j]? with
 |none=>true
 |some o=>o.after.toList.any fun e=>Region.binds md e && Nat.beq e.on i
theorem mR (hrr: ∀w,R w w)(R2:World→World→Prop)(hrr2: ∀w,R2 w w)(htr: ∀a b c,R2 a b→R2 b c→R2 a c){i:Nat}{oi:Oper}{v:Value}(hi:ops[i]? =some oi)(hT0:(kr md ops T i=true∧ ∀a b,R a b→R2 a b)∨ ∀a b,R2 a b)(hsel:Region.noSelect ops=true)(hQ: ∀c d v a w,Q (.panic c) (Act.put a d v) w→Q (.panic c) a w):
  ∀(f:Nat) (listed:Array Bool) (a:Act) (w:World),
   (∀j oj,ops[j]? =some oj→j≠i→listed.getD j true=false→(∀e∈oj.after,Region.binds md e=true→e.on≠i)→oi.apart ops oj=true)→
   i∈Region.ready md ops listed→YieldsIf P ops (fun u=>R2 w u) oi v a→
   lW R T P md ops Q f (listed.setIfInBounds i true) (a.put oi.dst v) w→lW R T P md ops Q (f+1) listed a w:=by
 intro f
 induction f with
 |zero=>
  intro listed a w _ hr hy H;refine⟨fun h=>absurd hr (by rw[h];exact List.not_mem_nil),fun j hj=> ?_⟩;by_cases hji:j=i
  ·subst hji;exact hy.wpOp hi (hrr2 _) ⟨.inr (hrr _),H⟩
  ·exact absurd (ready_mono hj hji) (by rw[H.1];exact List.not_mem_nil)
 |succ f ih=>
  intro listed a w hfree hr hy H;refine⟨fun h=>absurd hr (by rw[h];exact List.not_mem_nil),fun j hj=> ?_⟩;by_cases hji:j=i
  ·subst hji;exact hy.wpOp hi (hrr2 _) ⟨.inr (hrr _),H⟩
  ·obtain⟨hjun,oj,hoj,hall⟩:=mem_ready.1 hj
   have hnot: ∀e∈oj.after,Region.binds md e=true→e.on≠i:=by
    intro e he hb heq;have h1:=hall e he hb;have h0:=(mem_ready.1 hr).1;rw[heq]at h1;rcases Nat.lt_or_ge i listed.size with h'|h'
    ·simp[h']at h0 h1;rw[h0]at h1;cases h1
    ·simp[Array.getElem?_eq_none h']at h1
   have hjT:kr md ops T i=true→j∉T:=by
    intro hT hm;have h1:=List.all_eq_true.1 hT j hm;rw[hoj]at h1;obtain⟨e,he,hb⟩:=List.any_eq_true.1 h1;simp only[Bool.and_eq_true]at hb;exact hnot e (by simpa using he) hb.1 (Nat.eq_of_beq_eq_true hb.2)
   have h2:=wpOp_putIf (S:=fun u=>R2 w u) hoj (hfree j oj hoj hji hjun hnot) (fun cs b=>Region.noSelect_spec hsel i oi cs b hi) (fun cs b=>Region.noSelect_spec hsel j oj cs b hoj)
    (fun c a w=>hQ c oi.dst v a w) hy (H.2 j (ready_mono hj hji))
   refine wpOp_mono (fun a' w' h3=> ?_) h2
   have hR:R2 w w':=by
    rcases hT0 with ⟨hT,himp⟩|hall
    ·exact himp _ _ (h3.2.1.resolve_left (hjT hT))
    ·exact hall _ _
   refine⟨h3.2.1,ih (listed.setIfInBounds j true) a' w' ?_ (ready_mono hr (Ne.symm hji)) (h3.1.imp (fun⟨h1,h2⟩=>⟨h1,fun u hu=>h2 u (htr _ _ _ hR hu)⟩) id) ?_⟩
   ·intro k ok hk hki hun hno;refine hfree k ok hk hki ?_ hno;by_cases hjk:j=k
    ·subst hjk;exact hjun
    ·rw[getD_set_ne true hjk]at hun;exact hun
   ·rw[Array.setIfInBounds_comm _ _ hji];exact h3.2.2
/-! ### the tree, checked -/
def ji (md:Region.Mode)(ops:Array Oper)(T:List Nat):Nat→List Nat→Array Bool→Bool
 |0,[],listed=>(Region.ready md ops listed).isEmpty
 |f+1,i::r,listed=>(ops[i]?).isSome && Region.ready md ops listed == [i] && T.contains i && ji md ops T f r (listed.setIfInBounds i true)
 |_,_,_=>false
def ll (all:Bool)(md:Region.Mode)(ops:Array Oper)(T:List Nat):List Nat→Array Bool→Bool
 | [],_=>true
 |i::r,listed=>match ops[i]? with
  |none=>false
  |some o=>aF o && (Region.ready md ops listed).contains i && Region.free md ops listed i && (all || kr md ops T i) && ll all md ops T r (listed.setIfInBounds i true)
def lj (l:List Nat)(listed:Array Bool):Array Bool:=l.foldl (fun x i=>x.setIfInBounds i true) listed
def lS (md:Region.Mode)(ops:Array Oper)(T:List Nat):Nat→OT→Array Bool→Bool
 |f,.tail l,listed=>ji md ops T f l listed
 |f,.pure l t,listed=>l.length≤f && ll false md ops T l listed && lS md ops T (f - l.length) t (lj l listed)
 |f,.free l t,listed=>l.length≤f && ll true md ops T l listed && lS md ops T (f - l.length) t (lj l listed)
 |f,.step i t,listed=>1≤f && (ops[i]?).isSome && Region.ready md ops listed == [i] && lS md ops T (f - 1) t (listed.setIfInBounds i true)
 |f,.fork i a j b,listed=>1≤f && (ops[i]?).isSome && (ops[j]?).isSome && Region.ready md ops listed == [i,j] && lS md ops T (f - 1) a (listed.setIfInBounds i true) && lS md ops T (f - 1) b (listed.setIfInBounds j true)
/-! ### the walk -/
def cz (P:Program)(ops:Array Oper)(Q:Exit→Act→World→Prop)(o:Oper)(K:Act→World→Prop)(a:Act)(w:World):Prop:=
 if Region.wanted o (yielded ops a.tmps)then o.wp P a w K Q else K (a.put o.dst undef) w
def pN (P:Program)(ops:Array Oper)(Q:Exit→Act→World→Prop):List Oper→Act→World→Prop
 | [],a,w=>Q .normal a w
 |o::r,a,w=>cz P ops Q o (pN P ops Q r) a w
abbrev gc :World→World→Prop:=fun _ _=>True
instance (w :World):Inhabited (af gc w):=⟨⟨w,trivial⟩⟩
def eZ (R:World→World→Prop)(T:List Nat)(P:Program)(ops:Array Oper)(Q:Exit→Act→World→Prop):OT→Act→World→Prop
 | .tail l,a,w=>pN P ops Q (cJ ops l) a w
 | .pure l t,a,w=>wpQuiet P ops (CRR R w) (fun a'=>eZ R T P ops Q t a' w) (cJ ops l) a
 | .free l t,a,w=>wpQuiet P ops (CRR gc w) (fun a'=>eZ R T P ops Q t a' w) (cJ ops l) a
 | .step i t,a,w=> ∀o,ops[i]? =some o→cz P ops Q o (fun a' w'=>(i∈T∨R w w')∧eZ R T P ops Q t a' w') a w
 | .fork i x j y,a,w=>(∀o,ops[i]? =some o→cz P ops Q o (fun a' w'=>(i∈T∨R w w')∧eZ R T P ops Q x a' w') a w)∧(∀o,ops[j]? =some o→cz P ops Q o (fun a' w'=>(j∈T∨R w w')∧eZ R T P ops Q y a' w') a w)
theorem cD {i:Nat}{o:Oper}{K:Act→World→Prop}{a:Act}{w:World}(ho:ops[i]? =some o)(h:cz P ops Q o K a w):wpOp P ops Q i K a w:=by
 unfold wpOp cz at *;simp only[ho]
 split
 ·next hw=>rw[if_pos hw]at h;exact .inl h
 ·next hw=>rw[if_neg hw]at h;exact h
theorem da {o:Oper}{K K':Act→World→Prop}{a:Act}{w:World}(hk: ∀a w,K a w→K' a w)(h:cz P ops Q o K a w):cz P ops Q o K' a w:=by
 unfold cz at *
 split
 ·next hw=>rw[if_pos hw]at h;exact Oper.wp_mono hk h
 ·next hw=>rw[if_neg hw]at h;exact hk _ _ h
theorem ii {i:Nat}{r:List Nat}{o:Oper}(h:ops[i]? =some o):cJ ops (i::r)=o::cJ ops r:=by simp[cJ,h]
theorem lm {i:Nat}{o:Oper}{f:Nat}{listed:Array Bool}{a:Act}{w:World}(ho:ops[i]? =some o)(hr:Region.ready md ops listed= [i])
  (h:cz P ops Q o (fun a' w'=>(i∈T∨R w w')∧lW R T P md ops Q f (listed.setIfInBounds i true) a' w') a w):lW R T P md ops Q (f+1) listed a w:=
 ⟨(fun h0=>by rw[hr]at h0;cases h0),fun j hj=>by
  rw[hr]at hj;obtain rfl:j=i:=by simpa using hj
  exact cD ho h⟩
theorem ph : ∀(f:Nat) (l:List Nat) (listed:Array Bool) (a:Act) (w:World),ji md ops T f l listed=true→pN P ops Q (cJ ops l) a w→lW R T P md ops Q f listed a w
 |0,[],listed,a,w,hB,h=>⟨by unfold ji at hB;simpa using hB,h⟩
 |0,i::r,listed,a,w,hB,h=>by unfold ji at hB;cases hB
 |f+1,[],listed,a,w,hB,h=>by unfold ji at hB;cases hB
 |f+1,i::r,listed,a,w,hB,h=>by
  unfold ji at hB;simp only[Bool.and_eq_true,beq_iff_eq]at hB;obtain⟨⟨⟨h1,h2⟩,h3⟩,h4⟩:=hB;obtain⟨o,ho⟩:=Option.isSome_iff_exists.1 h1;rw[ii ho]at h;exact lm ho h2 (da (fun a' w' h'=>⟨.inl (by simpa using h3),ph f r _ a' w' h4 h'⟩) h)
theorem Ab {o:Oper}{v:Value}{a:Act}{w:World}(hp:aF o=true)(hw:Region.wanted o (yielded ops a.tmps)=true)(h: ∀u,CRR R w u→o.quietAt P a (CRR R w) u v):
  YieldsIf P ops (fun u=>R w u) o v a:=by
 refine .inl ⟨hw,fun u hu=> ?_⟩;have h1:=h u ⟨⟨u,hu⟩,rfl⟩;unfold Oper.quietAt at h1
 cases hr:(execOp a.eval o).run P u with
 |halt x u'=>rw[hr]at h1;exact absurd h1 (by simp[Oper.quietUpon])
 |ok n u'=>
  obtain⟨x,rfl⟩:=nb hp hr;rw[hr]at h1;obtain⟨rfl,rfl⟩:=h1;rfl
theorem gn (hrr: ∀w,R w w)(R2:World→World→Prop)(all:Bool)(hrr2: ∀w,R2 w w)(htr: ∀a b c,R2 a b→R2 b c→R2 a c)(h2:if all then ∀a b,R2 a b else ∀a b,R a b→R2 a b)(hsel:Region.noSelect ops=true)(hQ: ∀c d v a w,Q (.panic c) (Act.put a d v) w→Q (.panic c) a w)(f:Nat){w:World}{K:Act→Prop}:
  ∀(l:List Nat) (listed:Array Bool) (a:Act),ll all md ops T l listed=true→(∀a',K a'→lW R T P md ops Q f (lj l listed) a' w)→wpQuiet P ops (CRR R2 w) K (cJ ops l) a→lW R T P md ops Q (l.length+f) listed a w
 | [],listed,a,_,hK,h=>by
  have h1:=hK a h
  simpa[lj]using h1
 |i::r,listed,a,hB,hK,h=>by
  unfold ll at hB
  cases ho:ops[i]? with
  |none=>rw[ho]at hB;cases hB
  |some o=>
   rw[ho]at hB;simp only[Bool.and_eq_true]at hB;obtain⟨⟨⟨⟨hp,hr⟩,hk⟩,hT⟩,hB'⟩:=hB;rw[ii ho]at h
   have hT':(kr md ops T i=true∧ ∀a b,R a b→R2 a b)∨ ∀a b,R2 a b:=by
    cases all with
    |true=>exact .inr (by simpa using h2)
    |false=>exact .inl ⟨by simpa using hT,by simpa using h2⟩
   have e:(i::r).length+f=(r.length+f)+1:=by simp;omega
   rw[e];unfold wpQuiet at h;have hK': ∀a',K a'→lW R T P md ops Q f (lj r (listed.setIfInBounds i true)) a' w:=fun a' h'=>hK a' h';by_cases hw:Region.wanted o (yielded ops a.tmps)=true
   ·rw[if_pos hw]at h;obtain⟨v,h1,h3⟩:=h;exact mR hrr R2 hrr2 htr ho hT' hsel hQ _ listed a w (Region.free_spec ho hk) (by simpa using hr) (Ab hp hw h1) (gn hrr R2 all hrr2 htr h2 hsel hQ f r _ _ hB' hK' h3)
   ·rw[if_neg hw]at h;exact mR hrr R2 hrr2 htr ho hT' hsel hQ _ listed a w (Region.free_spec ho hk) (by simpa using hr) (.inr ⟨by simpa using hw,rfl⟩) (gn hrr R2 all hrr2 htr h2 hsel hQ f r _ _ hB' hK' h)
theorem dU (hrr: ∀w,R w w)(htr: ∀a b c,R a b→R b c→R a c)(hsel:Region.noSelect ops=true)(hQ: ∀c d v a w,Q (.panic c) (Act.put a d v) w→Q (.panic c) a w):
  ∀(t:OT) (f:Nat) (listed:Array Bool) (a:Act) (w:World),lS md ops T f t listed=true→eZ R T P ops Q t a w→lW R T P md ops Q f listed a w
 | .tail l,f,listed,a,w,hB,h=>ph f l listed a w hB h
 | .pure l t,f,listed,a,w,hB,h=>by
  unfold lS at hB;simp only[Bool.and_eq_true,decide_eq_true_eq]at hB;obtain⟨⟨h1,h2⟩,h3⟩:=hB;have e:f=l.length+(f - l.length):=by omega
  rw[e]
  exact gn hrr R false hrr htr (by simp) hsel hQ _ l listed a h2 (fun a' h'=>dU hrr htr hsel hQ t _ _ a' w h3 h') h
 | .free l t,f,listed,a,w,hB,h=>by
  unfold lS at hB;simp only[Bool.and_eq_true,decide_eq_true_eq]at hB;obtain⟨⟨h1,h2⟩,h3⟩:=hB;have e:f=l.length+(f - l.length):=by omega
  rw[e]
  exact gn hrr gc true (fun _=>trivial) (fun _ _ _ _ _=>trivial) (by simp[gc]) hsel hQ _ l listed a h2 (fun a' h'=>dU hrr htr hsel hQ t _ _ a' w h3 h') h
 | .step i t,f,listed,a,w,hB,h=>by
  unfold lS at hB;simp only[Bool.and_eq_true,decide_eq_true_eq,beq_iff_eq]at hB;obtain⟨⟨⟨h1,h2⟩,h3⟩,h4⟩:=hB;obtain⟨o,ho⟩:=Option.isSome_iff_exists.1 h2;have e:f=(f - 1)+1:=by omega
  rw[e]
  exact lm ho h3 (da (fun a' w' h'=>⟨h'.1,dU hrr htr hsel hQ t _ _ a' w' h4 h'.2⟩) (h o ho))
 | .fork i x j y,f,listed,a,w,hB,h=>by
  unfold lS at hB;simp only[Bool.and_eq_true,decide_eq_true_eq,beq_iff_eq]at hB;obtain⟨⟨⟨⟨⟨h1,h2⟩,h3⟩,h4⟩,h5⟩,h6⟩:=hB;obtain⟨o,ho⟩:=Option.isSome_iff_exists.1 h2;obtain⟨o',ho'⟩:=Option.isSome_iff_exists.1 h3;have e:f=(f - 1)+1:=by omega
  rw[e];refine⟨(fun h0=>by rw[h4]at h0;cases h0),fun k hk=> ?_⟩;rw[h4]at hk;rcases List.mem_cons.1 hk with rfl|hk
  ·exact cD ho (da (fun a' w' h'=>⟨h'.1,dU hrr htr hsel hQ x _ _ a' w' h5 h'.2⟩) (h.1 o ho))
  ·obtain rfl:k=j:=by simpa using hk
   exact cD ho' (da (fun a' w' h'=>⟨h'.1,dU hrr htr hsel hQ y _ _ a' w' h6 h'.2⟩) (h.2 o' ho'))
def AL (ops:Array Oper)(T:List Nat)(t:OT):Bool:=Region.noSelect ops && lS .any ops T ops.size t (Array.replicate ops.size false)
theorem av (R:World→World→Prop)(hrr: ∀w,R w w)(htr: ∀a b c,R a b→R b c→R a c)(T:List Nat)(t:OT){id:Nat}{a:Act}{w:World}(hm:P.follows .mixedOrders=true)(hB:AL ops T t=true)
  (hQ: ∀c d v a w,Q (.panic c) (Act.put a d v) w→Q (.panic c) a w) (h:eZ R T P ops Q t a w.drew):(Code.region id ops true).wp P Q a w:=by
 unfold AL at hB;simp only[Bool.and_eq_true]at hB;exact wp_region_any hm (ig (R:=R) (T:=T) _ _ _ _ (dU hrr htr hB.1 hQ t _ _ a w.drew hB.2 h))
/-! ### nodes, one at a time -/
theorem bN {l:List Nat}{t:OT}{a:Act}{w:World}(h:wpQuiet P ops (CRR R w) (fun a'=>eZ R T P ops Q t a' w) (cJ ops l) a):eZ R T P ops Q (.pure l t) a w:=h
theorem bm {l:List Nat}{t:OT}{a:Act}{w:World}(h:wpQuiet P ops (CRR gc w) (fun a'=>eZ R T P ops Q t a' w) (cJ ops l) a):eZ R T P ops Q (.free l t) a w:=h
theorem AQ {i:Nat}{o:Oper}{t:OT}{a:Act}{w:World}
  (h: ∀K:Act→World→Prop,(∀a' w',(i∈T∨R w w')→eZ R T P ops Q t a' w'→K a' w')→if Region.wanted o (yielded ops a.tmps)=true then o.wp P a w K Q else K (a.put o.dst undef) w):
  cz P ops Q o (fun a' w'=>(i∈T∨R w w')∧eZ R T P ops Q t a' w') a w:=h _ fun _ _ h1 h2=>⟨h1,h2⟩
theorem ah {i:Nat}{o:Oper}{t:OT}{a:Act}{w:World}(ho:ops[i]? =some o)
  (h: ∀K:Act→World→Prop,(∀a' w',(i∈T∨R w w')→eZ R T P ops Q t a' w'→K a' w')→if Region.wanted o (yielded ops a.tmps)=true then o.wp P a w K Q else K (a.put o.dst undef) w):
  eZ R T P ops Q (.step i t) a w:=fun o' ho'=>by
 rw[ho]at ho';injection ho' with e
 subst e;exact AQ h
theorem iW {i j:Nat}{o o':Oper}{x y:OT}{a:Act}{w:World}(ho:ops[i]? =some o)(ho':ops[j]? =some o')
  (h: ∀K:Act→World→Prop,(∀a' w',(i∈T∨R w w')→eZ R T P ops Q x a' w'→K a' w')→if Region.wanted o (yielded ops a.tmps)=true then o.wp P a w K Q else K (a.put o.dst undef) w)
  (h': ∀K:Act→World→Prop,(∀a' w',(j∈T∨R w w')→eZ R T P ops Q y a' w'→K a' w')→if Region.wanted o' (yielded ops a.tmps)=true then o'.wp P a w K Q else K (a.put o'.dst undef) w):
  eZ R T P ops Q (.fork i x j y) a w:=⟨ah (t:=x) ho h,ah (t:=y) ho' h'⟩
theorem bd {o:Oper}{f:Nat→Option Bool}(hg:o.guard=none):Region.wanted o f=true:=by unfold Region.wanted;rw[hg]
theorem pZ {i:Nat}{o:Oper}{t:OT}{a:Act}{w:World}(ho:ops[i]? =some o)(hg:o.guard=none)
  (h: ∀K:Act→World→Prop,(∀a' w',(i∈T∨R w w')→eZ R T P ops Q t a' w'→K a' w')→o.wp P a w K Q):
  eZ R T P ops Q (.step i t) a w:=ah ho fun K hK=>by rw[if_pos (bd hg)];exact h K hK
theorem aw {i:Nat}{o:Oper}{l:List Nat}{a:Act}{w:World}(ho:ops[i]? =some o)
  (h: ∀K:Act→World→Prop,(∀a' w',eZ R T P ops Q (.tail l) a' w'→K a' w')→if Region.wanted o (yielded ops a.tmps)=true then o.wp P a w K Q else K (a.put o.dst undef) w):
  eZ R T P ops Q (.tail (i::l)) a w:=by
 show pN P ops Q (cJ ops (i::l)) a w;rw[ii ho];exact h _ fun _ _ h1=>h1
theorem aX {a:Act}{w:World}(h:Q .normal a w):eZ R T P ops Q (.tail []) a w:=h
end
end Go.Proofs.YtgbopnlpaabelaaGreatDoor
/- Going a path: the program's along, for whatever is done at its end. -/
namespace Go.Proofs.YtgbopnlpaabelaaGreatDoor
open Lib (hid)
open Go.RowKit
def fR (A:Option Addr)(c:Nat):Option Addr:=if c=1 then A else A.map (·.add 1)
theorem ai.tail {w:World}{S:Nat→Prop}{A:Option Addr}{c:Nat}{s:ByteArray}{r:List ByteArray}(h:ai w S A (s::r))(hc:r= []∨1<c):ai w S (fR A c) r:=by
 intro hp;obtain⟨b,off,rfl,hb,hx⟩:=h (by simp)
 have hc1:c≠1:=by
  rcases hc with h|h
  ·rw[h]at hp;simp at hp
  ·omega
 unfold fR;rw[if_neg hc1];refine⟨b,off+1,by simp[cq],hb,fun i hi=> ?_⟩;have:=hx (i+1) (by simp;omega);rw[show off+(i+1)=off+1+i by omega]at this;simpa using this
theorem oP (f:Nat)(caps:Array Value)(R:Ending→World→Prop)(I:World→VT→Nat→Nat→Option Addr→Nat→List ByteArray→Prop)(hcf0:eE f)
  (hRv: ∀e w,R e w→ ∃v,e= .returned v)
  (hat: ∀w t g o A c p,I w t g o A c p→ ∃S B k B' k',AtV w S t g o B k B' k'∧g<w.heap.size∧(t.kind=7→t.names.length≤t.items.length))
  (hstr: ∀w t g o A c p,I w t g o A c p→ ∃S,ai w S A p∧p.length≤c∧c≤9223372036854775807∧p≠[]∧(∀s∈p,s.size≤140737488351232))
  (hkeep: ∀w w' t g o A c p,I w t g o A c p→Below w.heap.size w w'→I w' t g o A c p)
  (hdown: ∀w t g o A c s r G off B k B' k' S (hj:(ab t s).toNat<t.items.length),I w t g o A c (s::r)→r≠[]→0≤ab t s→AtV w S t g o B k B' k'→B=some ⟨G,off,none⟩→I w (t.items[(ab t s).toNat]) G (off+(ab t s).toNat * 5) (fR A c) (c - 1) r)
  (hfin: ∀w t g o A c s r,I w t g o A c (s::r)→(ab t s<0∨r= [])→Calls Tryz.prog f (#[.agg #[.pointer (some ⟨g,o,none⟩),.int .i64 (ab t s),.slice A (r.length+1) c]]++caps) w R):
  ∀(p:List ByteArray) (t:VT) (g o:Nat) (A:Option Addr) (c:Nat) (w:World),I w t g o A c p→Calls Tryz.prog 94 #[.pointer (some ⟨g,o,none⟩),.slice A p.length c,.func (.func f) #[] caps] w R:=by
 intro p
 induction p with
 |nil=>intro t g o A c w h;obtain⟨S,-,-,-,h1,-⟩:=hstr _ _ _ _ _ _ _ h;exact absurd rfl h1
 |cons s r ih=>
  intro t g o A c w h;have hcf: ∀(args:Array Value) (W:World),(callFunc f args).run Tryz.prog W= .ok (.enter f args) W:=hcf0;obtain⟨S,B,k,B',k',hv,hg,hkn⟩:=hat _ _ _ _ _ _ _ h;obtain⟨S',hst,hpc,hc63,-,hsz⟩:=hstr _ _ _ _ _ _ _ h;obtain⟨b,off,rfl,hb,hx⟩:=hst (by simp);have hs0:=(hx 0 (by simp)).1;have hss:=hsz s (List.mem_cons_self ..);simp only[List.getElem_cons_zero,Nat.add_zero]at hs0;have H:=hid h;have HF:=hid (xK S t g o B k B' k' s w hv hg hss);have HIH:=hid ih;have HFIN:=hid hfin;have HDOWN:=hid hdown;have HKEEP:=hid hkeep;have HAT:=hid hat;have HKN:=hid hkn;have hpc':r.length+1≤c:=by simpa using hpc
  clear h hst hx hv ih hfin hdown hkeep hat hstr hcf0 hkn;simp only[List.length_cons]at *;go_enter Tryz.func94,Tryz.ntmps94;go_wp2_with fail;refine HF.out.mono ?_;rintro e w1 ⟨rfl,hb1⟩;have H1:=hid (HKEEP.out _ _ _ _ _ _ _ _ H.out hb1);obtain⟨P,hP⟩: ∃P,P=ab t s:=⟨_,rfl⟩;have hge: -1≤P:=by rw[hP];exact iJ t s
  rw[←hP];have HP:=hid hP;clear hb1 hP HF hs0 H;by_cases hneg:P<0
  ·have hneg2:decide (P<0)=true:=decide_eq_true hneg;go_wp2_with fail;have hfin:=HFIN.out _ _ _ _ _ _ _ _ H1.out (.inl (by rw[←HP.out];exact hneg));rw[←HP.out]at hfin;refine hfin.mono ?_;rintro e w2 hr;obtain⟨v,rfl⟩:=hRv _ _ hr;have HR:=hid hr;clear hr hfin;go_wp2_with fail;exact HR.out
  have hneg2:decide (P<0)=false:=decide_eq_false hneg;by_cases hr0:r= []
  ·subst hr0;simp only[List.length_nil,Nat.zero_add]at *;go_wp2_with fail;have hfin:=HFIN.out _ _ _ _ _ _ _ _ H1.out (.inr rfl);rw[←HP.out]at hfin;refine hfin.mono ?_;rintro e w2 hr;obtain⟨v,rfl⟩:=hRv _ _ hr;have HR:=hid hr;clear hr hfin;go_wp2_with fail;exact HR.out
  have hrl:0<r.length:=by cases r with|nil=>exact absurd rfl hr0|cons a b=>simp
  have hr1:(((r.length+1:Nat):Int) == 1)=false:=beq_false_of_ne (by omega);obtain⟨S1,B1,k1,B1',k1',hv1,hg1,hkn1⟩:=HAT.out _ _ _ _ _ _ _ H1.out;have hPn:0≤ab t s:=by rw[←HP.out];omega
  have hPl:(ab t s).toNat<t.items.length:=aP HKN.out hPn;obtain⟨G,off1,A2,c2,A3,c3,hB1,hG,hitem⟩:=hv1.item hPl;subst hB1;have hI:=HDOWN.out _ _ _ _ _ _ _ _ _ _ _ _ _ _ _ hPl H1.out hr0 hPn hv1 rfl;rw[←HP.out]at hPl;have hcell:=hv1.c3;have hlen:=hv1.names.2.2;have HI:=hid hI;obtain⟨j,rfl⟩: ∃j:Nat,P=j:=⟨P.toNat,by omega⟩;simp only[Int.toNat_natCast]at hPl;clear hI hv1 hkn1 hitem;go_wp2_with fail;refine av gc (fun _=>trivial) (fun _ _ _ _ _=>trivial) [9] (.free [0,1,2,4,6,7,8] (.step 3 (.free [5] (.step 9 (.free [10] (.tail [])))))) (by kernel_rfl) (by kernel_rfl) (fun _ d _ _ _ h=>by cases d<;>exact h) ?_;refine bm ?_;simp only[atR];show wpQuiet _ _ _ _ [_,_,_,_,_,_,_] _;try simp only[acR,Act.put]
  repeat(go_big_quiet_step (fail))
  refine wpQuiet_nil ?_;have hcd:w1.drew.cell? ⟨g,o+3,none⟩=some (.slice (some ⟨G,off1,none⟩) t.items.length k1):=hcell;refine ah rfl (fun K hK=> ?_)
  go_simp
  refine hK _ _ (.inr trivial) ?_;clear hK K hcd hcell;refine bm ?_;simp only[atR];show wpQuiet _ _ _ _ [_] _;try simp only[acR,Act.put]
  repeat(go_big_quiet_step (fail))
  refine wpQuiet_nil ?_;refine ah rfl (fun K hK=> ?_)
  go_simp
  have hj:(ab t s).toNat=j:=by rw[←HP.out];simp
  have ht:fR (some ⟨b,off,none⟩) c=some ⟨b,off+1,none⟩:=by
   unfold fR;rw[if_neg (by omega)];simp[cq]
  have hI:=HI.out;simp only[hj]at hI;rw[ht]at hI;refine(HIH.out _ _ _ _ _ _ (HKEEP.out _ w1.drew _ _ _ _ _ _ hI ((Below.refl _ _).drew))).mono ?_;rintro e w2 hr;obtain⟨v,rfl⟩:=hRv _ _ hr;have HR:=hid hr;refine hK _ _ (.inl (by decide)) ?_;clear hK K hr hI;refine bm ?_;simp only[atR];show wpQuiet _ _ _ _ [_] _;try simp only[acR,Act.put]
  repeat(go_big_quiet_step (fail))
  refine wpQuiet_nil ?_;refine aX ?_;go_wp2_with fail;exact HR.out
def cS (t:VT):Bool:=decide (t.kind=7) && ao t
def dN (t:VT)(p:List ByteArray):Int:=if cS t=false then 20 else if ce p=false then 40 else 0
theorem mU (S:Nat→Prop)(t:VT)(v:Value)(A:Option Addr)(c:Nat)(p:List ByteArray)(w:World)(hS: ∀b,S b→b<w.heap.size)(h:LV w S t v)(hd:ac t≤4611686018427387903)(hp:ai w S A p)(hn:p.length≤140737488351232):
  Calls Tryz.prog 93 #[v,.slice A p.length c] w fun e w'=>e= .returned (.int .i64 (dN t p))∧Below w.heap.size w w':=by
 obtain⟨A0,c0,A0',c0',rfl,-,-,-,v1,hb0⟩:=bY hS h;have P:=hid v1;have HB:=hid hb0;have HPS:=hid hp;have HW:Hid (dN t p=if cS t=false then 20 else if ce p=false then 40 else 0):=hid rfl;have HDB:Hid (cS t=(decide (t.kind=7) && ao t)):=hid rfl;obtain⟨W,hW⟩: ∃W,W=dN t p:=⟨_,rfl⟩;rw[←hW]at HW ⊢;obtain⟨k,hk⟩: ∃k,k=t.kind:=⟨_,rfl⟩;have q0:=v1.x.c0;rw[←hk]at q0 HDB;have HK:=hid hk;clear h v1 hb0 hp hW hk;go_enter Tryz.func93,Tryz.ntmps93;have hk':=HK.out;rw[←hk'];clear hk';by_cases h7:k=7;rotate_left
 ·have h8:(k != 7)=true:=by simp[h7]
  have hw:W=20:=by rw[HW.out,HDB.out,decide_eq_false h7];simp
  have HWW:=hid hw;clear hw;have hb1:=HB.out;rw[←HK.out]at hb1;go_wp2_with fail;go_ret;exact⟨by rw[HWW.out];rfl,hb1⟩
 subst h7;have hv1:=P.out.v;have hs1:=P.out.s;have hb1:=HB.out;have hx1:=P.out.x;rw[←HK.out]at hv1 hs1 hb1 hx1;have q1:=hx1.c1;have q2:=hx1.c2;have q3:=hx1.c3;have q4:=hx1.c4;have HM:=hid (iQ S t _ _ hs1 hv1 hd);have HB1:=hid hb1;clear hv1 hs1 hb1 hx1;go_wp2_with fail;refine HM.out.mono ?_;rintro e w2 ⟨rfl,hb2⟩;have hB2:=am HB1.out hb2;have HB2:=hid hB2;have HPP:=hid (gU A c p w2 S (HPS.out.keep fun b hb=>hB2.block b (hS b hb)) hn);clear hb2 hB2 HM q0 q1 q2 q3 q4
 cases hm:ao t with
 |false=>
  have hw:W=20:=by rw[HW.out,HDB.out,hm];simp
  have HWW:=hid hw;clear hw;go_wp2_with fail;go_ret
  exact⟨by rw[HWW.out];rfl,HB2.out⟩
 |true=>
  have hdb:cS t=true:=by rw[HDB.out,hm];simp
  have HD:=hid hdb;clear hdb;go_wp2_with fail;refine HPP.out.mono ?_;rintro e w3 ⟨rfl,rfl⟩
  cases hp:ce p with
  |false=>
   have hw:W=40:=by rw[HW.out,HD.out,hp];simp
   have HWW:=hid hw;clear hw;go_wp2_with fail;go_ret
   exact⟨by rw[HWW.out];rfl,HB2.out⟩
  |true=>
   have hw:W=0:=by rw[HW.out,HD.out,hp];simp
   have HWW:=hid hw;clear hw;go_wp2_with fail;go_ret;exact⟨by rw[HWW.out];rfl,HB2.out⟩
def cH (w:World)(p o:Nat)(c0 c1 c2 c3 c4:Value):World:=((((w.setCell ⟨p,o,none⟩ c0).setCell ⟨p,o+1,none⟩ c1).setCell ⟨p,o+2,none⟩ c2).setCell ⟨p,o+3,none⟩ c3).setCell ⟨p,o+4,none⟩ c4
theorem bE (w:World)(p o:Nat)(c0 c1 c2 c3 c4:Value)(b:Nat)(h:b≠p):(cH w p o c0 c1 c2 c3 c4).heap[b]? =w.heap[b]? :=by
 unfold cH;rw[heap_setCell_other _ ⟨p,_,none⟩ b _ h,heap_setCell_other _ ⟨p,_,none⟩ b _ h,heap_setCell_other _ ⟨p,_,none⟩ b _ h,heap_setCell_other _ ⟨p,_,none⟩ b _ h,heap_setCell_other _ ⟨p,_,none⟩ b _ h]
theorem bQ (w:World)(p o:Nat)(c0 c1 c2 c3 c4:Value):(cH w p o c0 c1 c2 c3 c4).heap.size=w.heap.size:=by simp[cH]
theorem cv (w:World)(p o:Nat)(c0 c1 c2 c3 c4:Value):(cH w p o c0 c1 c2 c3 c4).os=w.os∧(cH w p o c0 c1 c2 c3 c4).tape=w.tape∧(cH w p o c0 c1 c2 c3 c4).output=w.output:=by
 have h: ∀(w:World) (a:Addr) (u:Value),(w.setCell a u).os=w.os∧(w.setCell a u).tape=w.tape∧(w.setCell a u).output=w.output:=fun _ _ _=>⟨rfl,rfl,rfl⟩;unfold cH;refine⟨?_,?_,?_⟩
 ·rw[(h _ _ _).1,(h _ _ _).1,(h _ _ _).1,(h _ _ _).1,(h _ _ _).1]
 ·rw[(h _ _ _).2.1,(h _ _ _).2.1,(h _ _ _).2.1,(h _ _ _).2.1,(h _ _ _).2.1]
 ·rw[(h _ _ _).2.2,(h _ _ _).2.2,(h _ _ _).2.2,(h _ _ _).2.2,(h _ _ _).2.2]
theorem aZ {w:World}{p:Nat}{a0 a1 a2 a3 a4 c0 c1 c2 c3 c4:Value}(h:Box w p a0 a1 a2 a3 a4):Box (cH w p 0 c0 c1 c2 c3 c4) p c0 c1 c2 c3 c4:=by
 have h1:=(((h.set0 c0).set1 c1).set2 c2).set3 c3;exact Go.Joins.block_setCell (i:=4) h1 c4
theorem aq {fn:Func}{p u:Tmp}(h:fn.results= #[.cell p 25,.tmp u])(tmps:Array Value)(w:World)(g:Nat)(t:TypeId)(cs:Array Value)(fr:Nat×Nat)
  (hp:tmps.getD p undef= .pointer (some ⟨g,0,none⟩)) (hg:w.heap[g]? =some (.cells cs t fr)) (hi:(Tryz.prog.info? 25).map (·.size)=some cs.size):
  (results fn tmps).run Tryz.prog w= .ok (.tuple #[.agg cs,tmps.getD u undef]) w:=by
 rw[results_cell_tmp h,hp];have e:(asAddr (.pointer (some ⟨g,0,none⟩))).run Tryz.prog w= .ok ⟨g,0,none⟩ w:=by simp[asAddr]
 rw[e];simp only[Result.andThen];rw[run_loadVar_row w g t 25 cs fr _ hg Tryz.underlying25 rfl hi]
theorem vQ (S:Nat→Prop)(t:VT)(v:Value)(s:ByteArray)(w:World)(hS: ∀b,S b→b<w.heap.size)(h:LV w S t v)(hs:s.size≤140737488351232):
  Calls Tryz.prog 46 #[v,.string s] w fun e w'=>e= .returned (.int .i64 (ab t s))∧Below w.heap.size w w':=by
 obtain⟨A0,c0,A0',c0',rfl,hl,-,hst,v1,hb0⟩:=bY hS h;have P:=hid v1;have HB:=hid hb0;have HST:=hid hst;obtain⟨R,hR⟩: ∃R,R=ab t s:=⟨_,rfl⟩;rw[←hR];obtain⟨k,hk⟩: ∃k,k=t.kind:=⟨_,rfl⟩;have q0:=v1.x.c0;have q3:=v1.x.c3;have q4:=v1.x.c4;rw[←hk]at q0 q3 q4;have HK:=hid hk;have HP:=hid hR;have hb1:=hb0;rw[←hk]at hb1;have HB1:=hid hb1;have hl1:=hl.1;have hl2:=hl.2;clear h v1 hb0 hk hR hst hb1;go_enter Tryz.func46,Tryz.ntmps46;have hk':=HK.out;rw[←hk'];clear hk';by_cases h6:k=6
 ·subst h6;go_wp2_with fail;refine(ti s _ hs).mono ?_;rintro e w1 ⟨rfl,rfl⟩;by_cases hlt:ed s.data.toList<(t.items.length:Int)
  ·have hlt2:decide (ed s.data.toList<(t.items.length:Int))=true:=decide_eq_true hlt;go_wp2_with fail;go_ret;refine⟨?_,HB1.out⟩;rw[HP.out,dC HK.out.symm,if_pos hlt];rfl
  ·have hlt2:decide (ed s.data.toList<(t.items.length:Int))=false:=decide_eq_false hlt;go_wp2_with fail;go_ret;refine⟨?_,HB1.out⟩;rw[HP.out,dC HK.out.symm,if_neg (by omega)];rfl
 have b6:=beq_false_of_ne h6;by_cases h7:k=7;rotate_left
 ·have b7:=beq_false_of_ne h7;go_wp2_with fail;go_ret;refine⟨?_,HB1.out⟩;rw[HP.out,fM (fun h=>h7 (HK.out.trans h)) (fun h=>h6 (HK.out.trans h))];rfl
 subst h7;go_wp2_with fail;generalize hW:w.alloc (.cells #[.int .i64 7,.int .i64 t.num,.string t.text,.slice A0 t.items.length c0,.slice A0' t.names.length c0'] 25)=w1 at *
 go_loopw [6] (fun i wr=> ∃j:Nat,i= .int .i64 j∧j≤t.names.length∧wr=w1∧Hid (∀i (h:i<t.names.length),i<j→t.names[i]≠s)) (fun i _=>t.names.length - (intOf i).toNat)
 case atStart=>exact⟨0,rfl,by omega,rfl,fun j _ h=>absurd h (by omega)⟩
 case round=>
  obtain⟨j,rfl,hj,rfl,HJ⟩:=hrel;by_cases hlt:j<t.names.length
  ·obtain⟨p,o,rfl,hp,hc⟩:=HST.out (by omega);have hck:wr.cell? ⟨p,o+j,none⟩=some (.string t.names[j]):=(HB1.out.cell (p:=⟨p,o+j,none⟩) (hS p hp)).trans (hc j hlt).1;clear hc;by_cases hb:t.names[j]=s
   ·have hb2:(t.names[j].toList == s.toList)=true:=by rw[eO];exact decide_eq_true hb
    have HE:=hid hb;clear hb;go_wp2_with fail;go_ret;refine⟨?_,HB1.out⟩;rw[HP.out,bL HK.out.symm,qn (k:=0) hlt HE.out (fun i hi hij=>HJ.out i hi hij)];simp
   ·have hb2:(t.names[j].toList == s.toList)=false:=by rw[eO];exact decide_eq_false hb
    have HE:=hid hb;clear hb;go_wp2_with fail
    go_roundw
    case rel=>exact⟨j+1,by go_num,by omega,trivial,fun i h hij=>by
     by_cases e:i=j
     ·subst e;exact HE.out
     ·exact HJ.out i h (by omega)⟩
    case measure=>simp[intOf];omega
  ·go_wp2_with fail;go_ret;refine⟨?_,HB1.out⟩;rw[HP.out,bL HK.out.symm,kl fun i h=>HJ.out i h (by omega)];rfl
theorem rR : ∀ {l:List VT},gk l=true→ ∀j (hj:j<l.length),ao l[j]=true
 |a::r,h,0,_=>by unfold gk at h;rw[Bool.and_eq_true]at h;exact h.1
 |a::r,h,j+1,hj=>by
  unfold gk at h;rw[Bool.and_eq_true]at h;exact rR h.2 j (by simpa using hj)
theorem bT {t:VT}(h:ao t=true)(hk:t.kind=7):t.names.length≤t.items.length:=by
 cases t with
 |mk k i s l ns=>
  have h1:=(ey h).1 hk;simp only[VT.names,VT.items];omega
theorem cl {t:VT}(h:ao t=true){j:Nat}(hj:j<t.items.length):ao t.items[j]=true:=by
 cases t with
 |mk k i s l ns=>exact rR (ey h).2.2 j hj
def okT (t:VT)(p:List ByteArray):Bool:=(aV t p).isSome
def ko (t:VT)(p:List ByteArray):VT:=(aV t p).getD (.mk 0 0 ⟨#[]⟩ [] [])
theorem rG {t:VT}{s:ByteArray}{r:List ByteArray}(h:ab t s<0):aV t (s::r)=none:=by unfold aV;rw[if_pos h]
theorem mG {t:VT}{s:ByteArray}{r:List ByteArray}(h:0≤ab t s)(hj:(ab t s).toNat<t.items.length):aV t (s::r)=aV (t.items[(ab t s).toNat]) r:=by
 conv=>lhs;unfold aV
 rw[if_neg (by omega),List.getElem?_eq_getElem hj]
def Bf (t:VT)(p:List ByteArray)(S:World→Nat→Prop)(w:World)(e:Ending)(w':World):Prop:=
 ∃v,e= .returned (.tuple #[v,.bool (okT t p)])∧LV w' (S w') (ko t p) v∧Below w.heap.size w w'
theorem uq {w w5:World}{S:Nat→Prop}{t u:VT}{p:List ByteArray}{ok:Bool}{c0 c1 c2 c3 c4:Value}(hS: ∀b,S b→b<w.heap.size)(hb:Below w.heap.size w w5)(hv:LV w S u (.agg #[c0,c1,c2,c3,c4]))(hg:ko t p=u)(hok:ok=okT t p):
  Bf t p (fun _=>S) w (.returned (.tuple #[.agg #[c0,c1,c2,c3,c4],.bool ok])) (cH w5 (w.heap.size+1) 0 c0 c1 c2 c3 c4):=by
 have hr5:=cv w5 (w.heap.size+1) 0 c0 c1 c2 c3 c4;have hk: ∀b,b<w.heap.size→(cH w5 (w.heap.size+1) 0 c0 c1 c2 c3 c4).heap[b]? =w.heap[b]? :=fun b hb'=>(bE _ _ _ _ _ _ _ _ b (by omega)).trans (hb.block b hb');subst hg hok;exact⟨_,rfl,hv.keep fun b hb'=>hk b (hS b hb'),⟨hr5.1.trans hb.os,hr5.2.1.trans hb.tape,hr5.2.2.trans hb.output,by rw[bQ];exact hb.size,hk⟩⟩
theorem iB (S:Nat→Prop)(t:VT)(v:Value)(A:Option Addr)(c:Nat)(p:List ByteArray)(w:World)(hS: ∀b,S b→b<w.heap.size)(h:LV w S t v)(hm:ao t=true)(hp:ai w S A p)(hn:p.length≤140737488351232):
  Calls Tryz.prog 22 #[v,.slice A p.length c] w (Bf t p (fun _=>S) w):=by
 obtain⟨A0,c0,A0',c0',rfl,-,-,-,v1,hb0⟩:=bY hS h;have HX:=hid v1.x;have HB:=hid hb0;have HP:=hid hp;have HV:=hid h;have HM:=hid hm;clear h v1 hb0 hp hm;go_enter Tryz.func22,Tryz.ntmps22;go_wp2_with fail;have hz1:(w.alloc (.cells #[.int .i64 t.kind,.int .i64 t.num,.string t.text,.slice A0 t.items.length c0,.slice A0' t.names.length c0'] 25)).heap.size=w.heap.size+1:=by simp
 have hB0:Below w.heap.size w ((w.alloc (.cells #[.int .i64 t.kind,.int .i64 t.num,.string t.text,.slice A0 t.items.length c0,.slice A0' t.names.length c0'] 25)).alloc (.cells #[.int .i64 0,.int .i64 0,.string ⟨#[]⟩,.slice none 0 0,.slice none 0 0] 25)):=HB.out.alloc (by omega) _;have hX0:=HX.out.alloc (.cells #[.int .i64 0,.int .i64 0,.string ⟨#[]⟩,.slice none 0 0,.slice none 0 0] 25)
 have hR0:Box ((w.alloc (.cells #[.int .i64 t.kind,.int .i64 t.num,.string t.text,.slice A0 t.items.length c0,.slice A0' t.names.length c0'] 25)).alloc (.cells #[.int .i64 0,.int .i64 0,.string ⟨#[]⟩,.slice none 0 0,.slice none 0 0] 25)) (w.heap.size+1) (.int .i64 0) (.int .i64 0) (.string ⟨#[]⟩) (.slice none 0 0) (.slice none 0 0):=by
  have h:=Box.new (w:=w.alloc (.cells #[.int .i64 t.kind,.int .i64 t.num,.string t.text,.slice A0 t.items.length c0,.slice A0' t.names.length c0'] 25)) (.int .i64 0) (.int .i64 0) (.string ⟨#[]⟩) (.slice none 0 0) (.slice none 0 0);rw[hz1]at h;exact h
 have HB0:=hid hB0;have HX0:=hid hX0;have HR0:=hid hR0;clear hB0 hX0 hR0 hz1 HB HX
 go_loopw [6] (fun i wr=> ∃(j:Nat) (u:VT) (B:Option Addr) (k:Nat) (B':Option Addr) (k':Nat),i= .int .i64 j∧j≤p.length∧Hid (aV t p=aV u (p.drop j))∧Hid (ao u=true)∧
   Hid (Box wr w.heap.size (.int .i64 u.kind) (.int .i64 u.num) (.string u.text) (.slice B u.items.length k) (.slice B' u.names.length k'))∧
   Hid (LV w S u (.agg #[.int .i64 u.kind,.int .i64 u.num,.string u.text,.slice B u.items.length k,.slice B' u.names.length k']))∧
   Hid (Below w.heap.size w wr)∧Hid (Box wr (w.heap.size+1) (.int .i64 0) (.int .i64 0) (.string ⟨#[]⟩) (.slice none 0 0) (.slice none 0 0))) (fun i _=>p.length - (intOf i).toNat)
 case atStart=>exact⟨0,t,A0,c0,A0',c0',rfl,by omega,hid (by simp),HM,HX0,HV,HB0,HR0⟩
 case round=>
  obtain⟨j,u,B,k,B',k',rfl,hj,HG,HMU,HXU,HVU,HBU,HRU⟩:=hrel;clear HB0 HX0 HR0;by_cases hlt:j<p.length
  ·obtain⟨b,off,rfl,hSb,hc⟩:=HP.out (by omega);have hck:wr.cell? ⟨b,off+j,none⟩=some (.string p[j]):=(HBU.out.cell (p:=⟨b,off+j,none⟩) (hS b hSb)).trans (hc j hlt).1;have hps:=(hc j hlt).2;have hbl:b<wr.heap.size:=Nat.lt_of_lt_of_le (hS b hSb) HBU.out.size;clear hc;have hlt1:(j:Int)<(p.length:Int):=by omega
   have hlt2:decide ((j:Int)<(p.length:Int))=true:=decide_eq_true hlt1;obtain⟨s,hsj⟩: ∃s,s=p[j]:=⟨_,rfl⟩;rw[←hsj]at hck hps;have HSJ:=hid hsj;clear hsj;go_wp2_with fail;refine bq [0,1,2,3,4,5,6] (by kernel_rfl) (by kernel_rfl) (fun _ d _ _ _ h=>by cases d<;>exact h) ?_;simp only[atR];have hbd:Below wr.heap.size wr wr.drew:=(Below.refl _ _).drew;have HXU:=hid (HXU.out.call hbd);have HBU:=hid (am HBU.out hbd);have HRU:=hid (HRU.out.call hbd);have hck0:wr.drew.cell? ⟨b,off+j,none⟩=some (.string s):=hck;have hbl0:b<wr.drew.heap.size:=hbl;clear hbd hck hbl;generalize wr.drew=v0 at *;have q0:=aa (B:=v0.heap.size) (w:=v0) HXU.out.c0 HXU.out.lt;have q1:=aa (B:=v0.heap.size) (w:=v0) HXU.out.c1 HXU.out.lt;have q2:=aa (B:=v0.heap.size) (w:=v0) HXU.out.c2 HXU.out.lt;have q3:=aa (B:=v0.heap.size) (w:=v0) HXU.out.c3 HXU.out.lt;have q4:=aa (B:=v0.heap.size) (w:=v0) HXU.out.c4 HXU.out.lt;have q5:=aa (B:=v0.heap.size) (w:=v0) hck0 hbl0;first|with_reducible refine ak ?_ |with_reducible refine ag ?_ |refine ak ?_ |refine ag ?_
   simp only[List.takeWhile,List.dropWhile,aF,Nat.reduceBNe];repeat(go_big_quiet_step (fail))
   first|with_reducible refine wpQuiet_nil ?_ |refine wpQuiet_nil ?_
   clear q0 q1 q2 q3 q4 q5 hck0 hbl0;first|with_reducible refine aL ?_ (fun K hK=> ?_)|with_reducible refine aC ?_ (fun K hK=> ?_)|refine aL ?_ (fun K hK=> ?_)|refine aC ?_ (fun K hK=> ?_)
   ·rfl
   go_simp
   refine(vQ S u _ s v0 (fun b hb=>Nat.lt_of_lt_of_le (hS b hb) HBU.out.size) (HVU.out.keep fun b hb=>HBU.out.block b (hS b hb)) hps).mono ?_;rintro e w5 ⟨rfl,hb⟩;refine hK _ _ hb ?_;clear hK K;try simp only[Act.put]
   have HXU:=hid (HXU.out.call hb);have HBU:=hid (am HBU.out hb);have HRU:=hid (HRU.out.call hb);clear hb;obtain⟨P,hP⟩: ∃P,P=ab u s:=⟨_,rfl⟩;rw[←hP];have HPP:=hid hP;clear hP;first|with_reducible refine ak ?_ |with_reducible refine ag ?_ |refine ak ?_ |refine ag ?_
   simp only[List.takeWhile,List.dropWhile,aF,Nat.reduceBNe];repeat(go_big_quiet_step (fail))
   first|with_reducible refine wpQuiet_nil ?_ |refine wpQuiet_nil ?_
   unfold br;by_cases hneg:P<0
   ·have hneg2:decide (P<0)=true:=decide_eq_true hneg;have rf:=fun i=>HRU.out.free i;have r0:=HRU.out.c0;have r1:=HRU.out.c1;have r2:=HRU.out.c2;have r3:=HRU.out.c3;have r4:=HRU.out.c4
    have hnone:aV t p=none:=by
     rw[HG.out,List.drop_eq_getElem_cons hlt];exact rG (by rw[←HSJ.out,←HPP.out];exact hneg)
    have HNN:=hid hnone;clear hnone;go_wp2_with fail;refine bodyPost_ret (aq rfl _ _ (w.heap.size+1) 25 _ (0,0) rfl (aZ HRU.out) (by kernel_rfl)) rfl ?_;exact uq hS HBU.out (fi w S 0 0 ⟨#[]⟩ (by unfold Rng;omega) (by unfold Rng;omega) (by decide)) (by unfold ko;rw[HNN.out];rfl) (by unfold okT;rw[HNN.out];rfl)
   ·have hneg2:decide (P<0)=false:=decide_eq_false hneg;obtain⟨i,rfl⟩: ∃i:Nat,P=i:=⟨P.toNat,by omega⟩;have hPi:(ab u s).toNat=i:=by rw[←HPP.out];simp
    have hPn:0≤ab u s:=by rw[←HPP.out];omega
    have hil:(ab u s).toNat<u.items.length:=aP (bT HMU.out) hPn
    have hgo:aV t p=aV (u.items[(ab u s).toNat]) (p.drop (j+1)):=by
     rw[HG.out,List.drop_eq_getElem_cons hlt,←HSJ.out];exact mG hPn hil
    simp only[hPi]at hgo hil;have hAt:AtV w5 S u w.heap.size 0 B k B' k':=AtV.of_box HXU.out (HVU.out.keep fun b hb=>HBU.out.block b (hS b hb));obtain⟨G,off1,A2,c2,A3,c3,hB1,hG,hitem⟩:=hAt.item hil;subst hB1;have hlen:=hAt.names.2.2;have HGO:=hid hgo;have HMI:=hid (cl HMU.out hil);have i0:=hitem.c0;have i1:=hitem.c1;have i2:=hitem.c2;have i3:=hitem.c3;have i4:=hitem.c4;have hGw:=hS G hG;have hnG:G≠w.heap.size:=by omega
    have HIV:=hid hitem.v;have vf:=fun i=>HXU.out.free i;have v0:=HXU.out.c0;have v1:=HXU.out.c1;have v2:=HXU.out.c2;have v3:=HXU.out.c3;have v4:=HXU.out.c4;clear hAt hitem hgo hPn;have hr5:=cv w5 w.heap.size 0 (.int .i64 u.items[i].kind) (.int .i64 u.items[i].num) (.string u.items[i].text) (.slice A2 u.items[i].items.length c2) (.slice A3 u.items[i].names.length c3);have hk5:=bE w5 w.heap.size 0 (.int .i64 u.items[i].kind) (.int .i64 u.items[i].num) (.string u.items[i].text) (.slice A2 u.items[i].items.length c2) (.slice A3 u.items[i].names.length c3);have hz5:=bQ w5 w.heap.size 0 (.int .i64 u.items[i].kind) (.int .i64 u.items[i].num) (.string u.items[i].text) (.slice A2 u.items[i].items.length c2) (.slice A3 u.items[i].names.length c3)
    have HB6:Hid (Below w.heap.size w (cH w5 w.heap.size 0 (.int .i64 u.items[i].kind) (.int .i64 u.items[i].num) (.string u.items[i].text) (.slice A2 u.items[i].items.length c2) (.slice A3 u.items[i].names.length c3))):=hid
     ⟨hr5.1.trans HBU.out.os,hr5.2.1.trans HBU.out.tape,hr5.2.2.trans HBU.out.output,by rw[hz5];exact HBU.out.size,fun b hb=>(hk5 b (by omega)).trans (HBU.out.block b hb)⟩
    have HR6:Hid (Box (cH w5 w.heap.size 0 (.int .i64 u.items[i].kind) (.int .i64 u.items[i].num) (.string u.items[i].text) (.slice A2 u.items[i].items.length c2) (.slice A3 u.items[i].names.length c3)) (w.heap.size+1) (.int .i64 0) (.int .i64 0) (.string ⟨#[]⟩) (.slice none 0 0) (.slice none 0 0)):=hid ((hk5 _ (by omega)).trans HRU.out);have HX6:=hid (aZ (c0:= .int .i64 u.items[i].kind) (c1:= .int .i64 u.items[i].num) (c2:= .string u.items[i].text) (c3:= .slice A2 u.items[i].items.length c2) (c4:= .slice A3 u.items[i].names.length c3) HXU.out);have HV6:=hid (HIV.out.keep (w':=w) fun b hb=>(HBU.out.block b (hS b hb)).symm);clear hr5 hk5 hz5;go_wp2_with fail
    go_roundw
    case rel=>exact⟨j+1,u.items[i],A2,c2,A3,c3,by go_num,by omega,HGO,HMI,HX6,HV6,HB6,HR6⟩
    case measure=>simp[intOf];omega
  ·have hlt1: ¬(j:Int)<(p.length:Int):=by omega
   have hlt2:decide ((j:Int)<(p.length:Int))=false:=decide_eq_false hlt1;have hd:p.drop j= []:=List.drop_of_length_le (by omega);have hgo:aV t p=some u:=by rw[HG.out,hd];rfl
   have HGO:=hid hgo;have rf:=fun i=>HRU.out.free i;have r0:=HRU.out.c0;have r1:=HRU.out.c1;have r2:=HRU.out.c2;have r3:=HRU.out.c3;have r4:=HRU.out.c4;have v0:=HXU.out.c0;have v1:=HXU.out.c1;have v2:=HXU.out.c2;have v3:=HXU.out.c3;have v4:=HXU.out.c4;clear hd hgo;go_wp2_with fail;refine bodyPost_ret (aq rfl _ _ (w.heap.size+1) 25 _ (0,0) rfl (aZ HRU.out) (by kernel_rfl)) rfl ?_;exact uq hS HBU.out HVU.out (by unfold ko;rw[HGO.out];rfl) (by unfold okT;rw[HGO.out];rfl)
end Go.Proofs.YtgbopnlpaabelaaGreatDoor
