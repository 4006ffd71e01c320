/- Layer 13, plain: an entry that was read has that code. -/
import Derived.Test.YtgfidiocmiolpaaGreatKDlU
import Derived.Test.YtgfidiocmiolpaaGreatKRegR
import Derived.Test.YtgfidiocmiolpaaGreatKDlA
import Derived.Test.YtgfidiocmiolpaaGreatKValO
import Derived.Test.YtgfidiocmiolpaaGreatKMath
import Derived.Deep.MidRow
import Derived.Deep.Slices
import Derived.SliceStrings
import Derived.SizedLaws
import Derived.Lib.SmallJoins
import Derived.Laws.Rows
set_option maxHeartbeats 64000000
set_option maxRecDepth 100000
set_option linter.unusedVariables false
set_option linter.unusedSimpArgs false
namespace Go.Proofs.YtgfidiocmiolpaaGreat
structure RdI {α:Type}(f:Option (List UInt8)→α×Option (List UInt8))(c:α→List UInt8):Prop where
 bad:(f none).2=none
 inv: ∀l a r,l.length≤9223372036854775807→f (some l)=(a,some r)→l=c a++r
theorem RdI.back {α:Type}{f:Option (List UInt8)→α×Option (List UInt8)}{c:α→List UInt8}(h:RdI f c){st:Option (List UInt8)}{r:List UInt8}(e:(f st).2=some r): ∃l,st=some l∧(l.length≤9223372036854775807→l=c (f st).1++r):=by
 cases st with
 |none=>rw[h.bad]at e;cases e
 |some l=>exact⟨l,rfl,fun hl=>h.inv l _ r hl (Prod.ext rfl e)⟩
theorem jO (n:Int):ae n none=(0,none):=by unfold ae;split<;>rfl
theorem dq {m:Nat}(hm:m≤4611686018427387904):RdI (ae (m:Int)) grp:=⟨by rw[jO],fun l a r _ h=>(dx hm h).1⟩
theorem eW :RdI ak fun k=>[UInt8.ofNat k]:=⟨rfl,fun l a r _ h=>(eA h).1⟩
theorem ku :RdI (fG 32) txt:=⟨iZ 32,fun l a r _ h=>by
 unfold fG at h;injection h with h1 h2
 have:=(eB (m:=32) (l:=l) (r:=r) (x:=(am 32 (some l)).1) (by omega) (Prod.ext rfl h2)).1;rw[←h1]
 exact this⟩
theorem ki :RdI aQ fg:=⟨rfl,fun l a r hl h=>(oU hl h).1⟩
theorem tj : ∀k,(bL none k).2=none
 |0=>rfl
 |k+1=>by unfold bL;dsimp only;rw[tj k];exact pq
theorem vJ :RdI cU dR:=⟨by rw[fD (by rw[jO];exact tj _)],fun l a r hl h=>(xo hl h).1⟩
theorem ck {α:Type}{b:Bool}{z:α}{f:Option (List UInt8)→α×Option (List UInt8)}{c:α→List UInt8}(h:RdI f c):RdI (bG b z f) fun a=>if b=true then c a else []:=by
 cases b with
 |true=>exact⟨h.bad,h.inv⟩
 |false=>exact⟨rfl,fun l a r _ e=>by
   injection e with e1 e2
   injection e2 with e2⟩
theorem wi {l r:List UInt8}{e:bA}(hl:l.length≤9223372036854775807)(h:fd (some l)=(e,some r)):l=fj e++r:=by
 unfold fd at h;dsimp only at h;generalize hA:ae 1099511627776 (some l)=a at h;generalize hK:ak a.2=k at h;generalize hS:ae 255 k.2=s at h;generalize hN:ae 1099511627776 s.2=n at h;generalize hC:bG (ba k.1) ⟨#[]⟩ (fG 32) n.2=c at h;generalize hT:bG (cC k.1) ⟨#[]⟩ (fG 32) c.2=t at h;generalize hI:bG (cr k.1) ap aQ t.2=i at h;generalize hD:bG (bO k.1) ap aQ i.2=d at h;generalize hL:bG (bn k.1) [] cU d.2=x at h;injection h with he hr
 obtain⟨l8,e8,c8⟩:=(ck (b:=bn k.1) (z:=[]) vJ).back (st:=d.2) (r:=r) (by rw[hL];exact hr);obtain⟨l7,e7,c7⟩:=(ck (b:=bO k.1) (z:=ap) ki).back (st:=i.2) (r:=l8) (by rw[hD];exact e8);obtain⟨l6,e6,c6⟩:=(ck (b:=cr k.1) (z:=ap) ki).back (st:=t.2) (r:=l7) (by rw[hI];exact e7);obtain⟨l5,e5,c5⟩:=(ck (b:=cC k.1) (z:=⟨#[]⟩) ku).back (st:=c.2) (r:=l6) (by rw[hT];exact e6);obtain⟨l4,e4,c4⟩:=(ck (b:=ba k.1) (z:=⟨#[]⟩) ku).back (st:=n.2) (r:=l5) (by rw[hC];exact e5);obtain⟨l3,e3,c3⟩:=(dq (m:=1099511627776) (by omega)).back (st:=s.2) (r:=l4) (by rw[show((1099511627776:Nat):Int)=1099511627776 from rfl,hN];exact e4);obtain⟨l2,e2,c2⟩:=(dq (m:=255) (by omega)).back (st:=k.2) (r:=l3) (by rw[show((255:Nat):Int)=255 from rfl,hS];exact e3);obtain⟨l1,e1,c1⟩:=eW.back (st:=a.2) (r:=l2) (by rw[hK];exact e2);obtain⟨l0,e0,c0⟩:=(dq (m:=1099511627776) (by omega)).back (st:=some l) (r:=l1) (by rw[show((1099511627776:Nat):Int)=1099511627776 from rfl,hA];exact e1);injection e0 with e0
 subst e0;rw[show((1099511627776:Nat):Int)=1099511627776 from rfl,hA]at c0;rw[hK]at c1;rw[show((255:Nat):Int)=255 from rfl,hS]at c2;rw[show((1099511627776:Nat):Int)=1099511627776 from rfl,hN]at c3;rw[hC]at c4;rw[hT]at c5;rw[hI]at c6;rw[hD]at c7;rw[hL]at c8;have f0:=c0 hl;have g1:l1.length≤9223372036854775807:=by have:=congrArg List.length f0;rw[List.length_append]at this;omega
 have f1:=c1 g1;have g2:l2.length≤9223372036854775807:=by have:=congrArg List.length f1;rw[List.length_append]at this;omega
 have f2:=c2 g2;have g3:l3.length≤9223372036854775807:=by have:=congrArg List.length f2;rw[List.length_append]at this;omega
 have f3:=c3 g3;have g4:l4.length≤9223372036854775807:=by have:=congrArg List.length f3;rw[List.length_append]at this;omega
 have f4:=c4 g4;have g5:l5.length≤9223372036854775807:=by have:=congrArg List.length f4;rw[List.length_append]at this;omega
 have f5:=c5 g5;have g6:l6.length≤9223372036854775807:=by have:=congrArg List.length f5;rw[List.length_append]at this;omega
 have f6:=c6 g6;have g7:l7.length≤9223372036854775807:=by have:=congrArg List.length f6;rw[List.length_append]at this;omega
 have f7:=c7 g7;have g8:l8.length≤9223372036854775807:=by have:=congrArg List.length f7;rw[List.length_append]at this;omega
 have f8:=c8 g8;rw[←he];unfold fj;simp only[Int.toNat_natCast,List.append_assoc];rw[←f8,←f7,←f6,←f5,←f4,←f3,←f2,←f1,←f0]
theorem sZ {l r:List UInt8}{e:bA}(hl:l.length≤9223372036854775807)(h:rdE (some l)=(e,some r)):l=fj e++r∧bT e=true:=by
 unfold rdE at h
 cases hx:(fd (some l)).2 with
 |none=>rw[hx]at h;injection h with h1 h2;cases h2
 |some q=>
  rw[hx]at h;dsimp only at h;by_cases hm:bT (fd (some l)).1=true
  ·rw[if_pos hm]at h;injection h with h1 h2
   injection h2 with h2
   subst h2;rw[←h1];exact⟨wi hl (Prod.ext rfl hx),hm⟩
  ·rw[if_neg hm]at h;injection h with h1 h2
   cases h2
end Go.Proofs.YtgfidiocmiolpaaGreat
/- Stores of whole structs into a block, as one step; a row of copies that is being made. -/
namespace Go.Proofs.YtgfidiocmiolpaaGreat
open Go.RowKit
def kt :Array Value→Nat→List Value→Array Value
 |C,_,[]=>C
 |C,o,v::r=>kt (C.setIfInBounds o v) (o+1) r
theorem jK {w:World}{b:Nat}{ty:TypeId}{fz:Nat×Nat}: ∀(vs:List Value) (o:Nat) (C:Array Value),w.heap[b]? =some (.cells C ty fz)→(w.setCells b o vs).heap[b]? =some (.cells (kt C o vs) ty fz):=by
 intro vs
 induction vs generalizing w with
 |nil=>exact fun o C h=>h
 |cons v r ih=>exact fun o C h=>ih (o+1) _ (Go.Joins.block_setCell (i:=o) h v)
theorem eV (b:Nat): ∀(vs:List Value) (o:Nat) (w:World),(w.setCells b o vs).os=w.os∧(w.setCells b o vs).tape=w.tape∧(w.setCells b o vs).output=w.output∧(w.setCells b o vs).heap.size=w.heap.size∧ ∀k,k≠b→(w.setCells b o vs).heap[k]? =w.heap[k]?
 | [],o,w=>⟨rfl,rfl,rfl,rfl,fun _ _=>rfl⟩
 |v::r,o,w=>by
  obtain⟨h1,h2,h3,h4,h5⟩:=eV b r (o+1) (w.setCell ⟨b,o,none⟩ v);exact⟨h1,h2,h3,h4.trans (by simp),fun k hk=>(h5 k hk).trans (heap_setCell_other _ ⟨b,o,none⟩ k _ hk)⟩
theorem gz (w:World)(b o:Nat)(ty:TypeId)(v:Value)(cells:Array Value)(hc:v.cells=cells)(ht:w.there b o cells.size)(hi:(Tryz.prog.info? ty).map (·.size)=some cells.size)(h1:cells.all (·.oneCell')=true):
  (storeVar ty ⟨b,o,none⟩ v).run Tryz.prog w= .ok () (w.setCells b o cells.toList):=by
 have:=run_storeCells_cells (P:=Tryz.prog) b o cells.toList 0 w (fun j hj=>by simpa using(ht j (by simpa using hj)).1) (fun j hj=>by simpa using(ht j (by simpa using hj)).2)
  (fun v hv=>(Array.all_eq_true_iff_forall_mem.1 h1) v (by simpa using hv))
 cases hq:Tryz.prog.info? ty with
 |none=>simp[hq]at hi
 |some i=>
  have hs:cells.size=i.size:=by simp[hq]at hi;omega
  simp only[Nat.add_zero]at this;simp[storeVar,sizeOf,typeInfo,hq,hc,hs,this]
theorem ah {ops:Array Oper}{rest:List Oper}{o:Oper}{a:Act}{w:World}{Q:Exit→Act→World→Prop}(hw:Region.wanted o (yielded ops a.tmps)=true)(ty:TypeId)(x y:Operand)(ho:o.op= .store ty x y)(hd:o.dst=none)
  (g off:Nat) (hx:a.eval x= .pointer (some ⟨g,off,none⟩)) (v:Value) (cells:Array Value) (hy:a.eval y=v) (hc:v.cells=cells) (C C':Array Value) (t:TypeId) (hg:w.heap[g]? =some (.cells C t (0,0))) (hn:off+cells.size≤C.size)
  (hi:(Tryz.prog.info? ty).map (·.size)=some cells.size) (h1:cells.all (·.oneCell')=true) (hC:kt C off cells.toList=C')
  (h: ∀w',w'.heap[g]? =some (.cells C' t (0,0))→au w w' g→w'.heap.size=w.heap.size→wpList Tryz.prog ops Q rest a w'):wpList Tryz.prog ops Q (o::rest) a w:=
 wpList_step fun K hK=>by
  rw[hw,if_pos rfl]
  have ht:w.there g off cells.size:=fun j hj=>⟨by
   rw[Go.Joins.cell_of_block hg (off+j),Array.getElem?_eq_getElem (by omega)];rfl,Go.Joins.unfrozen_of_block hg _⟩
  have e:=gz w g off ty v cells hc ht hi h1
  have hK':K (a.put o.dst undef) (w.setCells g off cells.toList):=by
   rw[hd];refine hK _ _ (h _ ?_ ?_ ?_)
   ·rw[←hC];exact jK _ _ _ hg
   ·obtain⟨q1,q2,q3,q4,q5⟩:=eV g cells.toList off w;exact⟨q1,q2,q3,by rw[q4];exact Nat.le_refl _,fun b _ hb=>q5 b (by intro e;apply hb;rw[e])⟩
   ·exact(eV g cells.toList off w).2.2.2.1
  unfold Oper.wp execOp;simp only[ho,hx,hy,Instr.storeAt,Instr.sureAddr,Sem.run_bind,Sem.run_pure,Result.andThen_ok,e];exact hK'
theorem ex {ops:Array Oper}{rest:List Oper}{o:Oper}{a:Act}{w:World}{Q:Exit→Act→World→Prop}(hw:Region.wanted o (yielded ops a.tmps)=true)(ty:TypeId)(x:Operand)(ho:o.op= .load ty x)
  (g off:Nat) (hx:a.eval x= .pointer (some ⟨g,off,none⟩)) (cs:List Value) (d:TypeDesc) (hc:w.rangeAt g off cs) (hu:Tryz.prog.underlying ty=some d) (hd:d.isRow=true) (hi:(Tryz.prog.info? ty).map (·.size)=some cs.length)
  (h:wpList Tryz.prog ops Q rest (a.put o.dst (.agg cs.toArray)) w):wpList Tryz.prog ops Q (o::rest) a w:=
 wpList_step fun K hK=>by
  rw[hw,if_pos rfl];exact wp_load_mid ty x ho g off hx cs d hc hu hd hi (hK _ _ h)
structure jB {α:Type}(L:World→(Nat→Prop)→α→Array Value→Prop)(m:Nat):Prop where
 size: ∀ {w S x c},L w S x c→c.size=m
 keep: ∀ {w w' S x c},L w S x c→(∀b,S b→w'.heap[b]? =w.heap[b]?)→L w' S x c
 imp: ∀ {w} {S S':Nat→Prop} {x c},L w S x c→(∀b,S b→S' b)→L w S' x c
def dC {α:Type}(L:World→(Nat→Prop)→α→Array Value→Prop)(m:Nat)(w:World)(S:Nat→Prop)(A:Option Addr)(l:List α):Prop:=
 0<l.length→ ∃b off,A=some ⟨b,off,none⟩∧S b∧ ∀i (h:i<l.length),∃cs:Array Value,(∀j v,cs[j]? =some v→w.cell? ⟨b,off+i * m+j,none⟩=some v)∧L w S l[i] cs
section
variable {α :Type} {L:World→(Nat→Prop)→α→Array Value→Prop} {m:Nat} {T:Nat→Prop} {ty:TypeId} {w w':World} {G:Nat} {l:List α} {j:Nat}
theorem dC.keep (hL:jB L m){S:Nat→Prop}{A:Option Addr}(h:dC L m w S A l)(hk: ∀b,S b→w'.heap[b]? =w.heap[b]?):dC L m w' S A l:=fun hp=>by
 obtain⟨b,off,hA,hb,hc⟩:=h hp;refine⟨b,off,hA,hb,fun i hi=> ?_⟩;obtain⟨cs,h1,h2⟩:=hc i hi;exact⟨cs,fun j v hv=>(World.cell?_of_block (a:=⟨b,off+i * m+j,none⟩) (hk b hb)).trans (h1 j v hv),hL.keep h2 hk⟩
theorem dC.imp (hL:jB L m){S S':Nat→Prop}{A:Option Addr}(h:dC L m w S A l)(hS: ∀b,S b→S' b):dC L m w S' A l:=fun hp=>by
 obtain⟨b,off,hA,hb,hc⟩:=h hp;refine⟨b,off,hA,hS b hb,fun i hi=> ?_⟩;obtain⟨cs,h1,h2⟩:=hc i hi;exact⟨cs,h1,hL.imp h2 hS⟩
end
theorem jW {B:Nat}{a w w':World}{g:Nat}(hB:B≤a.heap.size)(h:Below B a w)(ho:au w w' g)(hz:w'.heap.size=w.heap.size)(hg:B≤g):Below B a w':=
 ⟨ho.os.trans h.os,ho.tape.trans h.tape,ho.output.trans h.output,by rw[hz];exact h.size,fun b hb=>(ho.block b (Nat.lt_of_lt_of_le hb (Nat.le_trans hB h.size)) (by intro e;injection e;omega)).trans (h.block b hb)⟩
theorem ch {w w':World}{g:Nat}{S:Nat→Prop}(ho:au w w' g)(hS: ∀b,S b→b<w.heap.size∧b≠g): ∀b,S b→w'.heap[b]? =w.heap[b]? :=fun b hb=>ho.block b (hS b hb).1 (by intro e;injection e with e;exact(hS b hb).2 e)
theorem bP {w w':World}{g p:Nat}{ob:Obj}(ho:au w w' g)(h:w.heap[p]? =some ob)(hne:p≠g):w'.heap[p]? =some ob:=(ho.block p (Array.getElem?_eq_some_iff.1 h).1 (by intro e;injection e with e;exact hne e)).trans h
open Lib (hid)
theorem bC.call {w w':World}{p:Nat}{c0 c1 c2 c3 c4 c5 c6 c7:Value}(h:bC w p c0 c1 c2 c3 c4 c5 c6 c7)(hb:Below w.heap.size w w'):bC w' p c0 c1 c2 c3 c4 c5 c6 c7:=(hb.block p h.lt).trans h
theorem vg {B p i:Nat}{w w':World}{u:Value}(h:Below B w w')(hp:B≤p):Below B w (w'.setCell ⟨p,i,none⟩ u):=⟨h.os,h.tape,h.output,by simp;exact h.size,fun b hb=>(heap_setCell_other _ ⟨p,i,none⟩ b _ (by show b≠p;omega)).trans (h.block b hb)⟩
def cJ :List ByteArray→List ByteArray→Int
  | [],[]=>0
  | [],_::_=> -1
  |_::_,[]=>1
  |a::r,b::s=>ore (da a.toList b.toList) (cJ r s)
theorem mH : ∀a b c:List ByteArray,Tri (cJ a b) (cJ b c) (cJ a c)
  | [],[],[]=>wQ
  | [],[],_::_=>by unfold cJ Tri;omega
  | [],_::_,[]=>by unfold cJ Tri;omega
  | [],_::_,_::_=>by simp only[cJ];unfold Tri;omega
  |_::_,[],[]=>by unfold cJ Tri;omega
  |_::_,[],_::_=>by simp only[cJ];unfold Tri;omega
  |_::_,_::_,[]=>by simp only[cJ];unfold Tri;omega
  |a::r,b::s,c::t=>x8 (wH _ _ _) fun _ _=>mH r s t
theorem ii : ∀a b:List ByteArray,cJ b a= -(cJ a b)
  | [],[]=>rfl
  | [],_::_=>rfl
  |_::_,[]=>rfl
  |a::r,b::s=>vX (lV _ _) fun _=>ii r s
theorem kX : ∀a b:List ByteArray,cJ a b=0↔a=b
  | [],[]=>by simp[cJ]
  | [],_::_=>by simp[cJ]
  |_::_,[]=>by simp[cJ]
  |a::r,b::s=>by
    rw[cJ,gD,eD,kX r s];constructor
    · rintro⟨h1,h2⟩;rw[toList_inj h1,h2]
    · intro h;injection h with h1 h2;exact⟨by rw[h1],h2⟩
theorem vK {x y:Int}(h:ore x y≤0):x≤0:=by unfold ore at h;split at h<;>omega
theorem tq : ∀ {p x q:List ByteArray},cJ p x≤0→cJ x q≤0→p <+: q→p <+: x
  | [],x,q,_,_,_=>List.nil_prefix
  |a::r,[],q,h,_,_=>by simp[cJ]at h
  |a::r,b::x,[],_,_,h=>by simp at h
  |a::r,b::x,c::q,h1,h2,h3=>by
    rw[List.cons_prefix_cons]at h3;obtain⟨rfl,h3⟩:=h3;rw[cJ]at h1 h2;have e1:=vK h1;have e2:=vK h2;rw[lV]at e2;have e3:da a.toList b.toList=0:=by omega
    have e4:da b.toList a.toList=0:=by rw[lV];omega
    have hab:a=b:=toList_inj ((eD _ _).1 e3);subst hab;unfold ore at h1 h2;rw[if_pos e3]at h1 h2;rw[List.cons_prefix_cons];exact⟨rfl,tq h1 h2 h3⟩
theorem iL {a b:List ByteArray}:fx a b=true↔a <+: b:=by
  unfold fx;simp only[Bool.and_eq_true,decide_eq_true_eq];constructor
  · rintro⟨h1,h2⟩
    exact⟨b.drop a.length,by have:=List.take_append_drop a.length b;rw[h2]at this;exact this⟩
  · intro h
    exact⟨h.length_le,(List.prefix_iff_eq_take.1 h).symm⟩
theorem vO : ∀ {a b:List ByteArray},a <+: b→cJ a b≤0
  | [],[],_=>by simp[cJ]
  | [],_::_,_=>by simp[cJ]
  |a::r,[],h=>by simp at h
  |a::r,b::s,h=>by
    rw[List.cons_prefix_cons]at h;obtain⟨rfl,h⟩:=h;have h0:da a.toList a.toList=0:=(eD _ _).2 rfl;rw[cJ];unfold ore;rw[if_pos h0];exact vO h
theorem rR (a b:List ByteArray):cE a b=cE b a:=by unfold cE;rw[Bool.or_comm]
theorem ni : ∀(l ahead:List (List ByteArray)),cy ahead l=false↔(∀p∈l,∀q∈ahead,cE p q=false)∧l.Pairwise (fun q p=>cE p q=false)
  | [],ahead=>by simp[cy]
  |p::r,ahead=>by
    rw[cy,Bool.or_eq_false_iff,ni r (ahead++[p]),List.pairwise_cons,List.any_eq_false];constructor
    · rintro⟨h1,h2,h3⟩
      refine⟨fun x hx q hq=> ?_,fun x hx=>h2 x hx p (by simp),h3⟩;rcases List.mem_cons.1 hx with rfl|hx
      · simpa using h1 q hq
      · exact h2 x hx q (List.mem_append_left _ hq)
    · rintro⟨h1,h2,h3⟩
      refine⟨fun q hq=>by simpa using h1 p (List.mem_cons_self ..) q hq,fun x hx q hq=> ?_,h3⟩;rcases List.mem_append.1 hq with hq|hq
      · exact h1 x (List.mem_cons_of_mem _ hx) q hq
      · obtain rfl:=List.mem_singleton.1 hq;exact h2 x hx
theorem k5 (ps:List (List ByteArray)):cy [] ps=false↔ps.Pairwise (fun q p=>cE p q=false):=by rw[ni];simp
theorem uq {ps qs:List (List ByteArray)}(h:ps.Perm qs):cy [] ps=cy [] qs:=by
  have e:cy [] ps=false↔cy [] qs=false:=by
    rw[k5,k5];exact h.pairwise_iff fun {a b} h=>by rw[rR];exact h
  cases h1:cy [] ps<;>cases h2:cy [] qs<;>simp_all
theorem qf {ps:List (List ByteArray)}(hs: ∀i j (hi:i<ps.length) (hj:j<ps.length),i<j→cJ ps[i] ps[j]≤0):cy [] ps=false↔ ∀i (h:i+1<ps.length),fx (ps[i]'(by omega)) ps[i+1]=false:=by
  rw[k5,List.pairwise_iff_getElem];constructor
  · intro h i hi
    have h1:=h i (i+1) (by omega) hi (by omega);unfold cE at h1;rw[Bool.or_eq_false_iff]at h1;exact h1.2
  · intro h i j hi hj hij
    have hne: ∀(hp:ps[i] <+: ps[j]),False:=fun hp=>by
      have hb:ps[i] <+: ps[i+1]'(by omega):=by
        by_cases e:i+1=j
        · subst e;exact hp
        · exact tq (hs i (i+1) hi (by omega) (by omega)) (hs (i+1) j (by omega) hj (by omega)) hp
      have h1:=h i (by omega);rw[iL.2 hb]at h1;cases h1
    unfold cE;rw[Bool.or_eq_false_iff];refine⟨?_,?_⟩
    · cases hb:fx ps[j] ps[i]
      · rfl
      · exfalso
        have h1:=vO (iL.1 hb);have h2:=hs i j hi hj hij;rw[ii]at h1;have h3:cJ ps[i] ps[j]=0:=by omega
        exact hne (by rw[(kX _ _).1 h3];exact List.prefix_refl _)
    · cases hb:fx ps[i] ps[j]
      · rfl
      · exact(hne (iL.1 hb)).elim
theorem jq {a b:List ByteArray}: ∀(k:Nat),k≤a.length→k≤b.length→(∀j (h:j<a.length) (h':j<b.length),j<k→a[j]=b[j])→cJ a b=cJ (a.drop k) (b.drop k):=by
  induction a generalizing b with
  |nil=>intro k hk _ _;obtain rfl:k=0:=by simpa using hk
        simp
  |cons x r ih=>
    intro k hk hk' h
    cases k with
    |zero=>simp
    |succ k=>
      cases b with
      |nil=>simp at hk'
      |cons y s=>
        have hxy:x=y:=h 0 (by simp) (by simp) (by omega);subst hxy;have h0:da x.toList x.toList=0:=(eD _ _).2 rfl;rw[cJ];unfold ore;rw[if_pos h0,List.drop_succ_cons,List.drop_succ_cons]
        exact ih k (by simpa using hk) (by simpa using hk') fun j h1 h2 h3=>by
          have:=h (j+1) (by simpa using h1) (by simpa using h2) (by omega);simpa using this
theorem uD (A B:Option Addr)(c d:Nat)(a b:List ByteArray)(w:World)(S:Nat→Prop)(h:aD w S A a)(k:aD w S B b)(hn:a.length≤140737488351232)(hm:b.length≤140737488351232):
    Calls Tryz.prog 156 #[.slice A a.length c,.slice B b.length d] w fun e w'=>e= .returned (.int .i64 (cJ a b))∧w=w':=by
  have HA:=hid h;have HB:=hid k;clear h k;obtain⟨n,hn'⟩: ∃n,n=a.length:=⟨_,rfl⟩;obtain⟨m,hm'⟩: ∃m,m=b.length:=⟨_,rfl⟩;have HN:=hid hn';have HM:=hid hm';rw[←hn']at hn ⊢;rw[←hm']at hm ⊢;clear hn' hm';go_enter Tryz.func156,Tryz.ntmps156;go_wp2_with fail
  go_loopw [11] (fun i wr=> ∃k:Nat,i= .int .i64 k∧k≤n∧wr=w∧Hid (k≤m∧ ∀j (h:j<a.length) (h':j<b.length),j<k→a[j]=b[j])) (fun i _=>n - (intOf i).toNat)
  case atStart=>exact⟨0,rfl,by omega,rfl,hid ⟨by omega,fun j _ _ h=>absurd h (by omega)⟩⟩
  case round=>
    obtain⟨k,rfl,hk,rfl,HE⟩:=hrel;by_cases hlt:k<n
    · have d1:decide ((k:Int)<(n:Int))=true:=decide_eq_true (by omega)
      obtain⟨p,o,rfl,-,hc⟩:=HA.out (by have:=HN.out;omega);have hka:k<a.length:=by have:=HN.out;omega
      have hck:=(hc k hka).1;obtain⟨x,hx⟩: ∃x,x=a[k]:=⟨_,rfl⟩;rw[←hx]at hck;have HX:=hid hx;clear hc hx;by_cases hlb:k<m
      · have d2:decide ((k:Int)≥(m:Int))=false:=decide_eq_false (by omega)
        obtain⟨p',o',rfl,-,hc'⟩:=HB.out (by have:=HM.out;omega);have hkb:k<b.length:=by have:=HM.out;omega
        have hck':=(hc' k hkb).1;obtain⟨y,hy⟩: ∃y,y=b[k]:=⟨_,rfl⟩;rw[←hy]at hck';have HY:=hid hy;clear hc' hy;go_wp2_with fail;refine(ke x y _).mono ?_;rintro e u ⟨rfl,rfl⟩;by_cases h0:da x.toList y.toList=0
        · have d3:(da x.toList y.toList != 0)=false:=by rw[h0];rfl
          have HEQ:Hid (a[k]=b[k]):=hid (by rw[←HX.out,←HY.out];exact toList_inj ((eD _ _).1 h0));clear h0;go_wp2_with fail
          go_roundw
          case rel=>exact⟨k+1,by go_num,by omega,trivial,hid ⟨by omega,fun j h h' hjk=>by
            by_cases e:j=k
            · subst e;exact HEQ.out
            · exact HE.out.2 j h h' (by omega)⟩⟩
          case measure=>simp[intOf];omega
        · have d3:(da x.toList y.toList != 0)=true:=bne_iff_ne.2 h0
          have HF:Hid (cJ a b=da x.toList y.toList):=hid (by
            rw[jq k (by omega) (by omega) HE.out.2,List.drop_eq_getElem_cons hka,List.drop_eq_getElem_cons hkb,cJ,←HX.out,←HY.out];unfold ore
            rw[if_neg h0])
          clear h0;go_wp2_with fail;go_ret;exact⟨by rw[HF.out];rfl,rfl⟩
      · have d2:decide ((k:Int)≥(m:Int))=true:=decide_eq_true (by omega)
        have HF:Hid (cJ a b=1):=hid (by
          have hkm:k=b.length:=by have:=HE.out.1;have:=HM.out;omega
          have e2:b.drop k= []:=List.drop_eq_nil_of_le (by omega);rw[jq k (by omega) (by omega) HE.out.2,List.drop_eq_getElem_cons hka,e2]
          rfl)
        go_wp2_with fail;go_ret;exact⟨by rw[HF.out];rfl,rfl⟩
    · have hkn:k=n:=by omega
      have d1:decide ((k:Int)<(n:Int))=false:=decide_eq_false (by omega);by_cases hnm:n<m
      · have d2:decide ((n:Int)<(m:Int))=true:=decide_eq_true (by omega)
        have HF:Hid (cJ a b= -1):=hid (by
          have hkb:k<b.length:=by have:=HM.out;omega
          have q3:=HN.out;have e1:a.drop k= []:=List.drop_eq_nil_of_le (by omega);rw[jq k (by omega) (by omega) HE.out.2,e1,List.drop_eq_getElem_cons hkb]
          rfl)
        clear hkn;go_wp2_with fail;go_ret;exact⟨by rw[HF.out];rfl,rfl⟩
      · have d2:decide ((n:Int)<(m:Int))=false:=decide_eq_false (by omega)
        have HF:Hid (cJ a b=0):=hid (by
          have q1:=HE.out.1;have q2:=HM.out;have q3:=HN.out;have e1:a.drop k= []:=List.drop_eq_nil_of_le (by omega);have e2:b.drop k= []:=List.drop_eq_nil_of_le (by omega);rw[jq k (by omega) (by omega) HE.out.2,e1,e2]
          rfl)
        clear hkn;go_wp2_with fail;go_ret;exact⟨by rw[HF.out];rfl,rfl⟩
end Go.Proofs.YtgfidiocmiolpaaGreat
/- Layer 13, plain: the program's ways to say which entries may be. -/
namespace Go.Proofs.YtgfidiocmiolpaaGreat
theorem lp {k i:Int}{s:ByteArray}{n:Nat}{ns:List ByteArray}(h:bf k i s n ns=true)(hk:k≠7):ns= []:=by
 unfold bf at h
 have hz:ns.length=0:=by
  split at h
  ·simp only[Bool.and_eq_true,beq_iff_eq]at h;exact h.2.2
  split at h
  ·simp only[Bool.and_eq_true,beq_iff_eq]at h;exact h.2.2
  split at h
  ·simp only[Bool.and_eq_true,beq_iff_eq]at h;exact h.2.2
  split at h
  ·simp only[Bool.and_eq_true,beq_iff_eq]at h;exact h.2.2
  split at h
  ·simp only[Bool.and_eq_true,beq_iff_eq]at h;exact h.2
  ·simp[hk]at h
 exact List.eq_nil_of_length_eq_zero hz
theorem gr {t:VT}(h:bh t=0):bE t=true:=by
 unfold bh at h
 split at h
 ·next hm=>exact hm
 ·exact absurd h (by decide)
theorem wN (v id:VT):dU v id=(decide (0≤nmI 0 v.names idN) && decide (bh v=0) && (match v.items[(nmI 0 v.names idN).toNat]? with
  |some x=>decide (gA x id=0)
  |none=>false)):=by
 unfold dU;by_cases hc:bh v=0
 ·by_cases hk:v.kind=7
  ·rw[wu hk,←jM,decide_eq_true hk,decide_eq_true hc];by_cases hn:nmI 0 v.names idN<0
   ·rw[if_pos hn,decide_eq_false (by omega)];rfl
   ·rw[if_neg hn,decide_eq_true (Int.not_lt.1 hn)];all_goals rfl
  ·have hn:v.names= []:=by
    have:=((qu v).1 (gr hc)).1;exact lp this hk
   rw[hn,decide_eq_false hk];unfold nmI;rfl
 ·rw[decide_eq_false hc,Bool.and_false,Bool.and_false];rfl
theorem sh {l:List aU}(h: ∀d∈l,jC d.path=true):kW l [idN]=l.any fun d=>decide (d.path.head? =some idN):=by
 unfold kW
 induction l with
 |nil=>rfl
 |cons d l ih=>
  rw[List.any_cons,List.any_cons,ih fun x hx=>h x (List.mem_cons_of_mem _ hx)]
  congr 1
  have hp:=h d List.mem_cons_self
  cases hd:d.path with
  |nil=>rw[hd]at hp;exact absurd hp (by decide)
  |cons s r=>
   have e:cE (s::r) [idN]=true↔s=idN:=by
    unfold cE;rw[Bool.or_eq_true,iL,iL];constructor
    ·rintro(h|h)
     ·exact(List.cons_prefix_cons.1 h).1
     ·exact(List.cons_prefix_cons.1 h).1.symm
    ·rintro rfl;exact .inr (List.cons_prefix_cons.2 ⟨rfl,List.nil_prefix⟩)
   by_cases hs:s=idN
   ·rw[e.2 hs,hs];simp
   ·have:cE (s::r) [idN]=false:=by
     cases hm:cE (s::r) [idN]with
     |false=>rfl
     |true=>exact absurd (e.1 hm) hs
    rw[this];simp[hs]
end Go.Proofs.YtgfidiocmiolpaaGreat
/- Entries in memory. -/
namespace Go.Proofs.YtgfidiocmiolpaaGreat
open Go.RowKit
def db (w:World)(S:Nat→Prop)(e:bA)(cs:Array Value):Prop:=
 ∃(IA:Option Addr) (ic:Nat) (IA':Option Addr) (ic':Nat) (DA:Option Addr) (dc:Nat) (DA':Option Addr) (dc':Nat) (LA:Option Addr) (lc:Nat),
  cs= #[.int .i64 e.term,.int .i64 e.kind,.string e.coll,.string e.to,.int .i64 e.id.kind,.int .i64 e.id.num,.string e.id.text,.slice IA e.id.items.length ic,.slice IA' e.id.names.length ic',.int .i64 e.doc.kind,.int .i64 e.doc.num,.string e.doc.text,.slice DA e.doc.items.length dc,.slice DA' e.doc.names.length dc',.slice LA e.dels.length lc,.int .i64 e.session,.int .i64 e.number]∧LV w S e.id (.agg #[.int .i64 e.id.kind,.int .i64 e.id.num,.string e.id.text,.slice IA e.id.items.length ic,.slice IA' e.id.names.length ic'])∧LV w S e.doc (.agg #[.int .i64 e.doc.kind,.int .i64 e.doc.num,.string e.doc.text,.slice DA e.doc.items.length dc,.slice DA' e.doc.names.length dc'])∧bQ w S LA e.dels∧e.dels.length≤lc∧(LA=none→lc=0)∧e.dels.length≤1172812402961∧
  Rng e.term∧Rng e.kind∧Rng e.session∧Rng e.number∧e.coll.size≤140737488351232∧e.to.size≤140737488351232
theorem db.keep {w w':World}{S:Nat→Prop}{e:bA}{cs:Array Value}(h:db w S e cs)(hk: ∀b,S b→w'.heap[b]? =w.heap[b]?):db w' S e cs:=by
 obtain⟨IA,ic,IA',ic',DA,dc,DA',dc',LA,lc,h1,h2,h3,h4,h5⟩:=h;exact⟨IA,ic,IA',ic',DA,dc,DA',dc',LA,lc,h1,h2.keep hk,h3.keep hk,h4.keep hk,h5⟩
theorem db.imp {w:World}{S S':Nat→Prop}{e:bA}{cs:Array Value}(h:db w S e cs)(hS: ∀b,S b→S' b):db w S' e cs:=by
 obtain⟨IA,ic,IA',ic',DA,dc,DA',dc',LA,lc,h1,h2,h3,h4,h5⟩:=h;exact⟨IA,ic,IA',ic',DA,dc,DA',dc',LA,lc,h1,h2.imp hS,h3.imp hS,h4.imp hS,h5⟩
structure SmE (e:bA):Prop where
 idd:av e.id≤4611686018427387903
 docd:av e.doc≤4611686018427387903
 idz:bt e.id≤9223372036854775807
 docz:bt e.doc≤9223372036854775807
 dels:e.dels.length≤64→eT e.dels∧iy e.dels
def bs (w:World)(g:Nat)(e:bA)(IA:Option Addr)(ic:Nat)(IA':Option Addr)(ic':Nat)(DA:Option Addr)(dc:Nat)(DA':Option Addr)(dc':Nat)(LA:Option Addr)(lc:Nat):Prop:=
 w.heap[g]? =some (.cells #[.int .i64 e.term,.int .i64 e.kind,.string e.coll,.string e.to,.int .i64 e.id.kind,.int .i64 e.id.num,.string e.id.text,.slice IA e.id.items.length ic,.slice IA' e.id.names.length ic',.int .i64 e.doc.kind,.int .i64 e.doc.num,.string e.doc.text,.slice DA e.doc.items.length dc,.slice DA' e.doc.names.length dc',.slice LA e.dels.length lc,.int .i64 e.session,.int .i64 e.number] 46 (0,0))
section
variable {w w':World} {g:Nat} {e:bA} {IA:Option Addr} {ic:Nat} {IA':Option Addr} {ic':Nat} {DA:Option Addr} {dc:Nat} {DA':Option Addr} {dc':Nat} {LA:Option Addr} {lc:Nat}
theorem bs.lt (h:bs w g e IA ic IA' ic' DA dc DA' dc' LA lc):g<w.heap.size:=(Array.getElem?_eq_some_iff.1 h).1
theorem bs.below (h:bs w g e IA ic IA' ic' DA dc DA' dc' LA lc)(hb:Below w.heap.size w w'):bs w' g e IA ic IA' ic' DA dc DA' dc' LA lc:=(hb.block g h.lt).trans h
theorem bs.g1 (h:bs w g e IA ic IA' ic' DA dc DA' dc' LA lc):w.cell? ⟨g,1,none⟩=some (.int .i64 e.kind):=Go.Joins.cell_of_block h 1
theorem bs.g2 (h:bs w g e IA ic IA' ic' DA dc DA' dc' LA lc):w.cell? ⟨g,2,none⟩=some (.string e.coll):=Go.Joins.cell_of_block h 2
theorem bs.g3 (h:bs w g e IA ic IA' ic' DA dc DA' dc' LA lc):w.cell? ⟨g,3,none⟩=some (.string e.to):=Go.Joins.cell_of_block h 3
theorem bs.g4 (h:bs w g e IA ic IA' ic' DA dc DA' dc' LA lc):w.cell? ⟨g,4,none⟩=some (.int .i64 e.id.kind):=Go.Joins.cell_of_block h 4
theorem bs.g5 (h:bs w g e IA ic IA' ic' DA dc DA' dc' LA lc):w.cell? ⟨g,5,none⟩=some (.int .i64 e.id.num):=Go.Joins.cell_of_block h 5
theorem bs.g6 (h:bs w g e IA ic IA' ic' DA dc DA' dc' LA lc):w.cell? ⟨g,6,none⟩=some (.string e.id.text):=Go.Joins.cell_of_block h 6
theorem bs.g7 (h:bs w g e IA ic IA' ic' DA dc DA' dc' LA lc):w.cell? ⟨g,7,none⟩=some (.slice IA e.id.items.length ic):=Go.Joins.cell_of_block h 7
theorem bs.g8 (h:bs w g e IA ic IA' ic' DA dc DA' dc' LA lc):w.cell? ⟨g,8,none⟩=some (.slice IA' e.id.names.length ic'):=Go.Joins.cell_of_block h 8
theorem bs.g9 (h:bs w g e IA ic IA' ic' DA dc DA' dc' LA lc):w.cell? ⟨g,9,none⟩=some (.int .i64 e.doc.kind):=Go.Joins.cell_of_block h 9
theorem bs.g10 (h:bs w g e IA ic IA' ic' DA dc DA' dc' LA lc):w.cell? ⟨g,10,none⟩=some (.int .i64 e.doc.num):=Go.Joins.cell_of_block h 10
theorem bs.g11 (h:bs w g e IA ic IA' ic' DA dc DA' dc' LA lc):w.cell? ⟨g,11,none⟩=some (.string e.doc.text):=Go.Joins.cell_of_block h 11
theorem bs.g12 (h:bs w g e IA ic IA' ic' DA dc DA' dc' LA lc):w.cell? ⟨g,12,none⟩=some (.slice DA e.doc.items.length dc):=Go.Joins.cell_of_block h 12
theorem bs.g13 (h:bs w g e IA ic IA' ic' DA dc DA' dc' LA lc):w.cell? ⟨g,13,none⟩=some (.slice DA' e.doc.names.length dc'):=Go.Joins.cell_of_block h 13
theorem bs.g14 (h:bs w g e IA ic IA' ic' DA dc DA' dc' LA lc):w.cell? ⟨g,14,none⟩=some (.slice LA e.dels.length lc):=Go.Joins.cell_of_block h 14
theorem bs.g15 (h:bs w g e IA ic IA' ic' DA dc DA' dc' LA lc):w.cell? ⟨g,15,none⟩=some (.int .i64 e.session):=Go.Joins.cell_of_block h 15
theorem bs.g16 (h:bs w g e IA ic IA' ic' DA dc DA' dc' LA lc):w.cell? ⟨g,16,none⟩=some (.int .i64 e.number):=Go.Joins.cell_of_block h 16
end
structure eX (w:World)(S:Nat→Prop)(e:bA)(IA:Option Addr)(ic:Nat)(IA':Option Addr)(ic':Nat)(DA:Option Addr)(dc:Nat)(DA':Option Addr)(dc':Nat)(LA:Option Addr)(lc:Nat):Prop where
 id:LV w S e.id (.agg #[.int .i64 e.id.kind,.int .i64 e.id.num,.string e.id.text,.slice IA e.id.items.length ic,.slice IA' e.id.names.length ic'])
 doc:LV w S e.doc (.agg #[.int .i64 e.doc.kind,.int .i64 e.doc.num,.string e.doc.text,.slice DA e.doc.items.length dc,.slice DA' e.doc.names.length dc'])
 dels:bQ w S LA e.dels
 cap:e.dels.length≤lc
 nil:LA=none→lc=0
 len:e.dels.length≤1172812402961
 rt:Rng e.term
 rk:Rng e.kind
 rs:Rng e.session
 rn:Rng e.number
 cz:e.coll.size≤140737488351232
 tz:e.to.size≤140737488351232
theorem eX.l {w:World}{S:Nat→Prop}{e:bA}{IA:Option Addr}{ic:Nat}{IA':Option Addr}{ic':Nat}{DA:Option Addr}{dc:Nat}{DA':Option Addr}{dc':Nat}{LA:Option Addr}{lc:Nat}(h:eX w S e IA ic IA' ic' DA dc DA' dc' LA lc):db w S e #[.int .i64 e.term,.int .i64 e.kind,.string e.coll,.string e.to,.int .i64 e.id.kind,.int .i64 e.id.num,.string e.id.text,.slice IA e.id.items.length ic,.slice IA' e.id.names.length ic',.int .i64 e.doc.kind,.int .i64 e.doc.num,.string e.doc.text,.slice DA e.doc.items.length dc,.slice DA' e.doc.names.length dc',.slice LA e.dels.length lc,.int .i64 e.session,.int .i64 e.number]:=
 ⟨IA,ic,IA',ic',DA,dc,DA',dc',LA,lc,rfl,h.id,h.doc,h.dels,h.cap,h.nil,h.len,h.rt,h.rk,h.rs,h.rn,h.cz,h.tz⟩
theorem db.at {w:World}{S:Nat→Prop}{e:bA}{cs:Array Value}(h:db w S e cs): ∃IA ic IA' ic' DA dc DA' dc' LA lc,cs= #[.int .i64 e.term,.int .i64 e.kind,.string e.coll,.string e.to,.int .i64 e.id.kind,.int .i64 e.id.num,.string e.id.text,.slice IA e.id.items.length ic,.slice IA' e.id.names.length ic',.int .i64 e.doc.kind,.int .i64 e.doc.num,.string e.doc.text,.slice DA e.doc.items.length dc,.slice DA' e.doc.names.length dc',.slice LA e.dels.length lc,.int .i64 e.session,.int .i64 e.number]∧eX w S e IA ic IA' ic' DA dc DA' dc' LA lc:=by
 obtain⟨IA,ic,IA',ic',DA,dc,DA',dc',LA,lc,h1,h2,h3,h4,h5,h6,h7,h8,h9,h10,h11,h12,h13⟩:=h;exact⟨IA,ic,IA',ic',DA,dc,DA',dc',LA,lc,h1,h2,h3,h4,h5,h6,h7,h8,h9,h10,h11,h12,h13⟩
theorem eX.keep {w w':World}{S:Nat→Prop}{e:bA}{IA:Option Addr}{ic:Nat}{IA':Option Addr}{ic':Nat}{DA:Option Addr}{dc:Nat}{DA':Option Addr}{dc':Nat}{LA:Option Addr}{lc:Nat}(h:eX w S e IA ic IA' ic' DA dc DA' dc' LA lc)(hk: ∀b,S b→w'.heap[b]? =w.heap[b]?):eX w' S e IA ic IA' ic' DA dc DA' dc' LA lc:=
 ⟨h.id.keep hk,h.doc.keep hk,h.dels.keep hk,h.cap,h.nil,h.len,h.rt,h.rk,h.rs,h.rn,h.cz,h.tz⟩
theorem eX.below {w w':World}{S:Nat→Prop}{e:bA}{IA:Option Addr}{ic:Nat}{IA':Option Addr}{ic':Nat}{DA:Option Addr}{dc:Nat}{DA':Option Addr}{dc':Nat}{LA:Option Addr}{lc:Nat}{B:Nat}(h:eX w S e IA ic IA' ic' DA dc DA' dc' LA lc)(hS: ∀b,S b→b<B)(hb:Below B w w'):eX w' S e IA ic IA' ic' DA dc DA' dc' LA lc:=h.keep fun b hb'=>hb.block b (hS b hb')
theorem eX.imp {w:World}{S S':Nat→Prop}{e:bA}{IA:Option Addr}{ic:Nat}{IA':Option Addr}{ic':Nat}{DA:Option Addr}{dc:Nat}{DA':Option Addr}{dc':Nat}{LA:Option Addr}{lc:Nat}(h:eX w S e IA ic IA' ic' DA dc DA' dc' LA lc)(hS: ∀b,S b→S' b):eX w S' e IA ic IA' ic' DA dc DA' dc' LA lc:=
 ⟨h.id.imp hS,h.doc.imp hS,h.dels.imp hS,h.cap,h.nil,h.len,h.rt,h.rk,h.rs,h.rn,h.cz,h.tz⟩
theorem ax {ops:Array Oper}{rest:List Oper}{o:Oper}{a:Act}{w:World}{Q:Exit→Act→World→Prop}(hw:Region.wanted o (yielded ops a.tmps)=true)(x:Operand)(ho:o.op= .load 46 x)
  (g:Nat) (hx:a.eval x= .pointer (some ⟨g,0,none⟩)) (cs:Array Value) (fr:Nat×Nat) (hg:w.heap[g]? =some (.cells cs 46 fr)) (hn:cs.size=17)
  (h:wpList Tryz.prog ops Q rest (a.put o.dst (.agg cs)) w):wpList Tryz.prog ops Q (o::rest) a w:=
 wpList_step fun K hK=>by
  rw[hw,if_pos rfl];exact wp_load_row 46 x ho g hx 46 cs fr _ hg Tryz.underlying46 rfl (by rw[hn];kernel_rfl) (hK _ _ h)
end Go.Proofs.YtgfidiocmiolpaaGreat
/- Entries that came in, in a row; numbers that came in. -/
namespace Go.Proofs.YtgfidiocmiolpaaGreat
open Go.ChangeShapes Go.WideShapes Go.RowKit Go.Joins Go.Deep
theorem dj :jB db 17 where
 size:=fun h=>by obtain⟨IA,ic,IA',ic',DA,dc,DA',dc',LA,lc,rfl,-⟩:=h;rfl
 keep:=fun h hk=>h.keep hk
 imp:=fun h hS=>h.imp hS
abbrev dZ (w:World)(S:Nat→Prop)(A:Option Addr)(l:List bA):Prop:=dC db 17 w S A l
section
variable {H :Type} {enc:TypeId×Value→H} {W:World} {sp:Nat→Bool}
end
theorem dZ.at {w:World}{S:Nat→Prop}{A:Option Addr}{l:List bA}(h:dZ w S A l)(k:Nat)(hk:k<l.length):
  ∃b off cs,A=some ⟨b,off,none⟩∧S b∧w.rangeAt b (off+k * 17) cs∧cs.length=17∧db w S l[k] cs.toArray:=by
 obtain⟨b,off,hA,hb,hc⟩:=h (by omega);obtain⟨cs,h1,h2⟩:=hc k hk;exact⟨b,off,cs.toList,hA,hb,fun j v hv=>h1 j v (by simpa using hv),by simpa using dj.size h2,by simpa using h2⟩
end Go.Proofs.YtgfidiocmiolpaaGreat
