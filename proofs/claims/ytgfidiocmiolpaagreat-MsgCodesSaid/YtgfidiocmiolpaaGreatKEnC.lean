/- Layer 13, plain: an entry that was read has that code. -/
import Derived.Test.YtgfidiocmiolpaaGreatKDlN
import Derived.Test.YtgfidiocmiolpaaGreatKRegR
import Derived.Test.YtgfidiocmiolpaaGreatKDlH
import Derived.Test.YtgfidiocmiolpaaGreatKValO
import Derived.Test.YtgfidiocmiolpaaGreatKCodA
import Derived.Deep.MidRow
import Derived.Laws.Rows
set_option maxHeartbeats 64000000
set_option maxRecDepth 100000
set_option linter.unusedVariables false
set_option linter.unusedSimpArgs false
namespace Go.Proofs.YtgfidiocmiolpaaGreat
structure RdI {α:Type}(f:Option (List UInt8)→α×Option (List UInt8))(c:α→List UInt8):Prop where
 bad:(f none).2=none
 inv: ∀l a r,l.length≤9223372036854775807→f (some l)=(a,some r)→l=c a++r
theorem RdI.back {α:Type}{f:Option (List UInt8)→α×Option (List UInt8)}{c:α→List UInt8}(h:RdI f c){st:Option (List UInt8)}{r:List UInt8}(e:(f st).2=some r): ∃l,st=some l∧(l.length≤9223372036854775807→l=c (f st).1++r):=by
 cases st with
 |none=>rw[h.bad]at e;cases e
 |some l=>exact⟨l,rfl,fun hl=>h.inv l _ r hl (Prod.ext rfl e)⟩
theorem mP (n:Int):ah n none=(0,none):=by unfold ah;split<;>rfl
theorem dy {m:Nat}(hm:m≤4611686018427387904):RdI (ah (m:Int)) grp:=⟨by rw[mP],fun l a r _ h=>(dP hm h).1⟩
theorem gQ :RdI al fun k=>[UInt8.ofNat k]:=⟨rfl,fun l a r _ h=>(eh h).1⟩
theorem kc :RdI (ed 32) txt:=⟨lq 32,fun l a r _ h=>by
 unfold ed at h;injection h with h1 h2
 have:=(eP (m:=32) (l:=l) (r:=r) (x:=(ar 32 (some l)).1) (by omega) (Prod.ext rfl h2)).1;rw[←h1]
 exact this⟩
theorem ko :RdI bE cp:=⟨rfl,fun l a r hl h=>(oG hl h).1⟩
theorem uk : ∀k,(bL none k).2=none
 |0=>rfl
 |k+1=>by unfold bL;dsimp only;rw[uk k];exact pO
theorem xl :RdI eq bF:=⟨by rw[gE (by rw[mP];exact uk _)],fun l a r hl h=>(yl hl h).1⟩
theorem dH {α:Type}{b:Bool}{z:α}{f:Option (List UInt8)→α×Option (List UInt8)}{c:α→List UInt8}(h:RdI f c):RdI (bC b z f) fun a=>if b=true then c a else []:=by
 cases b with
 |true=>exact⟨h.bad,h.inv⟩
 |false=>exact⟨rfl,fun l a r _ e=>by
   injection e with e1 e2
   injection e2 with e2⟩
theorem yd {l r:List UInt8}{e:bh}(hl:l.length≤9223372036854775807)(h:fX (some l)=(e,some r)):l=dp e++r:=by
 unfold fX at h;dsimp only at h;generalize hA:ah 1099511627776 (some l)=a at h;generalize hK:al a.2=k at h;generalize hS:ah 255 k.2=s at h;generalize hN:ah 1099511627776 s.2=n at h;generalize hC:bC (aT k.1) ⟨#[]⟩ (ed 32) n.2=c at h;generalize hT:bC (b9 k.1) ⟨#[]⟩ (ed 32) c.2=t at h;generalize hI:bC (bW k.1) aO bE t.2=i at h;generalize hD:bC (bn k.1) aO bE i.2=d at h;generalize hL:bC (aX k.1) [] eq d.2=x at h;injection h with he hr
 obtain⟨l8,e8,c8⟩:=(dH (b:=aX k.1) (z:=[]) xl).back (st:=d.2) (r:=r) (by rw[hL];exact hr);obtain⟨l7,e7,c7⟩:=(dH (b:=bn k.1) (z:=aO) ko).back (st:=i.2) (r:=l8) (by rw[hD];exact e8);obtain⟨l6,e6,c6⟩:=(dH (b:=bW k.1) (z:=aO) ko).back (st:=t.2) (r:=l7) (by rw[hI];exact e7);obtain⟨l5,e5,c5⟩:=(dH (b:=b9 k.1) (z:=⟨#[]⟩) kc).back (st:=c.2) (r:=l6) (by rw[hT];exact e6);obtain⟨l4,e4,c4⟩:=(dH (b:=aT k.1) (z:=⟨#[]⟩) kc).back (st:=n.2) (r:=l5) (by rw[hC];exact e5);obtain⟨l3,e3,c3⟩:=(dy (m:=1099511627776) (by omega)).back (st:=s.2) (r:=l4) (by rw[show((1099511627776:Nat):Int)=1099511627776 from rfl,hN];exact e4);obtain⟨l2,e2,c2⟩:=(dy (m:=255) (by omega)).back (st:=k.2) (r:=l3) (by rw[show((255:Nat):Int)=255 from rfl,hS];exact e3);obtain⟨l1,e1,c1⟩:=gQ.back (st:=a.2) (r:=l2) (by rw[hK];exact e2);obtain⟨l0,e0,c0⟩:=(dy (m:=1099511627776) (by omega)).back (st:=some l) (r:=l1) (by rw[show((1099511627776:Nat):Int)=1099511627776 from rfl,hA];exact e1);injection e0 with e0
 subst e0;rw[show((1099511627776:Nat):Int)=1099511627776 from rfl,hA]at c0;rw[hK]at c1;rw[show((255:Nat):Int)=255 from rfl,hS]at c2;rw[show((1099511627776:Nat):Int)=1099511627776 from rfl,hN]at c3;rw[hC]at c4;rw[hT]at c5;rw[hI]at c6;rw[hD]at c7;rw[hL]at c8;have f0:=c0 hl;have g1:l1.length≤9223372036854775807:=by have:=congrArg List.length f0;rw[List.length_append]at this;omega
 have f1:=c1 g1;have g2:l2.length≤9223372036854775807:=by have:=congrArg List.length f1;rw[List.length_append]at this;omega
 have f2:=c2 g2;have g3:l3.length≤9223372036854775807:=by have:=congrArg List.length f2;rw[List.length_append]at this;omega
 have f3:=c3 g3;have g4:l4.length≤9223372036854775807:=by have:=congrArg List.length f3;rw[List.length_append]at this;omega
 have f4:=c4 g4;have g5:l5.length≤9223372036854775807:=by have:=congrArg List.length f4;rw[List.length_append]at this;omega
 have f5:=c5 g5;have g6:l6.length≤9223372036854775807:=by have:=congrArg List.length f5;rw[List.length_append]at this;omega
 have f6:=c6 g6;have g7:l7.length≤9223372036854775807:=by have:=congrArg List.length f6;rw[List.length_append]at this;omega
 have f7:=c7 g7;have g8:l8.length≤9223372036854775807:=by have:=congrArg List.length f7;rw[List.length_append]at this;omega
 have f8:=c8 g8;rw[←he];unfold dp;simp only[Int.toNat_natCast,List.append_assoc];rw[←f8,←f7,←f6,←f5,←f4,←f3,←f2,←f1,←f0]
theorem zm {l r:List UInt8}{e:bh}(hl:l.length≤9223372036854775807)(h:rdE (some l)=(e,some r)):l=dp e++r∧cd e=true:=by
 unfold rdE at h
 cases hx:(fX (some l)).2 with
 |none=>rw[hx]at h;injection h with h1 h2;cases h2
 |some q=>
  rw[hx]at h;dsimp only at h;by_cases hm:cd (fX (some l)).1=true
  ·rw[if_pos hm]at h;injection h with h1 h2
   injection h2 with h2
   subst h2;rw[←h1];exact⟨yd hl (Prod.ext rfl hx),hm⟩
  ·rw[if_neg hm]at h;injection h with h1 h2
   cases h2
end Go.Proofs.YtgfidiocmiolpaaGreat
/- Stores of whole structs into a block, as one step; a row of copies that is being made. -/
namespace Go.Proofs.YtgfidiocmiolpaaGreat
open Go.RowKit
def kv :Array Value→Nat→List Value→Array Value
 |C,_,[]=>C
 |C,o,v::r=>kv (C.setIfInBounds o v) (o+1) r
theorem jy {w:World}{b:Nat}{ty:TypeId}{fz:Nat×Nat}: ∀(vs:List Value) (o:Nat) (C:Array Value),w.heap[b]? =some (.cells C ty fz)→(w.setCells b o vs).heap[b]? =some (.cells (kv C o vs) ty fz):=by
 intro vs
 induction vs generalizing w with
 |nil=>exact fun o C h=>h
 |cons v r ih=>exact fun o C h=>ih (o+1) _ (Go.Joins.block_setCell (i:=o) h v)
theorem eE (b:Nat): ∀(vs:List Value) (o:Nat) (w:World),(w.setCells b o vs).os=w.os∧(w.setCells b o vs).tape=w.tape∧(w.setCells b o vs).output=w.output∧(w.setCells b o vs).heap.size=w.heap.size∧ ∀k,k≠b→(w.setCells b o vs).heap[k]? =w.heap[k]?
 | [],o,w=>⟨rfl,rfl,rfl,rfl,fun _ _=>rfl⟩
 |v::r,o,w=>by
  obtain⟨h1,h2,h3,h4,h5⟩:=eE b r (o+1) (w.setCell ⟨b,o,none⟩ v);exact⟨h1,h2,h3,h4.trans (by simp),fun k hk=>(h5 k hk).trans (heap_setCell_other _ ⟨b,o,none⟩ k _ hk)⟩
theorem ga (w:World)(b o:Nat)(ty:TypeId)(v:Value)(cells:Array Value)(hc:v.cells=cells)(ht:w.there b o cells.size)(hi:(Tryz.prog.info? ty).map (·.size)=some cells.size)(h1:cells.all (·.oneCell')=true):
  (storeVar ty ⟨b,o,none⟩ v).run Tryz.prog w= .ok () (w.setCells b o cells.toList):=by
 have:=run_storeCells_cells (P:=Tryz.prog) b o cells.toList 0 w (fun j hj=>by simpa using(ht j (by simpa using hj)).1) (fun j hj=>by simpa using(ht j (by simpa using hj)).2)
  (fun v hv=>(Array.all_eq_true_iff_forall_mem.1 h1) v (by simpa using hv))
 cases hq:Tryz.prog.info? ty with
 |none=>simp[hq]at hi
 |some i=>
  have hs:cells.size=i.size:=by simp[hq]at hi;omega
  simp only[Nat.add_zero]at this;simp[storeVar,sizeOf,typeInfo,hq,hc,hs,this]
theorem av {ops:Array Oper}{rest:List Oper}{o:Oper}{a:Act}{w:World}{Q:Exit→Act→World→Prop}(hw:Region.wanted o (yielded ops a.tmps)=true)(ty:TypeId)(x y:Operand)(ho:o.op= .store ty x y)(hd:o.dst=none)
  (g off:Nat) (hx:a.eval x= .pointer (some ⟨g,off,none⟩)) (v:Value) (cells:Array Value) (hy:a.eval y=v) (hc:v.cells=cells) (C C':Array Value) (t:TypeId) (hg:w.heap[g]? =some (.cells C t (0,0))) (hn:off+cells.size≤C.size)
  (hi:(Tryz.prog.info? ty).map (·.size)=some cells.size) (h1:cells.all (·.oneCell')=true) (hC:kv C off cells.toList=C')
  (h: ∀w',w'.heap[g]? =some (.cells C' t (0,0))→az w w' g→w'.heap.size=w.heap.size→wpList Tryz.prog ops Q rest a w'):wpList Tryz.prog ops Q (o::rest) a w:=
 wpList_step fun K hK=>by
  rw[hw,if_pos rfl]
  have ht:w.there g off cells.size:=fun j hj=>⟨by
   rw[Go.Joins.cell_of_block hg (off+j),Array.getElem?_eq_getElem (by omega)];rfl,Go.Joins.unfrozen_of_block hg _⟩
  have e:=ga w g off ty v cells hc ht hi h1
  have hK':K (a.put o.dst undef) (w.setCells g off cells.toList):=by
   rw[hd];refine hK _ _ (h _ ?_ ?_ ?_)
   ·rw[←hC];exact jy _ _ _ hg
   ·obtain⟨q1,q2,q3,q4,q5⟩:=eE g cells.toList off w;exact⟨q1,q2,q3,by rw[q4];exact Nat.le_refl _,fun b _ hb=>q5 b (by intro e;apply hb;rw[e])⟩
   ·exact(eE g cells.toList off w).2.2.2.1
  unfold Oper.wp execOp;simp only[ho,hx,hy,Instr.storeAt,Instr.sureAddr,Sem.run_bind,Sem.run_pure,Result.andThen_ok,e];exact hK'
theorem cH {ops:Array Oper}{rest:List Oper}{o:Oper}{a:Act}{w:World}{Q:Exit→Act→World→Prop}(hw:Region.wanted o (yielded ops a.tmps)=true)(ty:TypeId)(x:Operand)(ho:o.op= .load ty x)
  (g off:Nat) (hx:a.eval x= .pointer (some ⟨g,off,none⟩)) (cs:List Value) (d:TypeDesc) (hc:w.rangeAt g off cs) (hu:Tryz.prog.underlying ty=some d) (hd:d.isRow=true) (hi:(Tryz.prog.info? ty).map (·.size)=some cs.length)
  (h:wpList Tryz.prog ops Q rest (a.put o.dst (.agg cs.toArray)) w):wpList Tryz.prog ops Q (o::rest) a w:=
 wpList_step fun K hK=>by
  rw[hw,if_pos rfl];exact wp_load_mid ty x ho g off hx cs d hc hu hd hi (hK _ _ h)
structure kq {α:Type}(L:World→(Nat→Prop)→α→Array Value→Prop)(m:Nat):Prop where
 size: ∀ {w S x c},L w S x c→c.size=m
 keep: ∀ {w w' S x c},L w S x c→(∀b,S b→w'.heap[b]? =w.heap[b]?)→L w' S x c
 imp: ∀ {w} {S S':Nat→Prop} {x c},L w S x c→(∀b,S b→S' b)→L w S' x c
def dG {α:Type}(L:World→(Nat→Prop)→α→Array Value→Prop)(m:Nat)(w:World)(S:Nat→Prop)(A:Option Addr)(l:List α):Prop:=
 0<l.length→ ∃b off,A=some ⟨b,off,none⟩∧S b∧ ∀i (h:i<l.length),∃cs:Array Value,(∀j v,cs[j]? =some v→w.cell? ⟨b,off+i * m+j,none⟩=some v)∧L w S l[i] cs
section
variable {α :Type} {L:World→(Nat→Prop)→α→Array Value→Prop} {m:Nat} {T:Nat→Prop} {ty:TypeId} {w w':World} {G:Nat} {l:List α} {j:Nat}
theorem dG.keep (hL:kq L m){S:Nat→Prop}{A:Option Addr}(h:dG L m w S A l)(hk: ∀b,S b→w'.heap[b]? =w.heap[b]?):dG L m w' S A l:=fun hp=>by
 obtain⟨b,off,hA,hb,hc⟩:=h hp;refine⟨b,off,hA,hb,fun i hi=> ?_⟩;obtain⟨cs,h1,h2⟩:=hc i hi;exact⟨cs,fun j v hv=>(World.cell?_of_block (a:=⟨b,off+i * m+j,none⟩) (hk b hb)).trans (h1 j v hv),hL.keep h2 hk⟩
theorem dG.imp (hL:kq L m){S S':Nat→Prop}{A:Option Addr}(h:dG L m w S A l)(hS: ∀b,S b→S' b):dG L m w S' A l:=fun hp=>by
 obtain⟨b,off,hA,hb,hc⟩:=h hp;refine⟨b,off,hA,hS b hb,fun i hi=> ?_⟩;obtain⟨cs,h1,h2⟩:=hc i hi;exact⟨cs,h1,hL.imp h2 hS⟩
end
theorem jL {B:Nat}{a w w':World}{g:Nat}(hB:B≤a.heap.size)(h:Below B a w)(ho:az w w' g)(hz:w'.heap.size=w.heap.size)(hg:B≤g):Below B a w':=
 ⟨ho.os.trans h.os,ho.tape.trans h.tape,ho.output.trans h.output,by rw[hz];exact h.size,fun b hb=>(ho.block b (Nat.lt_of_lt_of_le hb (Nat.le_trans hB h.size)) (by intro e;injection e;omega)).trans (h.block b hb)⟩
theorem cZ {w w':World}{g:Nat}{S:Nat→Prop}(ho:az w w' g)(hS: ∀b,S b→b<w.heap.size∧b≠g): ∀b,S b→w'.heap[b]? =w.heap[b]? :=fun b hb=>ho.block b (hS b hb).1 (by intro e;injection e with e;exact(hS b hb).2 e)
theorem cX {w w':World}{g p:Nat}{ob:Obj}(ho:az w w' g)(h:w.heap[p]? =some ob)(hne:p≠g):w'.heap[p]? =some ob:=(ho.block p (Array.getElem?_eq_some_iff.1 h).1 (by intro e;injection e with e;exact hne e)).trans h
open Lib (hid)
theorem wH {B p i:Nat}{w w':World}{u:Value}(h:Below B w w')(hp:B≤p):Below B w (w'.setCell ⟨p,i,none⟩ u):=⟨h.os,h.tape,h.output,by simp;exact h.size,fun b hb=>(heap_setCell_other _ ⟨p,i,none⟩ b _ (by show b≠p;omega)).trans (h.block b hb)⟩
def cG :List ByteArray→List ByteArray→Int
  | [],[]=>0
  | [],_::_=> -1
  |_::_,[]=>1
  |a::r,b::s=>ore (cT a.toList b.toList) (cG r s)
theorem mQ : ∀a b c:List ByteArray,Tri (cG a b) (cG b c) (cG a c)
  | [],[],[]=>xy
  | [],[],_::_=>by unfold cG Tri;omega
  | [],_::_,[]=>by unfold cG Tri;omega
  | [],_::_,_::_=>by simp only[cG];unfold Tri;omega
  |_::_,[],[]=>by unfold cG Tri;omega
  |_::_,[],_::_=>by simp only[cG];unfold Tri;omega
  |_::_,_::_,[]=>by simp only[cG];unfold Tri;omega
  |a::r,b::s,c::t=>yP (xu _ _ _) fun _ _=>mQ r s t
theorem gJ : ∀a b:List ByteArray,cG b a= -(cG a b)
  | [],[]=>rfl
  | [],_::_=>rfl
  |_::_,[]=>rfl
  |a::r,b::s=>xF (my _ _) fun _=>gJ r s
theorem kI : ∀a b:List ByteArray,cG a b=0↔a=b
  | [],[]=>by simp[cG]
  | [],_::_=>by simp[cG]
  |_::_,[]=>by simp[cG]
  |a::r,b::s=>by
    rw[cG,fW,ev,kI r s];constructor
    · rintro⟨h1,h2⟩;rw[toList_inj h1,h2]
    · intro h;injection h with h1 h2;exact⟨by rw[h1],h2⟩
theorem xv {x y:Int}(h:ore x y≤0):x≤0:=by unfold ore at h;split at h<;>omega
theorem ui : ∀ {p x q:List ByteArray},cG p x≤0→cG x q≤0→p <+: q→p <+: x
  | [],x,q,_,_,_=>List.nil_prefix
  |a::r,[],q,h,_,_=>by simp[cG]at h
  |a::r,b::x,[],_,_,h=>by simp at h
  |a::r,b::x,c::q,h1,h2,h3=>by
    rw[List.cons_prefix_cons]at h3;obtain⟨rfl,h3⟩:=h3;rw[cG]at h1 h2;have e1:=xv h1;have e2:=xv h2;rw[my]at e2;have e3:cT a.toList b.toList=0:=by omega
    have e4:cT b.toList a.toList=0:=by rw[my];omega
    have hab:a=b:=toList_inj ((ev _ _).1 e3);subst hab;unfold ore at h1 h2;rw[if_pos e3]at h1 h2;rw[List.cons_prefix_cons];exact⟨rfl,ui h1 h2 h3⟩
theorem iK {a b:List ByteArray}:eO a b=true↔a <+: b:=by
  unfold eO;simp only[Bool.and_eq_true,decide_eq_true_eq];constructor
  · rintro⟨h1,h2⟩
    exact⟨b.drop a.length,by have:=List.take_append_drop a.length b;rw[h2]at this;exact this⟩
  · intro h
    exact⟨h.length_le,(List.prefix_iff_eq_take.1 h).symm⟩
theorem yv : ∀ {a b:List ByteArray},a <+: b→cG a b≤0
  | [],[],_=>by simp[cG]
  | [],_::_,_=>by simp[cG]
  |a::r,[],h=>by simp at h
  |a::r,b::s,h=>by
    rw[List.cons_prefix_cons]at h;obtain⟨rfl,h⟩:=h;have h0:cT a.toList a.toList=0:=(ev _ _).2 rfl;rw[cG];unfold ore;rw[if_pos h0];exact yv h
theorem rW (a b:List ByteArray):cB a b=cB b a:=by unfold cB;rw[Bool.or_comm]
theorem nE : ∀(l ahead:List (List ByteArray)),cu ahead l=false↔(∀p∈l,∀q∈ahead,cB p q=false)∧l.Pairwise (fun q p=>cB p q=false)
  | [],ahead=>by simp[cu]
  |p::r,ahead=>by
    rw[cu,Bool.or_eq_false_iff,nE r (ahead++[p]),List.pairwise_cons,List.any_eq_false];constructor
    · rintro⟨h1,h2,h3⟩
      refine⟨fun x hx q hq=> ?_,fun x hx=>h2 x hx p (by simp),h3⟩;rcases List.mem_cons.1 hx with rfl|hx
      · simpa using h1 q hq
      · exact h2 x hx q (List.mem_append_left _ hq)
    · rintro⟨h1,h2,h3⟩
      refine⟨fun q hq=>by simpa using h1 p (List.mem_cons_self ..) q hq,fun x hx q hq=> ?_,h3⟩;rcases List.mem_append.1 hq with hq|hq
      · exact h1 x (List.mem_cons_of_mem _ hx) q hq
      · obtain rfl:=List.mem_singleton.1 hq;exact h2 x hx
theorem kT (ps:List (List ByteArray)):cu [] ps=false↔ps.Pairwise (fun q p=>cB p q=false):=by rw[nE];simp
theorem vl {ps qs:List (List ByteArray)}(h:ps.Perm qs):cu [] ps=cu [] qs:=by
  have e:cu [] ps=false↔cu [] qs=false:=by
    rw[kT,kT];exact h.pairwise_iff fun {a b} h=>by rw[rW];exact h
  cases h1:cu [] ps<;>cases h2:cu [] qs<;>simp_all
theorem rF {ps:List (List ByteArray)}(hs: ∀i j (hi:i<ps.length) (hj:j<ps.length),i<j→cG ps[i] ps[j]≤0):cu [] ps=false↔ ∀i (h:i+1<ps.length),eO (ps[i]'(by omega)) ps[i+1]=false:=by
  rw[kT,List.pairwise_iff_getElem];constructor
  · intro h i hi
    have h1:=h i (i+1) (by omega) hi (by omega);unfold cB at h1;rw[Bool.or_eq_false_iff]at h1;exact h1.2
  · intro h i j hi hj hij
    have hne: ∀(hp:ps[i] <+: ps[j]),False:=fun hp=>by
      have hb:ps[i] <+: ps[i+1]'(by omega):=by
        by_cases e:i+1=j
        · subst e;exact hp
        · exact ui (hs i (i+1) hi (by omega) (by omega)) (hs (i+1) j (by omega) hj (by omega)) hp
      have h1:=h i (by omega);rw[iK.2 hb]at h1;cases h1
    unfold cB;rw[Bool.or_eq_false_iff];refine⟨?_,?_⟩
    · cases hb:eO ps[j] ps[i]
      · rfl
      · exfalso
        have h1:=yv (iK.1 hb);have h2:=hs i j hi hj hij;rw[gJ]at h1;have h3:cG ps[i] ps[j]=0:=by omega
        exact hne (by rw[(kI _ _).1 h3];exact List.prefix_refl _)
    · cases hb:eO ps[i] ps[j]
      · rfl
      · exact(hne (iK.1 hb)).elim
theorem jr {a b:List ByteArray}: ∀(k:Nat),k≤a.length→k≤b.length→(∀j (h:j<a.length) (h':j<b.length),j<k→a[j]=b[j])→cG a b=cG (a.drop k) (b.drop k):=by
  induction a generalizing b with
  |nil=>intro k hk _ _;obtain rfl:k=0:=by simpa using hk
        simp
  |cons x r ih=>
    intro k hk hk' h
    cases k with
    |zero=>simp
    |succ k=>
      cases b with
      |nil=>simp at hk'
      |cons y s=>
        have hxy:x=y:=h 0 (by simp) (by simp) (by omega);subst hxy;have h0:cT x.toList x.toList=0:=(ev _ _).2 rfl;rw[cG];unfold ore;rw[if_pos h0,List.drop_succ_cons,List.drop_succ_cons]
        exact ih k (by simpa using hk) (by simpa using hk') fun j h1 h2 h3=>by
          have:=h (j+1) (by simpa using h1) (by simpa using h2) (by omega);simpa using this
theorem wz (A B:Option Addr)(c d:Nat)(a b:List ByteArray)(w:World)(S:Nat→Prop)(h:aA w S A a)(k:aA w S B b)(hn:a.length≤140737488351232)(hm:b.length≤140737488351232):
    Calls Tryz.prog 156 #[.slice A a.length c,.slice B b.length d] w fun e w'=>e= .returned (.int .i64 (cG a b))∧w=w':=by
  have HA:=hid h;have HB:=hid k;clear h k;obtain⟨n,hn'⟩: ∃n,n=a.length:=⟨_,rfl⟩;obtain⟨m,hm'⟩: ∃m,m=b.length:=⟨_,rfl⟩;have HN:=hid hn';have HM:=hid hm';rw[←hn']at hn ⊢;rw[←hm']at hm ⊢;clear hn' hm';go_enter Tryz.func156,Tryz.ntmps156;go_wp2_with fail
  go_loopw [11] (fun i wr=> ∃k:Nat,i= .int .i64 k∧k≤n∧wr=w∧Hid (k≤m∧ ∀j (h:j<a.length) (h':j<b.length),j<k→a[j]=b[j])) (fun i _=>n - (intOf i).toNat)
  case atStart=>exact⟨0,rfl,by omega,rfl,hid ⟨by omega,fun j _ _ h=>absurd h (by omega)⟩⟩
  case round=>
    obtain⟨k,rfl,hk,rfl,HE⟩:=hrel;by_cases hlt:k<n
    · have d1:decide ((k:Int)<(n:Int))=true:=decide_eq_true (by omega)
      obtain⟨p,o,rfl,-,hc⟩:=HA.out (by have:=HN.out;omega);have hka:k<a.length:=by have:=HN.out;omega
      have hck:=(hc k hka).1;obtain⟨x,hx⟩: ∃x,x=a[k]:=⟨_,rfl⟩;rw[←hx]at hck;have HX:=hid hx;clear hc hx;by_cases hlb:k<m
      · have d2:decide ((k:Int)≥(m:Int))=false:=decide_eq_false (by omega)
        obtain⟨p',o',rfl,-,hc'⟩:=HB.out (by have:=HM.out;omega);have hkb:k<b.length:=by have:=HM.out;omega
        have hck':=(hc' k hkb).1;obtain⟨y,hy⟩: ∃y,y=b[k]:=⟨_,rfl⟩;rw[←hy]at hck';have HY:=hid hy;clear hc' hy;go_wp2_with fail;refine(j3 x y _).mono ?_;rintro e u ⟨rfl,rfl⟩;by_cases h0:cT x.toList y.toList=0
        · have d3:(cT x.toList y.toList != 0)=false:=by rw[h0];rfl
          have HEQ:Hid (a[k]=b[k]):=hid (by rw[←HX.out,←HY.out];exact toList_inj ((ev _ _).1 h0));clear h0;go_wp2_with fail
          go_roundw
          case rel=>exact⟨k+1,by go_num,by omega,trivial,hid ⟨by omega,fun j h h' hjk=>by
            by_cases e:j=k
            · subst e;exact HEQ.out
            · exact HE.out.2 j h h' (by omega)⟩⟩
          case measure=>simp[intOf];omega
        · have d3:(cT x.toList y.toList != 0)=true:=bne_iff_ne.2 h0
          have HF:Hid (cG a b=cT x.toList y.toList):=hid (by
            rw[jr k (by omega) (by omega) HE.out.2,List.drop_eq_getElem_cons hka,List.drop_eq_getElem_cons hkb,cG,←HX.out,←HY.out];unfold ore
            rw[if_neg h0])
          clear h0;go_wp2_with fail;go_ret;exact⟨by rw[HF.out];rfl,rfl⟩
      · have d2:decide ((k:Int)≥(m:Int))=true:=decide_eq_true (by omega)
        have HF:Hid (cG a b=1):=hid (by
          have hkm:k=b.length:=by have:=HE.out.1;have:=HM.out;omega
          have e2:b.drop k= []:=List.drop_eq_nil_of_le (by omega);rw[jr k (by omega) (by omega) HE.out.2,List.drop_eq_getElem_cons hka,e2]
          rfl)
        go_wp2_with fail;go_ret;exact⟨by rw[HF.out];rfl,rfl⟩
    · have hkn:k=n:=by omega
      have d1:decide ((k:Int)<(n:Int))=false:=decide_eq_false (by omega);by_cases hnm:n<m
      · have d2:decide ((n:Int)<(m:Int))=true:=decide_eq_true (by omega)
        have HF:Hid (cG a b= -1):=hid (by
          have hkb:k<b.length:=by have:=HM.out;omega
          have q3:=HN.out;have e1:a.drop k= []:=List.drop_eq_nil_of_le (by omega);rw[jr k (by omega) (by omega) HE.out.2,e1,List.drop_eq_getElem_cons hkb]
          rfl)
        clear hkn;go_wp2_with fail;go_ret;exact⟨by rw[HF.out];rfl,rfl⟩
      · have d2:decide ((n:Int)<(m:Int))=false:=decide_eq_false (by omega)
        have HF:Hid (cG a b=0):=hid (by
          have q1:=HE.out.1;have q2:=HM.out;have q3:=HN.out;have e1:a.drop k= []:=List.drop_eq_nil_of_le (by omega);have e2:b.drop k= []:=List.drop_eq_nil_of_le (by omega);rw[jr k (by omega) (by omega) HE.out.2,e1,e2]
          rfl)
        clear hkn;go_wp2_with fail;go_ret;exact⟨by rw[HF.out];rfl,rfl⟩
end Go.Proofs.YtgfidiocmiolpaaGreat
/- Layer 13, plain: the program's ways to say which entries may be. -/
namespace Go.Proofs.YtgfidiocmiolpaaGreat
theorem le {k i:Int}{s:ByteArray}{n:Nat}{ns:List ByteArray}(h:bi k i s n ns=true)(hk:k≠7):ns= []:=by
 unfold bi at h
 have hz:ns.length=0:=by
  split at h
  ·simp only[Bool.and_eq_true,beq_iff_eq]at h;exact h.2.2
  split at h
  ·simp only[Bool.and_eq_true,beq_iff_eq]at h;exact h.2.2
  split at h
  ·simp only[Bool.and_eq_true,beq_iff_eq]at h;exact h.2.2
  split at h
  ·simp only[Bool.and_eq_true,beq_iff_eq]at h;exact h.2.2
  split at h
  ·simp only[Bool.and_eq_true,beq_iff_eq]at h;exact h.2
  ·simp[hk]at h
 exact List.eq_nil_of_length_eq_zero hz
theorem fK {t:VT}(h:ba t=0):bq t=true:=by
 unfold ba at h
 split at h
 ·next hm=>exact hm
 ·exact absurd h (by decide)
theorem xX (v id:VT):dj v id=(decide (0≤nmI 0 v.names idN) && decide (ba v=0) && (match v.items[(nmI 0 v.names idN).toNat]? with
  |some x=>decide (fV x id=0)
  |none=>false)):=by
 unfold dj;by_cases hc:ba v=0
 ·by_cases hk:v.kind=7
  ·rw[yu hk,←jD,decide_eq_true hk,decide_eq_true hc];by_cases hn:nmI 0 v.names idN<0
   ·rw[if_pos hn,decide_eq_false (by omega)];rfl
   ·rw[if_neg hn,decide_eq_true (Int.not_lt.1 hn)];all_goals rfl
  ·have hn:v.names= []:=by
    have:=((rm v).1 (fK hc)).1;exact le this hk
   rw[hn,decide_eq_false hk];unfold nmI;rfl
 ·rw[decide_eq_false hc,Bool.and_false,Bool.and_false];rfl
theorem tF {l:List aS}(h: ∀d∈l,iy d.path=true):kN l [idN]=l.any fun d=>decide (d.path.head? =some idN):=by
 unfold kN
 induction l with
 |nil=>rfl
 |cons d l ih=>
  rw[List.any_cons,List.any_cons,ih fun x hx=>h x (List.mem_cons_of_mem _ hx)]
  congr 1
  have hp:=h d List.mem_cons_self
  cases hd:d.path with
  |nil=>rw[hd]at hp;exact absurd hp (by decide)
  |cons s r=>
   have e:cB (s::r) [idN]=true↔s=idN:=by
    unfold cB;rw[Bool.or_eq_true,iK,iK];constructor
    ·rintro(h|h)
     ·exact(List.cons_prefix_cons.1 h).1
     ·exact(List.cons_prefix_cons.1 h).1.symm
    ·rintro rfl;exact .inr (List.cons_prefix_cons.2 ⟨rfl,List.nil_prefix⟩)
   by_cases hs:s=idN
   ·rw[e.2 hs,hs];simp
   ·have:cB (s::r) [idN]=false:=by
     cases hm:cB (s::r) [idN]with
     |false=>rfl
     |true=>exact absurd (e.1 hm) hs
    rw[this];simp[hs]
end Go.Proofs.YtgfidiocmiolpaaGreat
/- Changes that came in. -/
namespace Go.Proofs.YtgfidiocmiolpaaGreat
open Go.ChangeShapes Go.WideShapes Go.RowKit Go.Joins Go.Deep
theorem rO :Tryz.prog.cellsOf 114=8:=by kernel_rfl
theorem rQ :Tryz.prog.cellsOf 44=1:=by kernel_rfl
theorem xi :Tryz.prog.bytesOf 114=120:=by kernel_rfl
theorem dz (b o j:Nat):(Addr.add ⟨b,o,none⟩ j:Addr)=⟨b,o+j,none⟩:=by cases j<;>simp[Addr.add]
theorem wF : ∃f0 f1 f2 f3:Field,Tryz.prog.underlying 114=some (.struct #[f0,f1,f2,f3])∧f0.type=3∧f1.type=41∧f2.type=43∧f3.type=3∧f0.offset=0∧f1.offset=1∧f2.offset=2∧f3.offset=7:=
 ⟨_,_,_,_,Tryz.underlying114,rfl,rfl,rfl,rfl,rfl,rfl,rfl,rfl⟩
def AB (w:World)(A:Option Addr)(l:List aS):Prop:= ∀k,k<l.length→ ∀b off,A=some ⟨b,off,none⟩→ ∀PA n pc,w.cell? ⟨b,off+k * 8+1,none⟩=some (.slice PA n pc)→pc≤9223372036854775807
section
variable {H :Type} {enc:TypeId×Value→H} {W:World} {sp:Nat→Bool}
theorem qU {fuel:Nat}{cs:List Value}{x:DataW H×List MemPlace}(h:DataW.trod enc Tryz.prog W 0 sp true fuel 41 cs=some x)(hw: ∀n∈x.1.weights Tryz.prog 41,n≤reachBytes):
  ∃A c,∃ns:List ByteArray,cs= [.slice A ns.length c]∧ns.length≤c∧(A=none→c=0)∧c≤9223372036854775807∧ns.length≤8796093021952∧aA W (fun b=>b<W.heap.size) A ns:=by
 obtain⟨A,c,ns,hcs,h1,h2,h3,h4⟩:=lr h hw;refine⟨A,c,ns,hcs,h1,h2,?_,h3,h4⟩;rcases open_strings Tryz.underlying41 Tryz.underlying9 iZ h with ⟨h0,_⟩|⟨a,len,cap,ss,h0,-,hl,hm,-⟩
 ·rw[hcs]at h0;injection h0 with h0
  injection h0 with e1 e2 e3
  omega
 ·rw[hcs]at h0;injection h0 with h0
  injection h0 with e1 e2 e3
  unfold maxLen at hm;omega
theorem yg {fuel:Nat}{cs:List Value}{x:DataW H×List MemPlace}(h:DataW.trod enc Tryz.prog W 0 sp true fuel 114 cs=some x)(hw: ∀n∈x.1.weights Tryz.prog 114,n≤reachBytes):
  ∃d:aS,ee W (fun b=>b<W.heap.size) d cs.toArray∧ ∀PA n pc,cs.toArray[1]? =some (.slice PA n pc)→pc≤9223372036854775807:=by
 obtain⟨f0,f1,f2,f3,hu,t0,t1,t2,t3,o0,o1,o2,o3⟩:=wF;obtain⟨xs,n,hfu,hx,hlen,hxl,hg⟩:=DataW.trod_struct hu h;rw[rO]at hlen
 match cs,hlen with
 | [c0,c1,c2,c3,c4,c5,c6,c7],_=>
  match xs,hxl with
  | [y0,y1,y2,y3],_=>
   have g0:=hg 0 f0 rfl;have g1:=hg 1 f1 rfl;have g2:=hg 2 f2 rfl;have g3:=hg 3 f3 rfl;rw[t0,o0,dY]at g0;rw[t1,o1,ol]at g1;rw[t2,o2,iO]at g2;rw[t3,o3,dY]at g3;have hws:=hw;rw[hx]at hws;simp only[DataW.weights,hu,List.map_cons,List.map_nil,t0,t1,t2,t3]at hws;obtain⟨k,e0,-,w0⟩:=DataW.trod_int Tryz.underlying3 g0;obtain⟨m,e3,-,w3⟩:=DataW.trod_int Tryz.underlying3 g3;simp at e0 e3;subst e0 e3;have hw1: ∀n∈y1.1.weights Tryz.prog 41,n≤reachBytes:=fun n hn=>hws n (by rw[DataW.weightsEach,DataW.weightsEach];exact List.mem_append_right _ (List.mem_append_left _ hn));have hw2: ∀n∈y2.1.weights Tryz.prog 43,n≤reachBytes:=fun n hn=>hws n (by rw[DataW.weightsEach,DataW.weightsEach,DataW.weightsEach];exact List.mem_append_right _ (List.mem_append_right _ (List.mem_append_left _ hn)));obtain⟨PA,pc,ps,e1,hpc,hpo,h63,hpn,hps⟩:=qU g1 hw1;obtain⟨t,ht⟩:=mh _ _ _ g2 hw2;simp at e1;subst e1;obtain⟨VA,vc,VA',vc',hvs,-⟩:=ht.shape;simp at hvs;obtain⟨rfl,rfl,rfl,rfl,rfl⟩:=hvs;refine⟨⟨k,ps,t,m⟩,⟨PA,pc,VA,vc,VA',vc',rfl,ht,hps,hpc,hpo,in64_of_wf w0,in64_of_wf w3,hpn⟩,fun PA' n' pc' e=> ?_⟩;injection e with e
   injection e with _ _ e
   omega
theorem uS {fuel:Nat}{cs:List Value}{x:DataW H×List MemPlace}(h:DataW.trod enc Tryz.prog W 0 sp true fuel 44 cs=some x)(hw: ∀n∈x.1.weights Tryz.prog 44,n≤reachBytes):
  ∃A c,∃os:List aS,cs= [.slice A os.length c]∧(A=none→c=0∧os= [])∧os.length≤c∧os.length≤1172812402961∧bD W (fun b=>b<W.heap.size) A os∧AB W A os:=by
 rcases DataW.trod_slice Tryz.underlying44 h with ⟨e3,-⟩|⟨a,len,cap,elems,rest,m,hm,e3,x3,-,hlc,-,hel,hat,-,-⟩
 ·exact⟨none,0,[],e3,fun _=>⟨rfl,rfl⟩,by simp,by simp,fun h=>absurd h (by simp),fun k h=>absurd h (by simp)⟩
 ·have hws:=hw;rw[x3]at hws;simp only[DataW.weights,Tryz.underlying44]at hws
  have hl:len≤1172812402961:=by
   have h1:=hws _ (List.mem_cons_self ..);rw[xi]at h1;simp only[List.length_map,hel,reachBytes]at h1;omega
  have hT: ∀j,∃o:aS,j<len→ ∃cs:Array Value,(∀i v,cs[i]? =some v→W.cell? ((a.add (j * 8)).add i)=some v)∧ee W (fun b=>b<W.heap.size) o cs∧(∀PA n pc,cs[1]? =some (.slice PA n pc)→pc≤9223372036854775807):=by
   intro j;by_cases hj:j<len
   ·have h1:=hat j hj;rw[rO,List.getElem?_eq_getElem (by omega)]at h1;obtain⟨cs',hc,ht⟩:=Option.bind_eq_some_iff.1 h1;obtain⟨-,hcl,hcat⟩:=World.cells?_some hc;obtain⟨o,ho,hoc⟩:=yg ht (fun n hn=>hws n (List.mem_cons_of_mem _ (List.mem_append_left _ (dO (List.mem_map.2 ⟨_,List.getElem_mem (by omega),rfl⟩) n hn))));refine⟨o,fun _=>⟨cs'.toArray,fun i v hv=> ?_,ho,hoc⟩⟩;have hi:=(Array.getElem?_eq_some_iff.1 hv).1;have hi':i<cs'.length:=by simpa using hi
    rw[hcat i (by omega)];simpa using hv
   ·exact⟨⟨0,[],.mk 0 0 ⟨#[]⟩ [] [],0⟩,fun h=>absurd h hj⟩
  obtain⟨T,hT⟩:=Classical.skolem.1 hT;have hlm:((List.range len).map T).length=len:=by simp
  by_cases hp0:0<len
  ·obtain⟨b,off,spot⟩:=a;obtain⟨cs0,h0,hok0,-⟩:=hT 0 hp0;obtain⟨PA0,pc0,VA0,vc0,VA1,vc1,hcs0,-⟩:=hok0;have h00:=h0 0 (.int .i64 (T 0).kind) (by rw[hcs0];rfl);obtain rfl:spot=none:=by simpa[Addr.add]using World.cell?_spot h00
   refine⟨some ⟨b,off,none⟩,cap,(List.range len).map T,by rw[hlm];exact e3,(fun h=>by cases h),by omega,by omega,fun hp=> ?_,fun k hk b2 off2 hA PA n pc hc=> ?_⟩
   ·refine⟨b,off,rfl,?_,fun j hj=> ?_⟩
    ·rw[dz,dz]at h00;exact World.block_lt_of_cell? W _ h00
    ·rw[hlm]at hj;obtain⟨cs,h0,h1,-⟩:=hT j hj;refine⟨cs,fun i v hv=> ?_,by simpa using h1⟩;have:=h0 i v hv;rw[dz,dz]at this;exact this
   ·rw[hlm]at hk;injection hA with hA
    injection hA with e1 e2
    subst e1 e2;obtain⟨cs,h0,h1,h2⟩:=hT k hk;obtain⟨PA1,pc1,VA2,vc2,VA3,vc3,hcs1,-⟩:=h1;have h3:=h0 1 (.slice PA1 (T k).path.length pc1) (by rw[hcs1];rfl);rw[dz,dz]at h3;rw[h3]at hc;injection hc with hc
    injection hc with _ _ hc
    have:=h2 PA1 (T k).path.length pc1 (by rw[hcs1];rfl);omega
  ·have hl0:len=0:=by omega
   subst hl0;exact⟨some a,cap,[],by simpa using e3,(fun h=>by cases h),by simp,by simp,fun h=>absurd h (by simp),fun k h=>absurd h (by simp)⟩
end
end Go.Proofs.YtgfidiocmiolpaaGreat
/- Entries in memory. -/
namespace Go.Proofs.YtgfidiocmiolpaaGreat
open Go.RowKit
def dr (w:World)(S:Nat→Prop)(e:bh)(cs:Array Value):Prop:=
 ∃(IA:Option Addr) (ic:Nat) (IA':Option Addr) (ic':Nat) (DA:Option Addr) (dc:Nat) (DA':Option Addr) (dc':Nat) (LA:Option Addr) (lc:Nat),
  cs= #[.int .i64 e.term,.int .i64 e.kind,.string e.coll,.string e.to,.int .i64 e.id.kind,.int .i64 e.id.num,.string e.id.text,.slice IA e.id.items.length ic,.slice IA' e.id.names.length ic',.int .i64 e.doc.kind,.int .i64 e.doc.num,.string e.doc.text,.slice DA e.doc.items.length dc,.slice DA' e.doc.names.length dc',.slice LA e.dels.length lc,.int .i64 e.session,.int .i64 e.number]∧LV w S e.id (.agg #[.int .i64 e.id.kind,.int .i64 e.id.num,.string e.id.text,.slice IA e.id.items.length ic,.slice IA' e.id.names.length ic'])∧LV w S e.doc (.agg #[.int .i64 e.doc.kind,.int .i64 e.doc.num,.string e.doc.text,.slice DA e.doc.items.length dc,.slice DA' e.doc.names.length dc'])∧bD w S LA e.dels∧e.dels.length≤lc∧(LA=none→lc=0)∧e.dels.length≤1172812402961∧
  Rng e.term∧Rng e.kind∧Rng e.session∧Rng e.number∧e.coll.size≤140737488351232∧e.to.size≤140737488351232
theorem dr.keep {w w':World}{S:Nat→Prop}{e:bh}{cs:Array Value}(h:dr w S e cs)(hk: ∀b,S b→w'.heap[b]? =w.heap[b]?):dr w' S e cs:=by
 obtain⟨IA,ic,IA',ic',DA,dc,DA',dc',LA,lc,h1,h2,h3,h4,h5⟩:=h;exact⟨IA,ic,IA',ic',DA,dc,DA',dc',LA,lc,h1,h2.keep hk,h3.keep hk,h4.keep hk,h5⟩
theorem dr.imp {w:World}{S S':Nat→Prop}{e:bh}{cs:Array Value}(h:dr w S e cs)(hS: ∀b,S b→S' b):dr w S' e cs:=by
 obtain⟨IA,ic,IA',ic',DA,dc,DA',dc',LA,lc,h1,h2,h3,h4,h5⟩:=h;exact⟨IA,ic,IA',ic',DA,dc,DA',dc',LA,lc,h1,h2.imp hS,h3.imp hS,h4.imp hS,h5⟩
structure SmE (e:bh):Prop where
 idd:ap e.id≤4611686018427387903
 docd:ap e.doc≤4611686018427387903
 idz:aM e.id≤9223372036854775807
 docz:aM e.doc≤9223372036854775807
 dels:e.dels.length≤64→eo e.dels∧eI e.dels
def aN (w:World)(g:Nat)(e:bh)(IA:Option Addr)(ic:Nat)(IA':Option Addr)(ic':Nat)(DA:Option Addr)(dc:Nat)(DA':Option Addr)(dc':Nat)(LA:Option Addr)(lc:Nat):Prop:=
 w.heap[g]? =some (.cells #[.int .i64 e.term,.int .i64 e.kind,.string e.coll,.string e.to,.int .i64 e.id.kind,.int .i64 e.id.num,.string e.id.text,.slice IA e.id.items.length ic,.slice IA' e.id.names.length ic',.int .i64 e.doc.kind,.int .i64 e.doc.num,.string e.doc.text,.slice DA e.doc.items.length dc,.slice DA' e.doc.names.length dc',.slice LA e.dels.length lc,.int .i64 e.session,.int .i64 e.number] 46 (0,0))
section
variable {w w':World} {g:Nat} {e:bh} {IA:Option Addr} {ic:Nat} {IA':Option Addr} {ic':Nat} {DA:Option Addr} {dc:Nat} {DA':Option Addr} {dc':Nat} {LA:Option Addr} {lc:Nat}
theorem aN.lt (h:aN w g e IA ic IA' ic' DA dc DA' dc' LA lc):g<w.heap.size:=(Array.getElem?_eq_some_iff.1 h).1
theorem aN.below (h:aN w g e IA ic IA' ic' DA dc DA' dc' LA lc)(hb:Below w.heap.size w w'):aN w' g e IA ic IA' ic' DA dc DA' dc' LA lc:=(hb.block g h.lt).trans h
theorem aN.g1 (h:aN w g e IA ic IA' ic' DA dc DA' dc' LA lc):w.cell? ⟨g,1,none⟩=some (.int .i64 e.kind):=Go.Joins.cell_of_block h 1
theorem aN.g2 (h:aN w g e IA ic IA' ic' DA dc DA' dc' LA lc):w.cell? ⟨g,2,none⟩=some (.string e.coll):=Go.Joins.cell_of_block h 2
theorem aN.g3 (h:aN w g e IA ic IA' ic' DA dc DA' dc' LA lc):w.cell? ⟨g,3,none⟩=some (.string e.to):=Go.Joins.cell_of_block h 3
theorem aN.g4 (h:aN w g e IA ic IA' ic' DA dc DA' dc' LA lc):w.cell? ⟨g,4,none⟩=some (.int .i64 e.id.kind):=Go.Joins.cell_of_block h 4
theorem aN.g5 (h:aN w g e IA ic IA' ic' DA dc DA' dc' LA lc):w.cell? ⟨g,5,none⟩=some (.int .i64 e.id.num):=Go.Joins.cell_of_block h 5
theorem aN.g6 (h:aN w g e IA ic IA' ic' DA dc DA' dc' LA lc):w.cell? ⟨g,6,none⟩=some (.string e.id.text):=Go.Joins.cell_of_block h 6
theorem aN.g7 (h:aN w g e IA ic IA' ic' DA dc DA' dc' LA lc):w.cell? ⟨g,7,none⟩=some (.slice IA e.id.items.length ic):=Go.Joins.cell_of_block h 7
theorem aN.g8 (h:aN w g e IA ic IA' ic' DA dc DA' dc' LA lc):w.cell? ⟨g,8,none⟩=some (.slice IA' e.id.names.length ic'):=Go.Joins.cell_of_block h 8
theorem aN.g9 (h:aN w g e IA ic IA' ic' DA dc DA' dc' LA lc):w.cell? ⟨g,9,none⟩=some (.int .i64 e.doc.kind):=Go.Joins.cell_of_block h 9
theorem aN.g10 (h:aN w g e IA ic IA' ic' DA dc DA' dc' LA lc):w.cell? ⟨g,10,none⟩=some (.int .i64 e.doc.num):=Go.Joins.cell_of_block h 10
theorem aN.g11 (h:aN w g e IA ic IA' ic' DA dc DA' dc' LA lc):w.cell? ⟨g,11,none⟩=some (.string e.doc.text):=Go.Joins.cell_of_block h 11
theorem aN.g12 (h:aN w g e IA ic IA' ic' DA dc DA' dc' LA lc):w.cell? ⟨g,12,none⟩=some (.slice DA e.doc.items.length dc):=Go.Joins.cell_of_block h 12
theorem aN.g13 (h:aN w g e IA ic IA' ic' DA dc DA' dc' LA lc):w.cell? ⟨g,13,none⟩=some (.slice DA' e.doc.names.length dc'):=Go.Joins.cell_of_block h 13
theorem aN.g14 (h:aN w g e IA ic IA' ic' DA dc DA' dc' LA lc):w.cell? ⟨g,14,none⟩=some (.slice LA e.dels.length lc):=Go.Joins.cell_of_block h 14
theorem aN.g15 (h:aN w g e IA ic IA' ic' DA dc DA' dc' LA lc):w.cell? ⟨g,15,none⟩=some (.int .i64 e.session):=Go.Joins.cell_of_block h 15
theorem aN.g16 (h:aN w g e IA ic IA' ic' DA dc DA' dc' LA lc):w.cell? ⟨g,16,none⟩=some (.int .i64 e.number):=Go.Joins.cell_of_block h 16
end
structure eK (w:World)(S:Nat→Prop)(e:bh)(IA:Option Addr)(ic:Nat)(IA':Option Addr)(ic':Nat)(DA:Option Addr)(dc:Nat)(DA':Option Addr)(dc':Nat)(LA:Option Addr)(lc:Nat):Prop where
 id:LV w S e.id (.agg #[.int .i64 e.id.kind,.int .i64 e.id.num,.string e.id.text,.slice IA e.id.items.length ic,.slice IA' e.id.names.length ic'])
 doc:LV w S e.doc (.agg #[.int .i64 e.doc.kind,.int .i64 e.doc.num,.string e.doc.text,.slice DA e.doc.items.length dc,.slice DA' e.doc.names.length dc'])
 dels:bD w S LA e.dels
 cap:e.dels.length≤lc
 nil:LA=none→lc=0
 len:e.dels.length≤1172812402961
 rt:Rng e.term
 rk:Rng e.kind
 rs:Rng e.session
 rn:Rng e.number
 cz:e.coll.size≤140737488351232
 tz:e.to.size≤140737488351232
theorem eK.l {w:World}{S:Nat→Prop}{e:bh}{IA:Option Addr}{ic:Nat}{IA':Option Addr}{ic':Nat}{DA:Option Addr}{dc:Nat}{DA':Option Addr}{dc':Nat}{LA:Option Addr}{lc:Nat}(h:eK w S e IA ic IA' ic' DA dc DA' dc' LA lc):dr w S e #[.int .i64 e.term,.int .i64 e.kind,.string e.coll,.string e.to,.int .i64 e.id.kind,.int .i64 e.id.num,.string e.id.text,.slice IA e.id.items.length ic,.slice IA' e.id.names.length ic',.int .i64 e.doc.kind,.int .i64 e.doc.num,.string e.doc.text,.slice DA e.doc.items.length dc,.slice DA' e.doc.names.length dc',.slice LA e.dels.length lc,.int .i64 e.session,.int .i64 e.number]:=
 ⟨IA,ic,IA',ic',DA,dc,DA',dc',LA,lc,rfl,h.id,h.doc,h.dels,h.cap,h.nil,h.len,h.rt,h.rk,h.rs,h.rn,h.cz,h.tz⟩
theorem dr.at {w:World}{S:Nat→Prop}{e:bh}{cs:Array Value}(h:dr w S e cs): ∃IA ic IA' ic' DA dc DA' dc' LA lc,cs= #[.int .i64 e.term,.int .i64 e.kind,.string e.coll,.string e.to,.int .i64 e.id.kind,.int .i64 e.id.num,.string e.id.text,.slice IA e.id.items.length ic,.slice IA' e.id.names.length ic',.int .i64 e.doc.kind,.int .i64 e.doc.num,.string e.doc.text,.slice DA e.doc.items.length dc,.slice DA' e.doc.names.length dc',.slice LA e.dels.length lc,.int .i64 e.session,.int .i64 e.number]∧eK w S e IA ic IA' ic' DA dc DA' dc' LA lc:=by
 obtain⟨IA,ic,IA',ic',DA,dc,DA',dc',LA,lc,h1,h2,h3,h4,h5,h6,h7,h8,h9,h10,h11,h12,h13⟩:=h;exact⟨IA,ic,IA',ic',DA,dc,DA',dc',LA,lc,h1,h2,h3,h4,h5,h6,h7,h8,h9,h10,h11,h12,h13⟩
theorem eK.keep {w w':World}{S:Nat→Prop}{e:bh}{IA:Option Addr}{ic:Nat}{IA':Option Addr}{ic':Nat}{DA:Option Addr}{dc:Nat}{DA':Option Addr}{dc':Nat}{LA:Option Addr}{lc:Nat}(h:eK w S e IA ic IA' ic' DA dc DA' dc' LA lc)(hk: ∀b,S b→w'.heap[b]? =w.heap[b]?):eK w' S e IA ic IA' ic' DA dc DA' dc' LA lc:=
 ⟨h.id.keep hk,h.doc.keep hk,h.dels.keep hk,h.cap,h.nil,h.len,h.rt,h.rk,h.rs,h.rn,h.cz,h.tz⟩
theorem eK.below {w w':World}{S:Nat→Prop}{e:bh}{IA:Option Addr}{ic:Nat}{IA':Option Addr}{ic':Nat}{DA:Option Addr}{dc:Nat}{DA':Option Addr}{dc':Nat}{LA:Option Addr}{lc:Nat}{B:Nat}(h:eK w S e IA ic IA' ic' DA dc DA' dc' LA lc)(hS: ∀b,S b→b<B)(hb:Below B w w'):eK w' S e IA ic IA' ic' DA dc DA' dc' LA lc:=h.keep fun b hb'=>hb.block b (hS b hb')
theorem eK.imp {w:World}{S S':Nat→Prop}{e:bh}{IA:Option Addr}{ic:Nat}{IA':Option Addr}{ic':Nat}{DA:Option Addr}{dc:Nat}{DA':Option Addr}{dc':Nat}{LA:Option Addr}{lc:Nat}(h:eK w S e IA ic IA' ic' DA dc DA' dc' LA lc)(hS: ∀b,S b→S' b):eK w S' e IA ic IA' ic' DA dc DA' dc' LA lc:=
 ⟨h.id.imp hS,h.doc.imp hS,h.dels.imp hS,h.cap,h.nil,h.len,h.rt,h.rk,h.rs,h.rn,h.cz,h.tz⟩
theorem aR {ops:Array Oper}{rest:List Oper}{o:Oper}{a:Act}{w:World}{Q:Exit→Act→World→Prop}(hw:Region.wanted o (yielded ops a.tmps)=true)(x:Operand)(ho:o.op= .load 46 x)
  (g:Nat) (hx:a.eval x= .pointer (some ⟨g,0,none⟩)) (cs:Array Value) (fr:Nat×Nat) (hg:w.heap[g]? =some (.cells cs 46 fr)) (hn:cs.size=17)
  (h:wpList Tryz.prog ops Q rest (a.put o.dst (.agg cs)) w):wpList Tryz.prog ops Q (o::rest) a w:=
 wpList_step fun K hK=>by
  rw[hw,if_pos rfl];exact wp_load_row 46 x ho g hx 46 cs fr _ hg Tryz.underlying46 rfl (by rw[hn];kernel_rfl) (hK _ _ h)
end Go.Proofs.YtgfidiocmiolpaaGreat
/- Entries that came in. -/
namespace Go.Proofs.YtgfidiocmiolpaaGreat
open Go.ChangeShapes Go.WideShapes Go.RowKit Go.Joins Go.Deep
theorem rC :Tryz.prog.cellsOf 46=17:=by kernel_rfl
theorem vX : ∃f0 f1 f2 f3 f4 f5 f6 f7 f8:Field,Tryz.prog.underlying 46=some (.struct #[f0,f1,f2,f3,f4,f5,f6,f7,f8])∧(f0.type=3∧f1.type=3∧f2.type=9∧f3.type=9∧f4.type=43∧f5.type=43∧f6.type=44∧f7.type=3∧f8.type=3)∧(f0.offset=0∧f1.offset=1∧f2.offset=2∧f3.offset=3∧f4.offset=4∧f5.offset=9∧f6.offset=14∧f7.offset=15∧f8.offset=16):=
 ⟨_,_,_,_,_,_,_,_,_,Tryz.underlying46,⟨rfl,rfl,rfl,rfl,rfl,rfl,rfl,rfl,rfl⟩,⟨rfl,rfl,rfl,rfl,rfl,rfl,rfl,rfl,rfl⟩⟩
section
variable {H :Type} {enc:TypeId×Value→H} {W:World} {sp:Nat→Bool}
theorem yJ {fuel:Nat}{cs:List Value}{x:DataW H×List MemPlace}(h:DataW.trod enc Tryz.prog W 0 sp true fuel 46 cs=some x)(hw: ∀n∈x.1.weights Tryz.prog 46,n≤reachBytes):
  ∃e:bh,dr W (fun b=>b<W.heap.size) e cs.toArray:=by
 obtain⟨f0,f1,f2,f3,f4,f5,f6,f7,f8,hu,⟨t0,t1,t2,t3,t4,t5,t6,t7,t8⟩,⟨o0,o1,o2,o3,o4,o5,o6,o7,o8⟩⟩:=vX;obtain⟨xs,n,hfu,hx,hlen,hxl,hg⟩:=DataW.trod_struct hu h;rw[rC]at hlen
 match cs,hlen with
 | [c0,c1,c2,c3,c4,c5,c6,c7,c8,c9,c10,c11,c12,c13,c14,c15,c16],_=>
  match xs,hxl with
  | [y0,y1,y2,y3,y4,y5,y6,y7,y8],_=>
   have g0:=hg 0 f0 rfl;have g1:=hg 1 f1 rfl;have g2:=hg 2 f2 rfl;have g3:=hg 3 f3 rfl;have g4:=hg 4 f4 rfl;have g5:=hg 5 f5 rfl;have g6:=hg 6 f6 rfl;have g7:=hg 7 f7 rfl;have g8:=hg 8 f8 rfl;rw[t0,o0,dY]at g0;rw[t1,o1,dY]at g1;rw[t2,o2,iZ]at g2;rw[t3,o3,iZ]at g3;rw[t4,o4,iO]at g4;rw[t5,o5,iO]at g5;rw[t6,o6,rQ]at g6;rw[t7,o7,dY]at g7;rw[t8,o8,dY]at g8;have hws:=hw;rw[hx]at hws;simp only[DataW.weights,hu,List.map_cons,List.map_nil,t0,t1,t2,t3,t4,t5,t6,t7,t8]at hws;simp only[DataW.weightsEach,List.mem_append]at hws;obtain⟨a0,e0,-,w0⟩:=DataW.trod_int Tryz.underlying3 g0;obtain⟨a1,e1,-,w1⟩:=DataW.trod_int Tryz.underlying3 g1;obtain⟨a2,e2,x2,w2⟩:=DataW.trod_string Tryz.underlying9 g2;obtain⟨a3,e3,x3,w3⟩:=DataW.trod_string Tryz.underlying9 g3;obtain⟨a7,e7,-,w7⟩:=DataW.trod_int Tryz.underlying3 g7;obtain⟨a8,e8,-,w8⟩:=DataW.trod_int Tryz.underlying3 g8;simp at e0 e1 e2 e3 e7 e8;subst e0 e1 e2 e3 e7 e8
   have hs2:a2.size≤140737488351232:=by
    have:=hws a2.data.toList.length (.inr (.inr (.inl (by rw[x2];simp[DataW.weights]))));simpa[reachBytes]using this
   have hs3:a3.size≤140737488351232:=by
    have:=hws a3.data.toList.length (.inr (.inr (.inr (.inl (by rw[x3];simp[DataW.weights])))));simpa[reachBytes]using this
   obtain⟨ti,hti⟩:=mh _ _ _ g4 (fun n hn=>hws n (.inr (.inr (.inr (.inr (.inl hn))))));obtain⟨td,htd⟩:=mh _ _ _ g5 (fun n hn=>hws n (.inr (.inr (.inr (.inr (.inr (.inl hn)))))));obtain⟨LA,lc,ds,e6,q1,q2,q3,q4,-⟩:=uS g6 (fun n hn=>hws n (.inr (.inr (.inr (.inr (.inr (.inr (.inl hn))))))));simp at e6;subst e6;obtain⟨IA,ic,IA',ic',hvi,-⟩:=hti.shape;obtain⟨DA,dc,DA',dc',hvd,-⟩:=htd.shape;simp at hvi hvd;obtain⟨rfl,rfl,rfl,rfl,rfl⟩:=hvi;obtain⟨rfl,rfl,rfl,rfl,rfl⟩:=hvd;exact⟨⟨a0,a1,a2,a3,ti,td,ds,a7,a8⟩,IA,ic,IA',ic',DA,dc,DA',dc',LA,lc,rfl,hti,htd,q4,q2,fun h=>(q1 h).1,q3,in64_of_wf w0,in64_of_wf w1,in64_of_wf w7,in64_of_wf w8,hs2,hs3⟩
end
theorem eb :kq dr 17 where
 size:=fun h=>by obtain⟨IA,ic,IA',ic',DA,dc,DA',dc',LA,lc,rfl,-⟩:=h;rfl
 keep:=fun h hk=>h.keep hk
 imp:=fun h hS=>h.imp hS
abbrev dm (w:World)(S:Nat→Prop)(A:Option Addr)(l:List bh):Prop:=dG dr 17 w S A l
theorem vM :Tryz.prog.cellsOf 22=1:=by kernel_rfl
theorem xT :Tryz.prog.bytesOf 46=248:=by kernel_rfl
def Au :bh:=⟨0,0,⟨#[]⟩,⟨#[]⟩,.mk 0 0 ⟨#[]⟩ [] [],.mk 0 0 ⟨#[]⟩ [] [],[],0,0⟩
section
variable {H :Type} {enc:TypeId×Value→H} {W:World} {sp:Nat→Bool}
theorem wi {fuel:Nat}{cs:List Value}{x:DataW H×List MemPlace}(h:DataW.trod enc Tryz.prog W 0 sp true fuel 22 cs=some x)(hw: ∀n∈x.1.weights Tryz.prog 22,n≤reachBytes):
  ∃A c,∃es:List bh,cs= [.slice A es.length c]∧(A=none→c=0∧es= [])∧es.length≤c∧es.length≤567493904640∧dm W (fun b=>b<W.heap.size) A es:=by
 rcases DataW.trod_slice Tryz.underlying22 h with ⟨e3,-⟩|⟨a,len,cap,elems,rest,m,hm,e3,x3,-,hlc,-,hel,hat,-,-⟩
 ·exact⟨none,0,[],e3,fun _=>⟨rfl,rfl⟩,by simp,by simp,fun h=>absurd h (by simp)⟩
 ·have hws:=hw;rw[x3]at hws;simp only[DataW.weights,Tryz.underlying22]at hws
  have hl:len≤567493904640:=by
   have h1:=hws _ (List.mem_cons_self ..);rw[xT]at h1;simp only[List.length_map,hel,reachBytes]at h1;omega
  have hT: ∀j,∃o:bh,j<len→ ∃cs:Array Value,(∀i v,cs[i]? =some v→W.cell? ((a.add (j * 17)).add i)=some v)∧dr W (fun b=>b<W.heap.size) o cs:=by
   intro j;by_cases hj:j<len
   ·have h1:=hat j hj;rw[rC,List.getElem?_eq_getElem (by omega)]at h1;obtain⟨cs',hc,ht⟩:=Option.bind_eq_some_iff.1 h1;obtain⟨-,hcl,hcat⟩:=World.cells?_some hc;obtain⟨o,ho⟩:=yJ ht (fun n hn=>hws n (List.mem_cons_of_mem _ (List.mem_append_left _ (dO (List.mem_map.2 ⟨_,List.getElem_mem (by omega),rfl⟩) n hn))));refine⟨o,fun _=>⟨cs'.toArray,fun i v hv=> ?_,ho⟩⟩;have hi:=(Array.getElem?_eq_some_iff.1 hv).1;have hi':i<cs'.length:=by simpa using hi
    rw[hcat i (by omega)];simpa using hv
   ·exact⟨Au,fun h=>absurd h hj⟩
  obtain⟨T,hT⟩:=Classical.skolem.1 hT;have hlm:((List.range len).map T).length=len:=by simp
  by_cases hp0:0<len
  ·obtain⟨b,off,spot⟩:=a;obtain⟨cs0,h0,hok0⟩:=hT 0 hp0;have hz:=eb.size hok0;have h00:=h0 0 cs0[0] (Array.getElem?_eq_getElem (by omega));obtain rfl:spot=none:=by simpa[Addr.add]using World.cell?_spot h00
   refine⟨some ⟨b,off,none⟩,cap,(List.range len).map T,by rw[hlm];exact e3,(fun h=>by cases h),by omega,by omega,fun hp=> ?_⟩;refine⟨b,off,rfl,?_,fun j hj=> ?_⟩
   ·rw[dz,dz]at h00;exact World.block_lt_of_cell? W _ h00
   ·rw[hlm]at hj;obtain⟨cs,h0,h1⟩:=hT j hj;refine⟨cs,fun i v hv=> ?_,by simpa using h1⟩;have:=h0 i v hv;rw[dz,dz]at this;exact this
  ·have hl0:len=0:=by omega
   subst hl0;exact⟨some a,cap,[],by simpa using e3,(fun h=>by cases h),by simp,by simp,fun h=>absurd h (by simp)⟩
end
theorem dm.at {w:World}{S:Nat→Prop}{A:Option Addr}{l:List bh}(h:dm w S A l)(k:Nat)(hk:k<l.length):
  ∃b off cs,A=some ⟨b,off,none⟩∧S b∧w.rangeAt b (off+k * 17) cs∧cs.length=17∧dr w S l[k] cs.toArray:=by
 obtain⟨b,off,hA,hb,hc⟩:=h (by omega);obtain⟨cs,h1,h2⟩:=hc k hk;exact⟨b,off,cs.toList,hA,hb,fun j v hv=>h1 j v (by simpa using hv),by simpa using eb.size h2,by simpa using h2⟩
end Go.Proofs.YtgfidiocmiolpaaGreat
