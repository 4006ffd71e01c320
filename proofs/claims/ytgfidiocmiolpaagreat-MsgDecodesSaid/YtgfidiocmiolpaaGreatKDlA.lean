/- Changes, plain: which may be, which lists, whether they are free; and where they lie. -/
import Derived.Test.YtgfidiocmiolpaaGreatKVr
import Derived.Test.YtgfidiocmiolpaaGreatKRegR
import Derived.Test.YtgfidiocmiolpaaGreatKCodX
import Derived.Test.YtgfidiocmiolpaaGreatKCodG
import Derived.Laws.OwnMore
import Derived.Laws.AppendOwnNone
import Derived.Lib.AppendZerosOnto
import Derived.Lib.AppendZeros
import Derived.Lib.SliceRun
set_option maxHeartbeats 64000000
set_option maxRecDepth 100000
set_option linter.unusedVariables false
set_option linter.unusedSimpArgs false
namespace Go.Proofs.YtgfidiocmiolpaaGreat
open Go.RowKit
structure aU where
 kind:Int
 path:List ByteArray
 val:VT
 num:Int
def cl (d:aU):Bool:=jC d.path && (if d.kind=1 then decide (bh d.val=0) && decide (d.num=0)else if d.kind=2 then b8 d.val && decide (d.num=0)else if d.kind=3 then b8 d.val && (decide (0≤d.num) && decide (d.num≤999))else false)
def bK (l:List aU):Int:=if 64<l.length then 3 else if l.all cl then 0 else 1
def fs (l:List aU):List (List ByteArray):=l.map (·.path)
def ev (l:List aU):Bool:= !cy [] (fs l)
def kW (l:List aU)(p:List ByteArray):Bool:=l.any fun d=>cE d.path p
theorem k9 {d:aU}(h:cl d=true):jC d.path=true:=by
 unfold cl at h;rw[Bool.and_eq_true]at h;exact h.1
def em (w:World)(S:Nat→Prop)(d:aU)(cs:Array Value):Prop:=
 ∃(PA:Option Addr) (pc:Nat) (VA:Option Addr) (vc:Nat) (VA':Option Addr) (vc':Nat),cs= #[.int .i64 d.kind,.slice PA d.path.length pc,.int .i64 d.val.kind,.int .i64 d.val.num,.string d.val.text,.slice VA d.val.items.length vc,.slice VA' d.val.names.length vc',.int .i64 d.num]∧
  LV w S d.val (.agg #[.int .i64 d.val.kind,.int .i64 d.val.num,.string d.val.text,.slice VA d.val.items.length vc,.slice VA' d.val.names.length vc'])∧aD w S PA d.path∧d.path.length≤pc∧(PA=none→pc=0)∧Rng d.kind∧Rng d.num∧d.path.length≤8796093021952
theorem em.keep {w w':World}{S:Nat→Prop}{d:aU}{cs:Array Value}(h:em w S d cs)(hk: ∀b,S b→w'.heap[b]? =w.heap[b]?):em w' S d cs:=by
 obtain⟨PA,pc,VA,vc,VA',vc',h1,h2,h3,h4⟩:=h;exact⟨PA,pc,VA,vc,VA',vc',h1,h2.keep hk,h3.keep hk,h4⟩
theorem em.imp {w:World}{S S':Nat→Prop}{d:aU}{cs:Array Value}(h:em w S d cs)(hS: ∀b,S b→S' b):em w S' d cs:=by
 obtain⟨PA,pc,VA,vc,VA',vc',h1,h2,h3,h4⟩:=h;exact⟨PA,pc,VA,vc,VA',vc',h1,h2.imp hS,h3.imp hS,h4⟩
theorem em.below {w w':World}{S:Nat→Prop}{d:aU}{cs:Array Value}{B:Nat}(h:em w S d cs)(hS: ∀b,S b→b<B)(hb:Below B w w'):em w' S d cs:=h.keep fun b hb'=>hb.block b (hS b hb')
theorem em.size {w:World}{S:Nat→Prop}{d:aU}{cs:Array Value}(h:em w S d cs):cs.size=8:=by
 obtain⟨PA,pc,VA,vc,VA',vc',rfl,-⟩:=h;rfl
def bQ (w:World)(S:Nat→Prop)(A:Option Addr)(l:List aU):Prop:=
 0<l.length→ ∃b off,A=some ⟨b,off,none⟩∧S b∧ ∀i (h:i<l.length),∃cs:Array Value,(∀j v,cs[j]? =some v→w.cell? ⟨b,off+i * 8+j,none⟩=some v)∧em w S l[i] cs
theorem bQ.keep {w w':World}{S:Nat→Prop}{A:Option Addr}{l:List aU}(h:bQ w S A l)(hk: ∀b,S b→w'.heap[b]? =w.heap[b]?):bQ w' S A l:=fun hp=>by
 obtain⟨b,off,hA,hb,hc⟩:=h hp;refine⟨b,off,hA,hb,fun i hi=> ?_⟩;obtain⟨cs,h1,h2⟩:=hc i hi;exact⟨cs,fun j v hv=>(World.cell?_of_block (a:=⟨b,off+i * 8+j,none⟩) (hk b hb)).trans (h1 j v hv),h2.keep hk⟩
theorem bQ.imp {w:World}{S S':Nat→Prop}{A:Option Addr}{l:List aU}(h:bQ w S A l)(hS: ∀b,S b→S' b):bQ w S' A l:=fun hp=>by
 obtain⟨b,off,hA,hb,hc⟩:=h hp;refine⟨b,off,hA,hS b hb,fun i hi=> ?_⟩;obtain⟨cs,h1,h2⟩:=hc i hi;exact⟨cs,h1,h2.imp hS⟩
theorem bQ.below {w w':World}{S:Nat→Prop}{A:Option Addr}{l:List aU}{B:Nat}(h:bQ w S A l)(hS: ∀b,S b→b<B)(hb:Below B w w'):bQ w' S A l:=h.keep fun b hb'=>hb.block b (hS b hb')
theorem bQ.cells {w:World}{S:Nat→Prop}{A:Option Addr}{l:List aU}(h:bQ w S A l)(k:Nat)(hk:k<l.length):
  ∃b off PA pc VA vc VA' vc',A=some ⟨b,off,none⟩∧S b∧em w S l[k] #[.int .i64 l[k].kind,.slice PA l[k].path.length pc,.int .i64 l[k].val.kind,.int .i64 l[k].val.num,.string l[k].val.text,.slice VA l[k].val.items.length vc,.slice VA' l[k].val.names.length vc',.int .i64 l[k].num]∧
   w.cell? ⟨b,off+k * 8,none⟩=some (.int .i64 l[k].kind)∧w.cell? ⟨b,off+k * 8+1,none⟩=some (.slice PA l[k].path.length pc)∧w.cell? ⟨b,off+k * 8+2,none⟩=some (.int .i64 l[k].val.kind)∧w.cell? ⟨b,off+k * 8+3,none⟩=some (.int .i64 l[k].val.num)∧w.cell? ⟨b,off+k * 8+4,none⟩=some (.string l[k].val.text)∧
   w.cell? ⟨b,off+k * 8+5,none⟩=some (.slice VA l[k].val.items.length vc)∧w.cell? ⟨b,off+k * 8+6,none⟩=some (.slice VA' l[k].val.names.length vc')∧w.cell? ⟨b,off+k * 8+7,none⟩=some (.int .i64 l[k].num):=by
 obtain⟨b,off,hA,hb,hc⟩:=h (by omega);obtain⟨cs,h1,h2⟩:=hc k hk;obtain⟨PA,pc,VA,vc,VA',vc',e,-⟩:=id h2;subst e;exact⟨b,off,PA,pc,VA,vc,VA',vc',hA,hb,h2,h1 0 _ rfl,h1 1 _ rfl,h1 2 _ rfl,h1 3 _ rfl,h1 4 _ rfl,h1 5 _ rfl,h1 6 _ rfl,h1 7 _ rfl⟩
def eT (l:List aU):Prop:= ∀d∈l,av d.val≤4611686018427387903
def bC (w:World)(p:Nat)(c0 c1 c2 c3 c4 c5 c6 c7:Value):Prop:=w.heap[p]? =some (.cells #[c0,c1,c2,c3,c4,c5,c6,c7] 114 (0,0))
def gJ (w:World)(p:Nat)(c0 c1 c2 c3 c4 c5 c6 c7:Value):World:=(((((((w.setCell ⟨p,0,none⟩ c0).setCell ⟨p,1,none⟩ c1).setCell ⟨p,2,none⟩ c2).setCell ⟨p,3,none⟩ c3).setCell ⟨p,4,none⟩ c4).setCell ⟨p,5,none⟩ c5).setCell ⟨p,6,none⟩ c6).setCell ⟨p,7,none⟩ c7
section
variable {w w':World} {p:Nat} {c0 c1 c2 c3 c4 c5 c6 c7:Value}
theorem bC.g0 (h:bC w p c0 c1 c2 c3 c4 c5 c6 c7):w.cell? ⟨p,0,none⟩=some c0:=Go.Joins.cell_of_block h 0
theorem bC.g1 (h:bC w p c0 c1 c2 c3 c4 c5 c6 c7):w.cell? ⟨p,1,none⟩=some c1:=Go.Joins.cell_of_block h 1
theorem bC.g2 (h:bC w p c0 c1 c2 c3 c4 c5 c6 c7):w.cell? ⟨p,2,none⟩=some c2:=Go.Joins.cell_of_block h 2
theorem bC.g3 (h:bC w p c0 c1 c2 c3 c4 c5 c6 c7):w.cell? ⟨p,3,none⟩=some c3:=Go.Joins.cell_of_block h 3
theorem bC.g4 (h:bC w p c0 c1 c2 c3 c4 c5 c6 c7):w.cell? ⟨p,4,none⟩=some c4:=Go.Joins.cell_of_block h 4
theorem bC.g5 (h:bC w p c0 c1 c2 c3 c4 c5 c6 c7):w.cell? ⟨p,5,none⟩=some c5:=Go.Joins.cell_of_block h 5
theorem bC.g6 (h:bC w p c0 c1 c2 c3 c4 c5 c6 c7):w.cell? ⟨p,6,none⟩=some c6:=Go.Joins.cell_of_block h 6
theorem bC.g7 (h:bC w p c0 c1 c2 c3 c4 c5 c6 c7):w.cell? ⟨p,7,none⟩=some c7:=Go.Joins.cell_of_block h 7
theorem bC.set0 (h:bC w p c0 c1 c2 c3 c4 c5 c6 c7)(u:Value):bC (w.setCell ⟨p,0,none⟩ u) p u c1 c2 c3 c4 c5 c6 c7:=Go.Joins.block_setCell (i:=0) h u
theorem bC.set1 (h:bC w p c0 c1 c2 c3 c4 c5 c6 c7)(u:Value):bC (w.setCell ⟨p,1,none⟩ u) p c0 u c2 c3 c4 c5 c6 c7:=Go.Joins.block_setCell (i:=1) h u
theorem bC.set2 (h:bC w p c0 c1 c2 c3 c4 c5 c6 c7)(u:Value):bC (w.setCell ⟨p,2,none⟩ u) p c0 c1 u c3 c4 c5 c6 c7:=Go.Joins.block_setCell (i:=2) h u
theorem bC.set3 (h:bC w p c0 c1 c2 c3 c4 c5 c6 c7)(u:Value):bC (w.setCell ⟨p,3,none⟩ u) p c0 c1 c2 u c4 c5 c6 c7:=Go.Joins.block_setCell (i:=3) h u
theorem bC.set4 (h:bC w p c0 c1 c2 c3 c4 c5 c6 c7)(u:Value):bC (w.setCell ⟨p,4,none⟩ u) p c0 c1 c2 c3 u c5 c6 c7:=Go.Joins.block_setCell (i:=4) h u
theorem bC.set5 (h:bC w p c0 c1 c2 c3 c4 c5 c6 c7)(u:Value):bC (w.setCell ⟨p,5,none⟩ u) p c0 c1 c2 c3 c4 u c6 c7:=Go.Joins.block_setCell (i:=5) h u
theorem bC.set6 (h:bC w p c0 c1 c2 c3 c4 c5 c6 c7)(u:Value):bC (w.setCell ⟨p,6,none⟩ u) p c0 c1 c2 c3 c4 c5 u c7:=Go.Joins.block_setCell (i:=6) h u
theorem bC.set7 (h:bC w p c0 c1 c2 c3 c4 c5 c6 c7)(u:Value):bC (w.setCell ⟨p,7,none⟩ u) p c0 c1 c2 c3 c4 c5 c6 u:=Go.Joins.block_setCell (i:=7) h u
theorem bC.free (h:bC w p c0 c1 c2 c3 c4 c5 c6 c7)(i:Nat):w.frozen? ⟨p,i,none⟩=false:=Go.Joins.unfrozen_of_block h i
theorem bC.lt (h:bC w p c0 c1 c2 c3 c4 c5 c6 c7):p<w.heap.size:=(Array.getElem?_eq_some_iff.1 h).1
theorem bC.new (w:World)(c0 c1 c2 c3 c4 c5 c6 c7:Value):bC (w.alloc (.cells #[c0,c1,c2,c3,c4,c5,c6,c7] 114)) w.heap.size c0 c1 c2 c3 c4 c5 c6 c7:=heap_alloc_new w _
theorem bC.alloc (h:bC w p c0 c1 c2 c3 c4 c5 c6 c7)(o:Obj):bC (w.alloc o) p c0 c1 c2 c3 c4 c5 c6 c7:=(Below.heap_alloc w o p h.lt).trans h
theorem bC.only {g:Nat}(h:bC w p c0 c1 c2 c3 c4 c5 c6 c7)(ho:au w w' g)(hne:p≠g):bC w' p c0 c1 c2 c3 c4 c5 c6 c7:=(ho.block p h.lt (by rintro⟨⟩;exact hne rfl)).trans h
theorem bC.other (h:bC w p c0 c1 c2 c3 c4 c5 c6 c7)(D i:Nat)(u:Value)(hne:p≠D):bC (w.setCell ⟨D,i,none⟩ u) p c0 c1 c2 c3 c4 c5 c6 c7:=(heap_setCell_other _ ⟨D,i,none⟩ p _ hne).trans h
theorem jP {d0 d1 d2 d3 d4 d5 d6 d7:Value}(h:bC w p c0 c1 c2 c3 c4 c5 c6 c7):bC (gJ w p d0 d1 d2 d3 d4 d5 d6 d7) p d0 d1 d2 d3 d4 d5 d6 d7:=(((((((h.set0 d0).set1 d1).set2 d2).set3 d3).set4 d4).set5 d5).set6 d6).set7 d7
theorem iC (b:Nat)(h:b≠p):(gJ w p c0 c1 c2 c3 c4 c5 c6 c7).heap[b]? =w.heap[b]? :=by
 unfold gJ;rw[heap_setCell_other _ ⟨p,_,none⟩ b _ h,heap_setCell_other _ ⟨p,_,none⟩ b _ h,heap_setCell_other _ ⟨p,_,none⟩ b _ h,heap_setCell_other _ ⟨p,_,none⟩ b _ h,heap_setCell_other _ ⟨p,_,none⟩ b _ h,heap_setCell_other _ ⟨p,_,none⟩ b _ h,heap_setCell_other _ ⟨p,_,none⟩ b _ h,heap_setCell_other _ ⟨p,_,none⟩ b _ h]
theorem qJ :(gJ w p c0 c1 c2 c3 c4 c5 c6 c7).heap.size=w.heap.size:=by simp[gJ]
theorem i8 :(gJ w p c0 c1 c2 c3 c4 c5 c6 c7).os=w.os∧(gJ w p c0 c1 c2 c3 c4 c5 c6 c7).tape=w.tape∧(gJ w p c0 c1 c2 c3 c4 c5 c6 c7).output=w.output:=by
 have h: ∀(w:World) (a:Addr) (u:Value),(w.setCell a u).os=w.os∧(w.setCell a u).tape=w.tape∧(w.setCell a u).output=w.output:=fun _ _ _=>⟨rfl,rfl,rfl⟩;unfold gJ;refine⟨?_,?_,?_⟩
 ·rw[(h _ _ _).1,(h _ _ _).1,(h _ _ _).1,(h _ _ _).1,(h _ _ _).1,(h _ _ _).1,(h _ _ _).1,(h _ _ _).1]
 ·rw[(h _ _ _).2.1,(h _ _ _).2.1,(h _ _ _).2.1,(h _ _ _).2.1,(h _ _ _).2.1,(h _ _ _).2.1,(h _ _ _).2.1,(h _ _ _).2.1]
 ·rw[(h _ _ _).2.2,(h _ _ _).2.2,(h _ _ _).2.2,(h _ _ _).2.2,(h _ _ _).2.2,(h _ _ _).2.2,(h _ _ _).2.2,(h _ _ _).2.2]
end
theorem aU.same {a b:aU}(h0:a.kind=b.kind)(h1:a.num=b.num)(h2:a.path=b.path)(h3:a.val=b.val):a=b:=by
 cases a;cases b;simp only at h0 h1 h2 h3;subst h0 h1 h2 h3;rfl
theorem Tryz.infoDlt :(Tryz.prog.info? 114).map (fun i=>(i.zero,i.size,i.bytes))=some (some (.agg #[.int .i64 0,.slice none 0 0,.int .i64 0,.int .i64 0,.string ⟨#[]⟩,.slice none 0 0,.slice none 0 0,.int .i64 0]),8,120):=by kernel_rfl
def dO (w:World)(S:Nat→Prop):List aU→List Value→Prop
 | [],xs=>xs= []
 |o::l,xs=> ∃c r,xs=c++r∧em w S o c.toArray∧dO w S l r
section
variable {w w':World} {S S':Nat→Prop}
theorem em.lenL {o:aU}{cs:List Value}(h:em w S o cs.toArray):cs.length=8:=by
 have:=h.size;simpa using this
theorem em.oneL {o:aU}{cs:List Value}(h:em w S o cs.toArray): ∀u∈cs,u.oneCell'=true:=by
 obtain⟨PA,pc,VA,vc,VA',vc',h1,-⟩:=h;simp only[Array.mk.injEq]at h1;subst h1;intro u hu;simp only[List.mem_cons,List.not_mem_nil,or_false]at hu;rcases hu with rfl|rfl|rfl|rfl|rfl|rfl|rfl|rfl<;>rfl
theorem dO.keep (hk: ∀b,S b→w'.heap[b]? =w.heap[b]?): ∀ {l:List aU} {xs:List Value},dO w S l xs→dO w' S l xs
 | [],_,h=>h
 |_::_,_,h=>by obtain⟨c,r,h0,h1,h2⟩:=h;exact⟨c,r,h0,h1.keep hk,dO.keep hk h2⟩
theorem dO.imp (hS: ∀b,S b→S' b): ∀ {l:List aU} {xs:List Value},dO w S l xs→dO w S' l xs
 | [],_,h=>h
 |_::_,_,h=>by obtain⟨c,r,h0,h1,h2⟩:=h;exact⟨c,r,h0,h1.imp hS,dO.imp hS h2⟩
theorem dO.push {o:aU}{cs:List Value}(ho:em w S o cs.toArray): ∀ {l:List aU} {xs:List Value},dO w S l xs→dO w S (l++[o]) (xs++cs)
 | [],xs,h=>by have h:xs= []:=h;subst h;exact⟨cs,[],by simp,ho,rfl⟩
 |p::l,xs,h=>by
  obtain⟨c,r,rfl,h1,h2⟩:=h;exact⟨c,r++cs,by rw[List.append_assoc],h1,dO.push ho h2⟩
theorem dO.at : ∀ {l:List aU} {xs:List Value},dO w S l xs→ ∀i (hi:i<l.length),∃cs:List Value,em w S l[i] cs.toArray∧ ∀j,j<8→xs[i * 8+j]? =cs[j]?
 | [],_,_,i,hi=>absurd hi (by simp)
 |o::l,xs,h,i,hi=>by
  obtain⟨c,r,rfl,h1,h2⟩:=h
  cases i with
  |zero=>
   refine⟨c,h1,fun j hj=> ?_⟩;rw[List.getElem?_append_left (by rw[h1.lenL];omega)]
   congr 1;omega
  |succ i=>
   obtain⟨cs,h3,h4⟩:=dO.at h2 i (by simpa using hi);refine⟨cs,h3,fun j hj=> ?_⟩;rw[List.getElem?_append_right (by rw[h1.lenL];omega),h1.lenL,←h4 j hj]
   congr 1;omega
theorem dO.rows {B:Nat}{A:Option Addr}{c n:Nat}{l:List aU}{xs:List Value}(h:dO w S l xs)(ho:w.ownsRow B 114 8 (.slice A n c) n xs)(hn:n=l.length)(hS: ∀b,S b→S' b)(hrow: ∀p,(Value.slice A n c).ownBlock=some p→S' p):bQ w S' A l:=fun hp=>by
 subst hn;rcases ho.2 with ⟨-,h0⟩|⟨g,cap,cur,e,hB,hh,hr⟩
 ·omega
 ·injection e with e1 e2 e3
  subst e1 e3;refine⟨g,0,rfl,hrow g rfl,fun i hi=> ?_⟩;obtain⟨cs,h4,h5⟩:=h.at i hi;refine⟨cs.toArray,fun j v hv=> ?_,h4.imp hS⟩;have hv':cs[j]? =some v:=by simpa using hv
  have hj:j<8:=by have:=(List.getElem?_eq_some_iff.1 hv').1;have:=h4.lenL;omega
  have h6:=ho.cells (g:=g) rfl (i * 8+j) v (by rw[h5 j hj];exact hv');rw[add_at,Nat.zero_add]at h6;rw[Nat.zero_add];exact h6
end
def bx (w0:World)(w:World)(A:Option Addr)(c:Nat)(l:List aU):Prop:=
 ∃xs,∃S:Nat→Prop,w.ownsRow w0.heap.size 114 8 (.slice A l.length c) l.length xs∧dO w S l xs∧ ∀b,S b→w0.heap.size≤b∧b<w.heap.size∧ ∀p,(Value.slice A l.length c).ownBlock=some p→b≠p
theorem bx.nil (w0 w:World):bx w0 w none 0 []:=⟨[],fun _=>False,World.ownsRow_nil _ _ _ _,rfl,fun _ h=>h.elim⟩
theorem bx.only {w0 w w':World}{A:Option Addr}{c g:Nat}{l:List aU}(h:bx w0 w A c l)(ho:au w w' g)(hg:g<w0.heap.size):bx w0 w' A c l:=by
 obtain⟨xs,S,h1,h2,h3⟩:=h;refine⟨xs,S,⟨h1.1,h1.2.imp id ?_⟩,h2.keep fun b hb=>ho.block b (h3 b hb).2.1 (by rintro⟨⟩;have:=(h3 _ hb).1;omega),fun b hb=>⟨(h3 b hb).1,Nat.lt_of_lt_of_le (h3 b hb).2.1 ho.size,(h3 b hb).2.2⟩⟩;rintro⟨q,cap,cur,e,hB,hh,hr⟩;exact⟨q,cap,cur,e,hB,(ho.block q (Array.getElem?_eq_some_iff.1 hh).1 (by rintro⟨⟩;omega)).trans hh,hr⟩
theorem bx.rows {w0 w:World}{A:Option Addr}{c:Nat}{l:List aU}(h:bx w0 w A c l):bQ w (dB w0.heap.size w) A l:=by
 obtain⟨xs,S,h1,h2,h3⟩:=h;exact h2.rows h1 rfl (fun b hb=>⟨(h3 b hb).1,(h3 b hb).2.1⟩) (fun p hp=>World.ownsRow.lt h1 p hp)
theorem bx.cap {w0 w:World}{A:Option Addr}{c:Nat}{l:List aU}(h:bx w0 w A c l):l.length≤c:=by
 obtain⟨xs,S,h1,-⟩:=h;rcases h1.2 with ⟨e,h0⟩|⟨g,cap,cur,e,-,-,hc,-⟩
 ·omega
 ·injection e with _ _ e;omega
theorem bx.push {w0 w W:World}{p cap n c:Nat}{A:Option Addr}{xs cs:List Value}{S S2:Nat→Prop}{o:aU}{l:List aU}(hn:n=l.length)
  (hb:w.grownBy W (Value.slice A n c).ownBlock) (hw:jd w (.slice A n c) (.slice (some ⟨p,0,none⟩) (n+1) cap)) (hown:W.ownsRow w0.heap.size 114 8 (.slice (some ⟨p,0,none⟩) (n+1) cap) (n+1) (xs++cs)) (hl:dO w S l xs) (hone:em w S2 o cs.toArray)
  (hS: ∀b,S b→w0.heap.size≤b∧b<w.heap.size∧ ∀p,(Value.slice A n c).ownBlock=some p→b≠p) (hS2: ∀b,S2 b→w0.heap.size≤b∧b<w.heap.size∧ ∀p,(Value.slice A n c).ownBlock=some p→b≠p):
  bx w0 W (some ⟨p,0,none⟩) cap (l++[o]):=by
 subst hn;have hlen:(l++[o]).length=l.length+1:=by simp
 have hk: ∀b,b<w.heap.size→(∀p,(Value.slice A l.length c).ownBlock=some p→b≠p)→W.heap[b]? =w.heap[b]? :=fun b h1 h3=>hb.block b h1 (fun e=>h3 b e.symm rfl);refine⟨xs++cs,fun b=>S b∨S2 b,by rw[hlen];exact hown,dO.push ((hone.keep fun b hb'=>hk b (hS2 b hb').2.1 (hS2 b hb').2.2).imp fun b h=> .inr h) ((dO.keep (fun b hb'=>hk b (hS b hb').2.1 (hS b hb').2.2) hl).imp fun b h=> .inl h),?_⟩;intro b hb';have hc:w0.heap.size≤b∧b<w.heap.size∧ ∀p,(Value.slice A l.length c).ownBlock=some p→b≠p:=hb'.elim (hS b) (hS2 b);refine⟨hc.1,Nat.lt_of_lt_of_le hc.2.1 hb.size,fun q hq=> ?_⟩;have hq:p=q:=by simpa[Value.ownBlock]using hq
 subst hq;rcases hw with hw|⟨q,hq,e⟩
 ·exact hc.2.2 p hw.symm
 ·injection e with e
  have e:p=q:=e;omega
theorem bx.alloc {w0 w:World}{A:Option Addr}{c:Nat}{l:List aU}(h:bx w0 w A c l)(o:Obj):bx w0 (w.alloc o) A c l:=by
 obtain⟨xs,S,h1,h2,h3⟩:=h;have hk: ∀b,b<w.heap.size→(w.alloc o).heap[b]? =w.heap[b]? :=fun b hb=>Below.heap_alloc w o b hb;refine⟨xs,S,⟨h1.1,h1.2.imp id ?_⟩,h2.keep fun b hb=>hk b (h3 b hb).2.1,fun b hb=>⟨(h3 b hb).1,by have:=(h3 b hb).2.1;simp;omega,(h3 b hb).2.2⟩⟩;rintro⟨q,cap,cur,e,hB,hh,hr⟩;exact⟨q,cap,cur,e,hB,(hk q (Array.getElem?_eq_some_iff.1 hh).1).trans hh,hr⟩
theorem bx.own {w0 w:World}{A:Option Addr}{c:Nat}{l:List aU}(h:bx w0 w A c l): ∀p,(Value.slice A l.length c).ownBlock=some p→w0.heap.size≤p∧p<w.heap.size:=by
 obtain⟨xs,S,h1,-⟩:=h;exact fun p hp=>World.ownsRow.lt h1 p hp
theorem gf {w:World}{B n k:Nat}{t:TypeId}{v:Value}{xs:List Value}(h:w.ownsRow B t k v n xs)(hn:0<n): ∃p cap,v= .slice (some ⟨p,0,none⟩) n cap:=by
 rcases h.2 with ⟨-,h0⟩|⟨g,cap,cur,h1,-⟩
 ·omega
 ·exact⟨g,cap,h1⟩
theorem gU (w:World)(cs:List Value)(t:TypeId): ∀j u,cs[j]? =some u→(w.alloc (.cells cs.toArray t)).cell? ((⟨w.heap.size,0,none⟩:Addr).add j)=some u:=fun j u h=>by
 rw[add_at,Nat.zero_add];exact(Go.Joins.cell_of_block (heap_alloc_new w _) j).trans (by simpa using h)
open Lib (hid)
theorem ol {w:World}{B n k:Nat}{t:TypeId}{v:Value}{xs:List Value}(h:w.ownsRow B t k v n xs): ∃A c,v= .slice A n c∧(A=none→c=0)∧n≤c:=by
 rcases h.2 with ⟨e,h0⟩|⟨g,cap,cur,e,-,-,hc,-⟩
 ·exact⟨none,0,by rw[e,h0],fun _=>rfl,by omega⟩
 ·exact⟨_,_,e,fun h=>(by cases h),hc⟩
theorem jE {α:Type}(a:Array α)(i j:Nat)(v:α):(a.setIfInBounds i v)[j]? =if i=j then(if j<a.size then some v else none)else a[j]? :=by
 rw[Array.getElem?_setIfInBounds];by_cases h:i=j
 ·subst h;simp
 ·rw[if_neg h,if_neg h]
def rdD (st:Option (List UInt8)):aU×Option (List UInt8):=
 if(ak st).1=1 then(⟨1,(bj (ak st).2).1,(aQ (bj (ak st).2).2).1,0⟩,(aQ (bj (ak st).2).2).2)
 else if(ak st).1=3 then(⟨3,(bj (ak st).2).1,ap,((ae 999 (bj (ak st).2).2).1:Nat)⟩,(ae 999 (bj (ak st).2).2).2)
 else(⟨(ak st).1,(bj (ak st).2).1,ap,0⟩,(bj (ak st).2).2)
theorem gL {fn:Func}{p:Tmp}(h:fn.results= #[.cell p 114])(tmps:Array Value)(w:World)(g:Nat)(t:TypeId)(cs:Array Value)(fr:Nat×Nat)
  (hp:tmps.getD p undef= .pointer (some ⟨g,0,none⟩)) (hg:w.heap[g]? =some (.cells cs t fr)) (hi:(Tryz.prog.info? 114).map (·.size)=some cs.size):
  (results fn tmps).run Tryz.prog w= .ok (.agg cs) w:=by
 have hp':tmps[p]?.getD undef= .pointer (some ⟨g,0,none⟩):=by simpa using hp
 have e:=run_loadVar_row w g t 114 cs fr _ hg Tryz.underlying114 rfl hi;simp[results,h,hp',asAddr,Sem.run_bind,Result.andThen,e]
theorem pX {w:World}{B n k c:Nat}{t:TypeId}{A:Option Addr}{xs:List Value}(h:w.ownsRow B t k (.slice A n c) n xs):A=none→c=0:=by
 obtain⟨A',c',e,h1,-⟩:=ol h;injection e with e1 e2 e3
 subst e1 e3;exact h1
def ww (g:Nat)(st:Option (List UInt8))(w:World)(e:Ending)(w':World):Prop:=
 ∃cs:Array Value,e= .returned (.agg cs)∧em w' (dB w.heap.size w') (rdD st).1 cs∧aN w' g (rdD st).2∧au w w' g
theorem pl {w W:World}{g:Nat}{st:Option (List UInt8)}{S:Nat→Prop}{c0 c1 c2 c3 c4 c5 c6 c7:Value}(hs:aN W g (rdD st).2)(ho:au w W g)(hg:g<w.heap.size)(h:em W S (rdD st).1 #[c0,c1,c2,c3,c4,c5,c6,c7])(hS: ∀b,S b→w.heap.size+1≤b∧b<W.heap.size):
  ww g st w (.returned (.agg #[c0,c1,c2,c3,c4,c5,c6,c7])) (gJ W w.heap.size c0 c1 c2 c3 c4 c5 c6 c7):=by
 have hz:(gJ W w.heap.size c0 c1 c2 c3 c4 c5 c6 c7).heap.size=W.heap.size:=qJ;refine⟨_,rfl,(h.keep fun b hb=>iC b (by have:=hS b hb;omega)).imp fun b hb=> ?_,hs.of (iC g (by omega)),?_⟩
 ·have:=hS b hb;exact⟨by omega,by rw[hz];omega⟩
 ·exact⟨i8.1.trans ho.os,i8.2.1.trans ho.tape,i8.2.2.trans ho.output,by rw[hz];exact ho.size,fun b hb hne=>(iC b (by omega)).trans (ho.block b hb hne)⟩
theorem tU (g:Nat)(st:Option (List UInt8))(w:World)(hs:aN w g st):Calls Tryz.prog 164 #[.pointer (some ⟨g,0,none⟩)] w (ww g st w):=by
 have hgl:=hs.lt;have HC:=hid (ft g st _ (hs.alloc (.cells #[.int .i64 0,.slice none 0 0,.int .i64 0,.int .i64 0,.string ⟨#[]⟩,.slice none 0 0,.slice none 0 0,.int .i64 0] 114)));have hr0:bC (w.alloc (.cells #[.int .i64 0,.slice none 0 0,.int .i64 0,.int .i64 0,.string ⟨#[]⟩,.slice none 0 0,.slice none 0 0,.int .i64 0] 114)) w.heap.size _ _ _ _ _ _ _ _:=bC.new w _ _ _ _ _ _ _ _;have ho0:au w (w.alloc (.cells #[.int .i64 0,.slice none 0 0,.int .i64 0,.int .i64 0,.string ⟨#[]⟩,.slice none 0 0,.slice none 0 0,.int .i64 0] 114)) g:=⟨rfl,rfl,rfl,by simp,fun b hb _=>Below.heap_alloc w _ b hb⟩;have HR0:=hid hr0;have HO0:=hid ho0;clear hs hr0 ho0;go_enter Tryz.func164,Tryz.ntmps164;go_wp2_with fail;refine HC.out.mono ?_;rintro e w1 ⟨rfl,hs1,ho1⟩;obtain⟨n,hn⟩: ∃n,n=(ak st).1:=⟨_,rfl⟩;obtain⟨s1,hs1'⟩: ∃s1,s1=(ak st).2:=⟨_,rfl⟩;rw[←hs1']at hs1;rw[←hn];have hn256:n<256:=by rw[hn];exact gp st
 have hr1:=HR0.out.only ho1 (by omega);have hl1:=hr1.lt;obtain⟨X,hX⟩: ∃X:Obj,X= .cells #[.int .i64 n,.slice none 0 0,.int .i64 0,.int .i64 0,.string ⟨#[]⟩,.slice none 0 0,.slice none 0 0,.int .i64 0] 114:=⟨_,rfl⟩;have hq2:bC (w1.alloc X) w1.heap.size (.int .i64 n) (.slice none 0 0) (.int .i64 0) (.int .i64 0) (.string ⟨#[]⟩) (.slice none 0 0) (.slice none 0 0) (.int .i64 0):=by rw[hX];exact bC.new w1 _ _ _ _ _ _ _ _
 have HN:=hid hn;have HS1:=hid hs1';have HO2:=hid ((HO0.out.trans ho1).trans (show au w1 (w1.alloc X) g from⟨rfl,rfl,rfl,by simp,fun b hb _=>Below.heap_alloc w1 _ b hb⟩));have HP:=hid (pA g s1 (w1.alloc X) (hs1.alloc X));have HR2:=hid (hr1.alloc X);have HQ2:=hid hq2;have hz2:(w1.alloc X).heap.size=w1.heap.size+1:=by simp
 have HZ2:=hid hz2;rw[hX]at HP;rw[hX]at HO2 HR2 HQ2 HZ2;clear hs1 ho1 hn hs1' HC hX HR0 HO0 hr1 hq2 hz2;go_wp2_with fail;refine HP.out.mono ?_;rintro e w3 ⟨A,c,rfl,hrow3,hs3,ho3⟩;have hcA:A=none→c=0:=pX hrow3;obtain⟨hc3,hst3⟩:=qP hrow3 (by unfold bj;exact nD _ _);have hp8:=qK s1;obtain⟨P,hP⟩: ∃P,P=(bj s1).1:=⟨_,rfl⟩;obtain⟨s2,hs2'⟩: ∃s,s=(bj s1).2:=⟨_,rfl⟩;rw[←hP]at hc3 hst3 hp8 ⊢;rw[←hs2']at hs3;have hr3:=HR2.out.only ho3 (by omega);have hq3:=HQ2.out.only ho3 (by omega);have ho4:=HO2.out.trans ho3;have hz3:w1.heap.size+1≤w3.heap.size:=by have:=ho3.size;have:=HZ2.out;omega
 have hst4:=hst3.imp (S':=fun b=>w1.heap.size+1≤b∧b<w3.heap.size) fun b hb=>by rw[HZ2.out]at hb;exact hb
 obtain⟨w4,hw4⟩: ∃W,W=w3.setCell ⟨w1.heap.size,1,none⟩ (.slice A P.length c):=⟨_,rfl⟩;have k4: ∀b,b≠w1.heap.size→w4.heap[b]? =w3.heap[b]? :=fun b hb=>by rw[hw4];exact heap_setCell_other _ ⟨w1.heap.size,1,none⟩ b _ hb
 have z4:w4.heap.size=w3.heap.size:=by rw[hw4];simp
 have hq4:=hq3.set1 (.slice A P.length c);rw[←hw4]at hq4;have hr4:=hr3.other w1.heap.size 1 (.slice A P.length c) (by omega);rw[←hw4]at hr4;have hs4:aN w4 g s2:=hs3.of (k4 g (by omega));have ho5:au w w4 g:=⟨by rw[hw4];exact ho4.os,by rw[hw4];exact ho4.tape,by rw[hw4];exact ho4.output,by rw[z4];exact ho4.size,fun b hb hne=>(k4 b (by omega)).trans (ho4.block b hb hne)⟩;have hst5:aD w4 (fun b=>w1.heap.size+1≤b∧b<w4.heap.size) A P:=(hst4.keep fun b hb=>k4 b (by omega)).imp fun b hb=>by rw[z4];exact hb
 have HQ4:=hid hq4;have HR4:=hid hr4;have HS4:=hid hs4;have HO5:=hid ho5;have HST:=hid hst5;have HPP:=hid (And.intro hP hs2');have HC3:=hid (And.intro hc3 hcA);have HZ4:=hid (show w1.heap.size+1≤w4.heap.size by omega);have HL:=hid (And.intro hl1 hp8);have HN256:=hid hn256;have HP6:=hid (cD g s2 999 w4 hs4 (by omega));have HV6:=hid (hY g s2 w4 hs4);have q3f:=fun i=>hq3.free i;have q30:=hq3.g0;have q31:=hq3.g1;have q32:=hq3.g2;have q33:=hq3.g3;have q34:=hq3.g4;have q35:=hq3.g5;have q36:=hq3.g6;have q37:=hq3.g7;have r3f:=fun i=>hr3.free i;clear hrow3 hs3 ho3 hcA hc3 hst3 hP hs2' hr3 hq3 ho4 hst4 k4 z4 hq4 hr4 hs4 ho5 hst5 HP HO2 HR2 HQ2 HZ2 hz3 hp8 hn256;by_cases h1:n=1
 ·have d1:((n:Int) == 1)=true:=beq_iff_eq.2 (by omega);have H6:=hid h1;rw[hw4]at HV6;clear HP6 h1;go_wp2_with fail;refine HV6.out.mono ?_;rintro e w5 ⟨v,rfl,hs5,ho5,hv5⟩;rw[←hw4]at ho5 hv5;obtain⟨VA,vc,VA',vc',rfl,-⟩:=hv5.shape;obtain⟨t,ht⟩: ∃t,t=(aQ s2).1:=⟨_,rfl⟩;obtain⟨s3,hs3'⟩: ∃s,s=(aQ s2).2:=⟨_,rfl⟩;rw[←ht]at hv5 ⊢;rw[←hs3']at hs5;have hz4:=HZ4.out;have hl:=HL.out;have hz5:=ho5.size;have hq5:=HQ4.out.only ho5 (by omega);have hr5:=HR4.out.only ho5 (by omega);obtain⟨w6,hw6⟩: ∃W,W=cX w5 w1.heap.size 2 (.int .i64 t.kind) (.int .i64 t.num) (.string t.text) (.slice VA t.items.length vc) (.slice VA' t.names.length vc'):=⟨_,rfl⟩;have k6: ∀b,b≠w1.heap.size→w6.heap[b]? =w5.heap[b]? :=fun b hb=>by rw[hw6];exact bi _ _ _ _ _ _ _ _ b hb
  have z6:w6.heap.size=w5.heap.size:=by rw[hw6];exact cK _ _ _ _ _ _ _ _
  have hq6:bC (cX w5 w1.heap.size 2 (.int .i64 t.kind) (.int .i64 t.num) (.string t.text) (.slice VA t.items.length vc) (.slice VA' t.names.length vc')) w1.heap.size _ _ _ _ _ _ _ _:=((((hq5.set2 (.int .i64 t.kind)).set3 (.int .i64 t.num)).set4 (.string t.text)).set5 (.slice VA t.items.length vc)).set6 (.slice VA' t.names.length vc');have hr6:bC w6 w.heap.size _ _ _ _ _ _ _ _:=(k6 w.heap.size (by omega)).trans hr5;rw[←hw6]at hq6;have hs6:aN w6 g s3:=hs5.of (k6 g (by omega))
  have ho6:au w w6 g:=by
   have h:=HO5.out.trans ho5;have r:=eE w5 w1.heap.size 2 (.int .i64 t.kind) (.int .i64 t.num) (.string t.text) (.slice VA t.items.length vc) (.slice VA' t.names.length vc');rw[←hw6]at r;exact⟨r.1.trans h.os,r.2.1.trans h.tape,r.2.2.trans h.output,by rw[z6];exact h.size,fun b hb hne=>(k6 b (by omega)).trans (h.block b hb hne)⟩
  have hv6:LV w6 (fun b=>w1.heap.size+1≤b∧b<w6.heap.size) t _:=(hv5.keep fun b hb=>k6 b (by have:=hb.1;omega)).imp fun b hb=>⟨by have:=hb.1;omega,by rw[z6];exact hb.2⟩;have hsp6:aD w6 (fun b=>w1.heap.size+1≤b∧b<w6.heap.size) A P:=(HST.out.keep fun b hb=>(k6 b (by have:=hb.1;omega)).trans (ho5.block b hb.2 (by rintro⟨⟩;have:=hb.1;omega))).imp fun b hb=>⟨hb.1,by have:=hb.2;omega⟩;have HQ6:=hid hq6;have HR6:=hid hr6;have HX6:=hid (And.intro hs6 (And.intro ho6 (And.intro hv6 (And.intro hsp6 (And.intro ht hs3')))));have q5f:=fun i=>hq5.free i;have u2:=hq5.g2;have u3:=hq5.g3;have u4:=hq5.g4;have u5:=hq5.g5;have u6:=hq5.g6;clear hs5 ho5 hv5 ht hs3' hq5 hr5 k6 z6 hs6 ho6 hv6 hsp6 HV6 HQ4 HR4 HS4 HO5 HST hw4;clear q3f q30 q31 q32 q33 q34 q35 q36 q37 r3f;subst hw6;have z4f:=fun i=>hq6.free i;have r4f:=fun i=>hr6.free i;have z0:=hq6.g0;have z1:=hq6.g1;have z2:=hq6.g2;have z3:=hq6.g3;have z4:=hq6.g4;have z5:=hq6.g5;have z6:=hq6.g6;have z7:=hq6.g7;have y0:=hr6.g0;have y1:=hr6.g1;have y2:=hr6.g2;have y3:=hr6.g3;have y4:=hr6.g4;have y5:=hr6.g5;have y6:=hr6.g6;have y7:=hr6.g7;clear hq6 hr6;simp only[cX]at z4f r4f z0 z1 z2 z3 z4 z5 z6 z7 y0 y1 y2 y3 y4 y5 y6 y7;go_wp2_with fail;refine bodyPost_ret (gL rfl _ _ w.heap.size 114 _ (0,0) rfl (jP HR6.out) (by kernel_rfl)) rfl ?_;have h1:=H6.out;subst h1;obtain⟨hs6,ho6,hv6,hsp6,ht,hs3'⟩:=HX6.out
  have e0:rdD st=(⟨1,P,t,0⟩,s3):=by
   unfold rdD;rw[if_pos HN.out.symm,←HS1.out,←HPP.out.1,←HPP.out.2,←ht,←hs3']
  refine pl (S:=fun b=>w1.heap.size+1≤b∧b<(cX w5 w1.heap.size 2 (.int .i64 t.kind) (.int .i64 t.num) (.string t.text) (.slice VA t.items.length vc) (.slice VA' t.names.length vc')).heap.size) (by rw[e0];exact hs6) ho6 hgl ?_ (fun b hb=>⟨by omega,hb.2⟩);rw[e0];have hn:=HN256.out;exact⟨A,c,_,_,_,_,rfl,hv6,hsp6,HC3.out.1,HC3.out.2,jF (k:=1) (by decide) (by decide),jF (k:=0) (by decide) (by decide),by show P.length≤_;omega⟩
 ·have d1:((n:Int) == 1)=false:=beq_eq_false_iff_ne.2 (by omega);have hg4:g<w4.heap.size:=HS4.out.lt;by_cases h6:n=3
  ·have d6:((n:Int) == 3)=true:=beq_iff_eq.2 (by omega);have H6:=hid h6;rw[hw4]at HP6;clear HV6 h6 h1;go_wp2_with fail;refine HP6.out.mono ?_;rintro e w5 ⟨rfl,hs5,ho5⟩;rw[←hw4]at ho5;have hT9:(ae 999 s2).1≤999:=aZ 999 s2 (by omega);obtain⟨T,hT⟩: ∃T,T=(ae 999 s2).1:=⟨_,rfl⟩;obtain⟨s3,hs3'⟩: ∃s,s=(ae 999 s2).2:=⟨_,rfl⟩;rw[←hT]at hT9 ⊢;rw[←hs3']at hs5;have hz4:=HZ4.out;have hl:=HL.out;have hz5:=ho5.size;have hq5:=HQ4.out.only ho5 (by omega);have hr5:=HR4.out.only ho5 (by omega);obtain⟨w6,hw6⟩: ∃W,W=w5.setCell ⟨w1.heap.size,7,none⟩ (.int .i64 T):=⟨_,rfl⟩;have k6: ∀b,b≠w1.heap.size→w6.heap[b]? =w5.heap[b]? :=fun b hb=>by rw[hw6];exact heap_setCell_other _ ⟨w1.heap.size,7,none⟩ b _ hb
   have z6:w6.heap.size=w5.heap.size:=by rw[hw6];simp
   have hq6:=hq5.set7 (.int .i64 T);rw[←hw6]at hq6;have hr6:=hr5.other w1.heap.size 7 (.int .i64 T) (by omega);rw[←hw6]at hr6;have hs6:aN w6 g s3:=hs5.of (k6 g (by omega))
   have ho6:au w w6 g:=by
    have h:=HO5.out.trans ho5;exact⟨by rw[hw6];exact h.os,by rw[hw6];exact h.tape,by rw[hw6];exact h.output,by rw[z6];exact h.size,fun b hb hne=>(k6 b (by omega)).trans (h.block b hb hne)⟩
   have hsp6:aD w6 (fun b=>w1.heap.size+1≤b∧b<w6.heap.size) A P:=(HST.out.keep fun b hb=>(k6 b (by have:=hb.1;omega)).trans (ho5.block b hb.2 (by rintro⟨⟩;have:=hb.1;omega))).imp fun b hb=>⟨hb.1,by have:=hb.2;omega⟩;have HQ6:=hid hq6;have HR6:=hid hr6;have HX6:=hid (And.intro hs6 (And.intro ho6 (And.intro hsp6 (And.intro hT9 (And.intro hT hs3')))));have q5f:=fun i=>hq5.free i;have u7:=hq5.g7;clear hs5 ho5 hT9 hT hs3' hq5 hr5 k6 z6 hs6 ho6 hsp6 HP6 HQ4 HR4 HS4 HO5 HST hw4;clear q3f q30 q31 q32 q33 q34 q35 q36 q37 r3f;subst hw6;have z4f:=fun i=>hq6.free i;have r4f:=fun i=>hr6.free i;have z0:=hq6.g0;have z1:=hq6.g1;have z2:=hq6.g2;have z3:=hq6.g3;have z4:=hq6.g4;have z5:=hq6.g5;have z6:=hq6.g6;have z7:=hq6.g7;have y0:=hr6.g0;have y1:=hr6.g1;have y2:=hr6.g2;have y3:=hr6.g3;have y4:=hr6.g4;have y5:=hr6.g5;have y6:=hr6.g6;have y7:=hr6.g7;clear hq6 hr6;go_wp2_with fail;refine bodyPost_ret (gL rfl _ _ w.heap.size 114 _ (0,0) rfl (jP HR6.out) (by kernel_rfl)) rfl ?_;have h6:=H6.out;subst h6;obtain⟨hs6,ho6,hsp6,hT9,hT,hs3'⟩:=HX6.out
   have e0:rdD st=(⟨3,P,ap,(T:Nat)⟩,s3):=by
    unfold rdD;rw[if_neg (by rw[←HN.out];decide),if_pos HN.out.symm,←HS1.out,←HPP.out.1,←HPP.out.2,←hT,←hs3']
   refine pl (S:=fun b=>w1.heap.size+1≤b∧b<(w5.setCell ⟨w1.heap.size,7,none⟩ (.int .i64 T)).heap.size) (by rw[e0];exact hs6) ho6 hgl ?_ (fun b hb=>⟨by omega,hb.2⟩);rw[e0];exact⟨A,c,none,0,none,0,rfl,eU _ _ _ _ _ (by unfold Rng;omega) (by unfold Rng;omega) (by decide),hsp6,HC3.out.1,HC3.out.2,jF (k:=3) (by decide) (by decide),(by unfold Rng;show(_:Int)≤((T:Nat):Int)∧((T:Nat):Int)≤_;omega),by show P.length≤_;omega⟩
  ·have d3:((n:Int) == 3)=false:=beq_eq_false_iff_ne.2 (by omega);have H2:=hid (And.intro h1 h6);clear h1 h6;subst hw4;clear HP6 HV6;have hq4:=HQ4.out;have hr4:=HR4.out;have z4f:=fun i=>hq4.free i;have r4f:=fun i=>hr4.free i;have z0:=hq4.g0;have z1:=hq4.g1;have z2:=hq4.g2;have z3:=hq4.g3;have z4:=hq4.g4;have z5:=hq4.g5;have z6:=hq4.g6;have z7:=hq4.g7;have y0:=hr4.g0;have y1:=hr4.g1;have y2:=hr4.g2;have y3:=hr4.g3;have y4:=hr4.g4;have y5:=hr4.g5;have y6:=hr4.g6;have y7:=hr4.g7;clear hq4 hr4;go_wp2_with fail;refine bodyPost_ret (gL rfl _ _ w.heap.size 114 _ (0,0) rfl (jP HR4.out) (by kernel_rfl)) rfl ?_
   have e0:rdD st=(⟨n,P,ap,0⟩,s2):=by
    obtain⟨h1,h3⟩:=H2.out;unfold rdD;rw[if_neg (by rw[←HN.out];omega),if_neg (by rw[←HN.out];omega),←HN.out,←HS1.out,←HPP.out.1,←HPP.out.2]
   have hl:=HL.out;refine pl (S:=fun b=>w1.heap.size+1≤b∧b<(w3.setCell ⟨w1.heap.size,1,none⟩ (.slice A P.length c)).heap.size) (by rw[e0];exact HS4.out) HO5.out hgl ?_ (fun b hb=>⟨by omega,hb.2⟩);rw[e0];have hn:=HN256.out;exact⟨A,c,none,0,none,0,rfl,eU _ _ _ _ _ (by unfold Rng;omega) (by unfold Rng;omega) (by decide),HST.out,HC3.out.1,HC3.out.2,jF (k:=(n:Int)) (by omega) (by omega),jF (k:=0) (by decide) (by decide),by show P.length≤_;omega⟩
theorem uf (S:Nat→Prop)(d:aU)(cs:Array Value)(w:World)(hS: ∀b,S b→b<w.heap.size)(h:em w S d cs)(hd:av d.val≤4611686018427387903):
  Calls Tryz.prog 154 #[.agg cs] w fun e w'=>e= .returned (.bool (cl d))∧Below w.heap.size w w':=by
 obtain⟨PA,pc,VA,vc,VA',vc',rfl,hv,hp,hpc,hpn,hk,hn,hpl⟩:=h;obtain⟨w1,hw1⟩: ∃W,W=w.alloc (.cells #[.int .i64 d.kind,.slice PA d.path.length pc,.int .i64 d.val.kind,.int .i64 d.val.num,.string d.val.text,.slice VA d.val.items.length vc,.slice VA' d.val.names.length vc',.int .i64 d.num] 114):=⟨_,rfl⟩;have hbk:w1.heap[w.heap.size]? =some (.cells #[.int .i64 d.kind,.slice PA d.path.length pc,.int .i64 d.val.kind,.int .i64 d.val.num,.string d.val.text,.slice VA d.val.items.length vc,.slice VA' d.val.names.length vc',.int .i64 d.num] 114 (0,0)):=by rw[hw1];exact heap_alloc_new w _
 have hb1:Below w.heap.size w w1:=by rw[hw1];exact(Below.refl _ _).alloc (Nat.le_refl _) _
 have y0:=Go.Joins.cell_of_block hbk 0;have y1:=Go.Joins.cell_of_block hbk 1;have y2:=Go.Joins.cell_of_block hbk 2;have y3:=Go.Joins.cell_of_block hbk 3;have y4:=Go.Joins.cell_of_block hbk 4;have y5:=Go.Joins.cell_of_block hbk 5;have y6:=Go.Joins.cell_of_block hbk 6;have y7:=Go.Joins.cell_of_block hbk 7;have hS1: ∀b,S b→b<w1.heap.size:=fun b hb=>Nat.lt_of_lt_of_le (hS b hb) hb1.size;have hv1:=hv.keep fun b hb=>hb1.block b (hS b hb);have HMA:=hid (vR PA pc d.path w1 S (hp.keep fun b hb=>hb1.block b (hS b hb)) (by omega));have HCK:=hid (gk S d.val _ w1 hS1 hv1 hd);have HNO:=hid (mT S d.val _ w1 hS1 hv1);have HBK:=hid hbk;have HB1:=hid hb1;have HW1:=hid hw1;have HS:=hid hS;obtain⟨r,hr⟩: ∃r,r=cl d:=⟨_,rfl⟩;have HR:=hid hr;rw[←hr];clear hbk hb1 hS1 hv1 hv hp hpc hpn hk hn hpl hd hS hr;go_enter Tryz.func154,Tryz.ntmps154;go_wp2_with fail;rw[←hw1];clear hw1;refine HMA.out.mono ?_;rintro e w2 ⟨rfl,rfl⟩;clear HMA;cases hmp:jC d.path
 ·go_wp2_with fail;go_ret;exact⟨by rw[HR.out];unfold cl;rw[hmp];rfl,HB1.out⟩
 have HMP:=hid hmp;clear hmp;obtain⟨k,hk⟩: ∃k,k=d.kind:=⟨_,rfl⟩;rw[←hk]at y0;have HK:=hid hk.symm;clear hk;by_cases k1:k=1
 ·subst k1;go_wp2_with fail;refine HCK.out.mono ?_;rintro e w3 ⟨rfl,hb3⟩;have HB3:=hid (HB1.out.trans (hb3.mono HB1.out.size));have HBK3:=(hb3.block _ (Array.getElem?_eq_some_iff.1 HBK.out).1).trans HBK.out;have z7:=Go.Joins.cell_of_block HBK3 7;obtain⟨b1,d1⟩: ∃b,(bh d.val == 0)=b:=⟨_,rfl⟩;obtain⟨b2,d2⟩: ∃b,(d.num == 0)=b:=⟨_,rfl⟩
  have HE:Hid (cl d=(b1 && b2)):=hid (by
   rw[←d1,←d2];unfold cl;rw[HMP.out,HK.out];rw[Bool.eq_iff_iff]
   simp)
  clear hb3 HBK3 HCK;cases b1<;>cases b2
  all_goals
   go_wp2_with fail;go_ret;exact⟨by rw[HR.out,HE.out];rfl,HB3.out⟩
 have e1:=beq_false_of_ne k1;by_cases k2:k=2
 ·subst k2;go_wp2_with fail;refine HNO.out.mono ?_;rintro e w3 ⟨rfl,hb3⟩;have HB3:=hid (HB1.out.trans (hb3.mono HB1.out.size));have HBK3:=(hb3.block _ (Array.getElem?_eq_some_iff.1 HBK.out).1).trans HBK.out;have z7:=Go.Joins.cell_of_block HBK3 7;obtain⟨b1,d1⟩: ∃b,b8 d.val=b:=⟨_,rfl⟩;obtain⟨b2,d2⟩: ∃b,(d.num == 0)=b:=⟨_,rfl⟩
  have HE:Hid (cl d=(b1 && b2)):=hid (by
   rw[←d1,←d2];unfold cl;rw[HMP.out,HK.out];rw[Bool.eq_iff_iff]
   simp)
  clear hb3 HBK3 HNO;cases b1<;>cases b2
  all_goals
   go_wp2_with fail;go_ret;exact⟨by rw[HR.out,HE.out];rfl,HB3.out⟩
 have e2:=beq_false_of_ne k2;by_cases k3:k=3
 ·subst k3;go_wp2_with fail;refine HNO.out.mono ?_;rintro e w3 ⟨rfl,hb3⟩;have HB3:=hid (HB1.out.trans (hb3.mono HB1.out.size));have HBK3:=(hb3.block _ (Array.getElem?_eq_some_iff.1 HBK.out).1).trans HBK.out;have z7:=Go.Joins.cell_of_block HBK3 7;obtain⟨b1,d1⟩: ∃b,b8 d.val=b:=⟨_,rfl⟩;obtain⟨b2,d2⟩: ∃b,decide (d.num≥0)=b:=⟨_,rfl⟩;obtain⟨b3,d3⟩: ∃b,decide (d.num≤999)=b:=⟨_,rfl⟩
  have HE:Hid (cl d=(b1 && (b2 && b3))):=hid (by
   rw[←d1,←d2,←d3];unfold cl;rw[HMP.out,HK.out];rw[Bool.eq_iff_iff]
   simp)
  clear hb3 HBK3 HNO;cases b1<;>cases b2<;>cases b3
  all_goals
   go_wp2_with fail;go_ret;exact⟨by rw[HR.out,HE.out];rfl,HB3.out⟩
 have e3:=beq_false_of_ne k3
 have HN:Hid (cl d=false):=hid (by
  unfold cl;rw[HK.out]
  simp[k1,k2,k3])
 clear k1 k2 k3;go_wp2_with fail;go_ret;exact⟨by rw[HR.out,HN.out];rfl,HB1.out⟩
theorem lZ {α:Type}{p:α→Bool}{l:List α}(h: ∀j (h:j<l.length),p l[j]=true):l.all p=true:=by
 rw[List.all_eq_true];intro x hx;obtain⟨j,hj,rfl⟩:=List.mem_iff_getElem.1 hx;exact h j hj
theorem oV {α:Type}{p:α→Bool}{l:List α}{j:Nat}(hj:j<l.length)(h:p l[j]=false):l.all p=false:=by
 rw[List.all_eq_false];exact⟨l[j],List.getElem_mem hj,by rw[h];simp⟩
theorem pt (S:Nat→Prop)(d:aU)(cs:Array Value)(w:World)(hS: ∀b,S b→b<w.heap.size)(h:em w S d cs)(hd:av d.val≤4611686018427387903):
  Calls Tryz.prog 153 #[.agg cs] w fun e w'=>e= .returned (.bool (!cl d))∧Below w.heap.size w w':=by
 obtain⟨PA,pc,VA,vc,VA',vc',rfl,hv,hp,hpc,hpn,hk,hn,hpl⟩:=id h;obtain⟨w1,hw1⟩: ∃W,W=w.alloc (.cells #[.int .i64 d.kind,.slice PA d.path.length pc,.int .i64 d.val.kind,.int .i64 d.val.num,.string d.val.text,.slice VA d.val.items.length vc,.slice VA' d.val.names.length vc',.int .i64 d.num] 114):=⟨_,rfl⟩;have hbk:w1.heap[w.heap.size]? =some (.cells #[.int .i64 d.kind,.slice PA d.path.length pc,.int .i64 d.val.kind,.int .i64 d.val.num,.string d.val.text,.slice VA d.val.items.length vc,.slice VA' d.val.names.length vc',.int .i64 d.num] 114 (0,0)):=by rw[hw1];exact heap_alloc_new w _
 have hb1:Below w.heap.size w w1:=by rw[hw1];exact(Below.refl _ _).alloc (Nat.le_refl _) _
 have y0:=Go.Joins.cell_of_block hbk 0;have y1:=Go.Joins.cell_of_block hbk 1;have y2:=Go.Joins.cell_of_block hbk 2;have y3:=Go.Joins.cell_of_block hbk 3;have y4:=Go.Joins.cell_of_block hbk 4;have y5:=Go.Joins.cell_of_block hbk 5;have y6:=Go.Joins.cell_of_block hbk 6;have y7:=Go.Joins.cell_of_block hbk 7;have HM:=hid (uf S d _ w1 (fun b hb=>Nat.lt_of_lt_of_le (hS b hb) hb1.size) (h.below hS hb1) hd);have HB1:=hid hb1;clear hbk hb1 h hv hp hpc hpn hk hn hpl hS hd;go_enter Tryz.func153,Tryz.ntmps153;go_wp2_with fail;rw[←hw1];refine HM.out.mono ?_;rintro e w2 ⟨rfl,hb2⟩;have HB2:=hid (HB1.out.trans (hb2.mono HB1.out.size));clear hb2;clear HM;go_wp2_with fail;go_ret;exact⟨rfl,HB2.out⟩
theorem xi (S:Nat→Prop)(A:Option Addr)(c:Nat)(l:List aU)(w:World)(hS: ∀b,S b→b<w.heap.size)(h:bQ w S A l)(hn:l.length≤140737488351232)(hd:eT l):
  Calls Tryz.prog 175 #[.slice A l.length c,.func (.func 153) #[] #[]] w fun e w'=>(∃i:Int,e= .returned (.int .i64 i)∧decide (0≤i)=(!(l.all cl)))∧Below w.heap.size w w':=by
 have H:=hid h;have HS:=hid hS;have HD:=hid hd;have HN:=hid hn;clear h hS hd;go_enter Tryz.func175,Tryz.ntmps175;go_wp2_with fail
 go_loopw [8] (fun i wr=> ∃k:Nat,i= .int .i64 k∧k≤l.length∧Hid (Below w.heap.size w wr)∧Hid (∀j (h:j<l.length),j<k→cl l[j]=true)) (fun i _=>l.length - (intOf i).toNat)
 case atStart=>exact⟨0,rfl,by omega,hid (Below.refl _ _),hid fun j _ h=>absurd h (by omega)⟩
 case round=>
  obtain⟨k,rfl,hk,HB,HJ⟩:=hrel;by_cases hlt:k<l.length
  ·have hS2: ∀b,S b→b<wr.heap.size:=fun b hb=>Nat.lt_of_lt_of_le (HS.out b hb) HB.out.size;obtain⟨bp,off,PA,pc,VA,vc,VA',vc',rfl,hpS,ho,x0,x1,x2,x3,x4,x5,x6,x7⟩:=(H.out.below HS.out HB.out).cells k hlt;have HC:=hid (pt S l[k] _ wr hS2 ho (HD.out _ (List.getElem_mem hlt)));clear ho hS2 hpS;go_wp2_with fail;refine HC.out.mono ?_;rintro e u ⟨rfl,hb⟩;have HB2:=hid (HB.out.trans (hb.mono HB.out.size));clear hb HC x0 x1 x2 x3 x4 x5 x6 x7;cases hm:cl l[k]
   ·have HM:=hid hm;clear hm;go_wp2_with fail;go_ret;exact⟨⟨k,rfl,by rw[oV hlt HM.out];simp⟩,HB2.out⟩
   ·have HM:=hid hm;clear hm;go_wp2_with fail
    go_roundw
    case rel=>exact⟨k+1,by go_num,by omega,HB2,hid fun j h hjk=>by
     by_cases e:j=k
     ·subst e;exact HM.out
     ·exact HJ.out j h (by omega)⟩
    case measure=>simp[intOf];omega
  ·go_wp2_with fail;go_ret;exact⟨⟨-1,rfl,by rw[lZ fun j h=>HJ.out j h (by omega)];rfl⟩,HB.out⟩
theorem uE (S:Nat→Prop)(A:Option Addr)(c:Nat)(l:List aU)(w:World)(hS: ∀b,S b→b<w.heap.size)(h:bQ w S A l)(hn:l.length≤140737488351232)(hd:eT l):
  Calls Tryz.prog 152 #[.slice A l.length c,.func (.func 153) #[] #[]] w fun e w'=>e= .returned (.bool (!(l.all cl)))∧Below w.heap.size w w':=by
 have HC:=hid (xi S A c l w hS h hn hd);clear h hS hd;go_enter Tryz.func152,Tryz.ntmps152;go_wp2_with fail;refine HC.out.mono ?_;rintro e u ⟨⟨i,rfl,hi⟩,hb⟩;have HI:=hid hi;have HB:=hid hb;clear hi hb HC;go_wp2_with fail;go_ret;exact⟨aP HI.out,HB.out⟩
theorem ls (S:Nat→Prop)(A:Option Addr)(c:Nat)(l:List aU)(w:World)(hS: ∀b,S b→b<w.heap.size)(h:bQ w S A l)(hn:l.length≤140737488351232)(hd:eT l):
  Calls Tryz.prog 136 #[.slice A l.length c] w fun e w'=>e= .returned (.int .i64 (bK l))∧Below w.heap.size w w':=by
 have HC:=hid (uE S A c l w hS h hn hd);clear h hS hd;obtain⟨r,hr⟩: ∃r,r=bK l:=⟨_,rfl⟩;have HR:=hid hr;rw[←hr];clear hr;go_enter Tryz.func136,Tryz.ntmps136;by_cases h64:64<l.length
 ·have d1:decide ((l.length:Int)>64)=true:=decide_eq_true (by omega);go_wp2_with fail;go_ret;exact⟨by rw[HR.out];unfold bK;rw[if_pos h64];rfl,Below.refl _ _⟩
 ·have d1:decide ((l.length:Int)>64)=false:=decide_eq_false (by omega);have H64:=hid h64;clear h64;go_wp2_with fail;refine HC.out.mono ?_;rintro e u ⟨rfl,hb⟩;have HB:=hid hb;clear hb HC;cases ha:l.all cl
  ·have HA:=hid ha;clear ha;go_wp2_with fail;go_ret;exact⟨by rw[HR.out];unfold bK;rw[if_neg H64.out,HA.out];rfl,HB.out⟩
  ·have HA:=hid ha;clear ha;go_wp2_with fail;go_ret;exact⟨by rw[HR.out];unfold bK;rw[if_neg H64.out,HA.out];rfl,HB.out⟩
end Go.Proofs.YtgfidiocmiolpaaGreat
