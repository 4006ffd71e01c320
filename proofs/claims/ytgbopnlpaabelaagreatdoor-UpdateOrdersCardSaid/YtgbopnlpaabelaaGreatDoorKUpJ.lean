/- What operators answer, by the program: rows of changes. -/
import Derived.Test.YtgbopnlpaabelaaGreatDoorKTrE
import Derived.Test.YtgbopnlpaabelaaGreatDoorKOpenDl
import Derived.Test.YtgbopnlpaabelaaGreatDoorKTrI
import Derived.Test.YtgbopnlpaabelaaGreatDoorKSpM
import Derived.Test.YtgbopnlpaabelaaGreatDoorKSpJ
import Derived.Test.YtgbopnlpaabelaaGreatDoorKTrA
import Derived.Test.YtgbopnlpaabelaaGreatDoorKDlD
import Derived.Test.YtgbopnlpaabelaaGreatDoorKValF
import Derived.Test.YtgbopnlpaabelaaGreatDoorKMath
import Derived.Test.YtgbopnlpaabelaaGreatDoorKValQ
import Derived.Maps.AppendAt
set_option maxHeartbeats 64000000
set_option maxRecDepth 100000
set_option linter.unusedVariables false
set_option linter.unusedSimpArgs false
namespace Go.Proofs.YtgbopnlpaabelaaGreatDoor
open Lib (hid)
open Go.RowKit
def OpR (P:Nat→Prop)(r:Int×List au)(w:World)(e:Ending)(w':World):Prop:=
 ∃A c,e= .returned (.tuple #[.slice A r.2.length c,.int .i64 r.1])∧dl w' (fun b=>(P b∧b<w.heap.size)∨New w.heap.size w' b) A r.2∧(A=none→c=0∧r.2= [])∧r.2.length≤c∧Below w.heap.size w w'
theorem Ap {w:World}{S:Nat→Prop}{A:Option Addr}:dl w S A []:=fun h=>absurd h (by simp)
theorem OpR.no {P:Nat→Prop}{w w':World}(x:Int)(hb:Below w.heap.size w w'):OpR P (x,[]) w (.returned (.tuple #[.slice none 0 0,.int .i64 x])) w':=⟨none,0,rfl,Ap,fun _=>⟨rfl,rfl⟩,Nat.le_refl _,hb⟩
theorem xL {w:World}{S:Nat→Prop}{d:au}{g:Nat}{cs:Array Value}{t:TypeId}(hg:w.heap[g]? =some (.cells cs t (0,0)))(hS:S g)(h:cQ w S d cs):dl w S (some ⟨g,0,none⟩) [d]:=fun _=>
 ⟨g,0,rfl,hS,fun i hi=>by
  obtain rfl:i=0:=by simpa using hi
  exact⟨cs,fun j v hv=>by
   have:=Go.Joins.cell_of_block (w:=w) hg j;rw[show 0+0 * 8+j=j by omega]
   exact this.trans hv,h⟩⟩
theorem OpR.one {P:Nat→Prop}{w w4:World}{d:au}{g:Nat}{cs:Array Value}{t:TypeId}(hb:Below w.heap.size w w4)(hg:w4.heap[g]? =some (.cells cs t (0,0)))(h0:w.heap.size≤g)(hd:cQ w4 (fun b=>(P b∧b<w.heap.size)∨New w.heap.size w4 b) d cs):OpR P (0,[d]) w (.returned (.tuple #[.slice (some ⟨g,0,none⟩) 1 1,.int .i64 0])) w4:=
 ⟨some ⟨g,0,none⟩,1,rfl,xL hg (.inr ⟨h0,(Array.getElem?_eq_some_iff.1 hg).1⟩) hd,fun e=>(by cases e),Nat.le_refl _,hb⟩
theorem Bt :Rng 1:=⟨by decide,by decide⟩
theorem BF :Rng 2:=⟨by decide,by decide⟩
theorem AI :Rng 0:=⟨by decide,by decide⟩
theorem ln {w:World}{S:Nat→Prop}{A:Option Addr}{p:List ByteArray}{c:Nat}(hp:ai w S A p)(h0:0<p.length)(hc:p.length≤c)(hl:p.length≤8796093021952):cQ w S (fe p) #[.int .i64 2,.slice A p.length c,.int .i64 0,.int .i64 0,.string ⟨#[]⟩,.slice none 0 0,.slice none 0 0,.int .i64 0]:=by
 obtain⟨b,off,hA,-⟩:=hp h0;exact⟨A,c,none,0,none,0,rfl,ic w S,hp,hc,fun e=>(by rw[hA]at e;cases e),BF,AI,hl⟩
theorem em {w:World}{S:Nat→Prop}{A:Option Addr}{p:List ByteArray}{c:Nat}{x:VT}{VA:Option Addr}{vc:Nat}{VA':Option Addr}{vc':Nat}(hp:ai w S A p)(h0:0<p.length)(hc:p.length≤c)(hl:p.length≤8796093021952)
  (hx:LV w S x (.agg #[.int .i64 x.kind,.int .i64 x.num,.string x.text,.slice VA x.items.length vc,.slice VA' x.names.length vc'])):cQ w S (ec p x) #[.int .i64 1,.slice A p.length c,.int .i64 x.kind,.int .i64 x.num,.string x.text,.slice VA x.items.length vc,.slice VA' x.names.length vc',.int .i64 0]:=by
 obtain⟨b,off,hA,-⟩:=hp h0;exact⟨A,c,VA,vc,VA',vc',rfl,hx,hp,hc,fun e=>(by rw[hA]at e;cases e),Bt,AI,hl⟩
structure fd (S:Nat→Prop)(o:OpT)(X:VT)(f ia:Bool)(W w:World)(PA:Option Addr)(pc:Nat)(VA:Option Addr)(vc:Nat)(VA':Option Addr)(vc':Nat)(TA:Option Addr)(tc:Nat)(XA:Option Addr)(xc:Nat)(XA':Option Addr)(xc':Nat):Prop where
 ob:w.heap[W.heap.size]? =some (.cells #[.int .i64 o.kind,.slice PA o.path.length pc,.int .i64 o.val.kind,.int .i64 o.val.num,.string o.val.text,.slice VA o.val.items.length vc,.slice VA' o.val.names.length vc',.slice TA o.to.length tc] 51 (0,0))
 sb:w.heap[W.heap.size+1]? =some (.cells #[.int .i64 X.kind,.int .i64 X.num,.string X.text,.slice XA X.items.length xc,.slice XA' X.names.length xc',.bool f,.bool ia] 79 (0,0))
 below:Below W.heap.size W w
 size:W.heap.size+2≤w.heap.size
section
variable {S :Nat→Prop} {o:OpT} {X:VT} {f ia:Bool} {W w w':World} {PA:Option Addr} {pc:Nat} {VA:Option Addr} {vc:Nat} {VA':Option Addr} {vc':Nat} {TA:Option Addr} {tc:Nat} {XA:Option Addr} {xc:Nat} {XA':Option Addr} {xc':Nat}
theorem fd.new :fd S o X f ia W ((W.alloc (.cells #[.int .i64 o.kind,.slice PA o.path.length pc,.int .i64 o.val.kind,.int .i64 o.val.num,.string o.val.text,.slice VA o.val.items.length vc,.slice VA' o.val.names.length vc',.slice TA o.to.length tc] 51)).alloc (.cells #[.int .i64 X.kind,.int .i64 X.num,.string X.text,.slice XA X.items.length xc,.slice XA' X.names.length xc',.bool f,.bool ia] 79)) PA pc VA vc VA' vc' TA tc XA xc XA' xc':=by
 have hz1:(W.alloc (.cells #[.int .i64 o.kind,.slice PA o.path.length pc,.int .i64 o.val.kind,.int .i64 o.val.num,.string o.val.text,.slice VA o.val.items.length vc,.slice VA' o.val.names.length vc',.slice TA o.to.length tc] 51)).heap.size=W.heap.size+1:=by simp
 refine⟨?_,?_,((Below.refl _ _).alloc (Nat.le_refl _) _).alloc (by omega) _,by simp⟩
 ·rw[Below.heap_alloc _ _ _ (by omega)];exact heap_alloc_new W _
 ·rw[←hz1];exact heap_alloc_new _ _
theorem fd.call (h:fd S o X f ia W w PA pc VA vc VA' vc' TA tc XA xc XA' xc')(hb:Below w.heap.size w w'):fd S o X f ia W w' PA pc VA vc VA' vc' TA tc XA xc XA' xc':=
 ⟨(hb.block _ (by have:=h.size;omega)).trans h.ob,(hb.block _ (by have:=h.size;omega)).trans h.sb,h.below.trans (hb.mono (by have:=h.size;omega)),Nat.le_trans h.size hb.size⟩
end
structure qu (S:Nat→Prop)(o:OpT)(X:VT)(w:World)(PA:Option Addr)(pc:Nat)(VA:Option Addr)(vc:Nat)(VA':Option Addr)(vc':Nat)(TA:Option Addr)(tc:Nat)(XA:Option Addr)(xc:Nat)(XA':Option Addr)(xc':Nat):Prop where
 lt: ∀b,S b→b<w.heap.size
 val:LV w S o.val (.agg #[.int .i64 o.val.kind,.int .i64 o.val.num,.string o.val.text,.slice VA o.val.items.length vc,.slice VA' o.val.names.length vc'])
 path:ai w S PA o.path
 to:ai w S TA o.to
 pc:o.path.length≤pc
 tc:o.to.length≤tc
 pl:o.path.length≤8796093021952
 tl:o.to.length≤8796093021952
 p0:0<o.path.length
 x:LV w S X (.agg #[.int .i64 X.kind,.int .i64 X.num,.string X.text,.slice XA X.items.length xc,.slice XA' X.names.length xc'])
theorem sI (S:Nat→Prop)(o:OpT)(X:VT)(f ia:Bool)(w:World)(PA:Option Addr)(pc:Nat)(VA:Option Addr)(vc:Nat)(VA':Option Addr)(vc':Nat)(TA:Option Addr)(tc:Nat)(XA:Option Addr)(xc:Nat)(XA':Option Addr)(xc':Nat)(h:qu S o X w PA pc VA vc VA' vc' TA tc XA xc XA' xc'):
  Calls Tryz.prog 110 #[.agg #[.int .i64 o.kind,.slice PA o.path.length pc,.int .i64 o.val.kind,.int .i64 o.val.num,.string o.val.text,.slice VA o.val.items.length vc,.slice VA' o.val.names.length vc',.slice TA o.to.length tc],.agg #[.int .i64 X.kind,.int .i64 X.num,.string X.text,.slice XA X.items.length xc,.slice XA' X.names.length xc',.bool f,.bool ia]] w (OpR S (qg o (if f then some X else none)) w):=by
 have hbx:=fd.new (S:=S) (o:=o) (X:=X) (f:=f) (ia:=ia) (W:=w) (PA:=PA) (pc:=pc) (VA:=VA) (vc:=vc) (VA':=VA') (vc':=vc') (TA:=TA) (tc:=tc) (XA:=XA) (xc:=xc) (XA':=XA') (xc':=xc');obtain⟨w2,hw2⟩: ∃W,W=(w.alloc (.cells #[.int .i64 o.kind,.slice PA o.path.length pc,.int .i64 o.val.kind,.int .i64 o.val.num,.string o.val.text,.slice VA o.val.items.length vc,.slice VA' o.val.names.length vc',.slice TA o.to.length tc] 51)).alloc (.cells #[.int .i64 X.kind,.int .i64 X.num,.string X.text,.slice XA X.items.length xc,.slice XA' X.names.length xc',.bool f,.bool ia] 79):=⟨_,rfl⟩;rw[←hw2]at hbx;have HBX:=hid hbx;have HI:=hid h;have y1:=Go.Joins.cell_of_block hbx.ob 1;have s5:=Go.Joins.cell_of_block hbx.sb 5;clear hbx h;go_enter Tryz.func110,Tryz.ntmps110
 cases f with
 |false=>
  go_wp2_with fail;rw[←hw2];clear hw2;go_wp2_with fail;refine(cB none 0 0 w2).mono ?_;rintro e w3 ⟨rfl,rfl⟩;go_wp2_with fail
  go_ret2
  exact OpR.no 0 HBX.out.below
 |true=>
  go_wp2_with fail;rw[←hw2];clear hw2;go_wp2_with fail;refine(kP PA o.path.length pc w2).mono ?_;rintro e w3 ⟨rfl,hb3⟩;have HB3:=hid (HBX.out.call hb3);clear hb3 y1 s5;go_wp2_with fail;obtain⟨w4,hw4⟩: ∃W,W=w3.alloc (.cells #[.int .i64 2,.slice PA o.path.length pc,.int .i64 0,.int .i64 0,.string ⟨#[]⟩,.slice none 0 0,.slice none 0 0,.int .i64 0] 58):=⟨_,rfl⟩;have HN4:Hid (w4.heap[w3.heap.size]? =some (.cells #[.int .i64 2,.slice PA o.path.length pc,.int .i64 0,.int .i64 0,.string ⟨#[]⟩,.slice none 0 0,.slice none 0 0,.int .i64 0] 58 (0,0))):=hid (by rw[hw4];exact heap_alloc_new w3 _);have HB4:Hid (Below w.heap.size w w4):=hid (by rw[hw4];exact HB3.out.below.alloc (by have:=HB3.out.size;omega) _);rw[←hw4];clear hw4;refine(cB _ 1 1 w4).mono ?_;rintro e w5 ⟨rfl,rfl⟩;go_wp2_with fail
  go_ret2
  exact OpR.one HB4.out HN4.out (by have:=HB3.out.size;omega) (ln ((HI.out.path.keep fun b hb=>HB4.out.block b (HI.out.lt b hb)).imp fun b hb=> .inl ⟨hb,HI.out.lt b hb⟩) HI.out.p0 HI.out.pc HI.out.pl)
def ThC {α:Type}(L:World→(Nat→Prop)→α→Array Value→Prop)(w:World)(S:Nat→Prop):List α→List Value→Prop
 | [],xs=>xs= []
 |o::l,xs=> ∃c r,xs=c++r∧L w S o c.toArray∧ThC L w S l r
section
variable {α :Type} {L:World→(Nat→Prop)→α→Array Value→Prop} {m:Nat} {w w':World} {S S':Nat→Prop}
theorem ThC.len1 (hL:gO L m){o:α}{cs:List Value}(h:L w S o cs.toArray):cs.length=m:=by
 have:=hL.size h;simpa using this
theorem ThC.keep (hL:gO L m)(hk: ∀b,S b→w'.heap[b]? =w.heap[b]?): ∀ {l:List α} {xs:List Value},ThC L w S l xs→ThC L w' S l xs
 | [],_,h=>h
 |_::_,_,h=>by obtain⟨c,r,h0,h1,h2⟩:=h;exact⟨c,r,h0,hL.keep h1 hk,ThC.keep hL hk h2⟩
theorem ThC.imp (hL:gO L m)(hS: ∀b,S b→S' b): ∀ {l:List α} {xs:List Value},ThC L w S l xs→ThC L w S' l xs
 | [],_,h=>h
 |_::_,_,h=>by obtain⟨c,r,h0,h1,h2⟩:=h;exact⟨c,r,h0,hL.imp h1 hS,ThC.imp hL hS h2⟩
theorem ThC.at (hL:gO L m): ∀ {l:List α} {xs:List Value},ThC L w S l xs→ ∀i (hi:i<l.length),∃cs:List Value,L w S l[i] cs.toArray∧ ∀j,j<m→xs[i * m+j]? =cs[j]?
 | [],_,_,i,hi=>absurd hi (by simp)
 |o::l,xs,h,i,hi=>by
  obtain⟨c,r,rfl,h1,h2⟩:=h;have hc:=ThC.len1 hL h1
  cases i with
  |zero=>
   refine⟨c,h1,fun j hj=> ?_⟩;rw[List.getElem?_append_left (by omega)]
   congr 1;omega
  |succ i=>
   obtain⟨cs,h3,h4⟩:=ThC.at hL h2 i (by simpa using hi);refine⟨cs,h3,fun j hj=> ?_⟩;have e:(i+1) * m=i * m+m:=Nat.succ_mul i m;rw[List.getElem?_append_right (by omega),hc,←h4 j hj]
   congr 1;omega
theorem ThC.rows (hL:gO L m){B:Nat}{t:TypeId}{A:Option Addr}{c n:Nat}{l:List α}{xs:List Value}(h:ThC L w S l xs)(ho:w.ownsRow B t m (.slice A n c) n xs)(hn:n=l.length)(hS: ∀b,S b→S' b)(hrow: ∀p,(Value.slice A n c).ownBlock=some p→S' p):bJ L m w S' A l:=fun hp=>by
 subst hn;rcases ho.2 with ⟨-,h0⟩|⟨g,cap,cur,e,hB,hh,hr⟩
 ·omega
 ·injection e with e1 e2 e3
  subst e1 e3;refine⟨g,0,rfl,hrow g rfl,fun i hi=> ?_⟩;obtain⟨cs,h4,h5⟩:=ThC.at hL h i hi;refine⟨cs.toArray,fun j v hv=> ?_,hL.imp h4 hS⟩;have hv':cs[j]? =some v:=by simpa using hv
  have hj:j<m:=by have:=(List.getElem?_eq_some_iff.1 hv').1;have:=ThC.len1 hL h4;omega
  have h6:=ho.cells (g:=g) rfl (i * m+j) v (by rw[h5 j hj];exact hv');rw[cq,Nat.zero_add]at h6;rw[Nat.zero_add];exact h6
end
section
variable {α :Type} {L:World→(Nat→Prop)→α→Array Value→Prop} {m:Nat} {t:TypeId} {w0 w w':World} {A:Option Addr} {c:Nat} {l:List α}
end
theorem oI (w:World)(cs:List Value)(t:TypeId): ∀j u,cs[j]? =some u→(w.alloc (.cells cs.toArray t)).cell? ((⟨w.heap.size,0,none⟩:Addr).add j)=some u:=fun j u h=>by
 rw[cq,Nat.zero_add];exact(Go.Joins.cell_of_block (heap_alloc_new w _) j).trans (by simpa using h)
section
variable {α :Type} {L:World→(Nat→Prop)→α→Array Value→Prop} {m:Nat} {t:TypeId} {P:Nat→Prop} {w0 w w':World} {A:Option Addr} {c:Nat} {l:List α}
theorem ThC.app {S:Nat→Prop}{r:List α}{ys:List Value}(hr:ThC L w S r ys): ∀ {l:List α} {xs:List Value},ThC L w S l xs→ThC L w S (l++r) (xs++ys)
 | [],xs,h=>by have h:xs= []:=h;subst h;exact hr
 |p::l,xs,h=>by
  obtain⟨c,q,rfl,h1,h2⟩:=h;exact⟨c,q++ys,by rw[List.append_assoc],h1,ThC.app hr h2⟩
def kj (P:Nat→Prop)(w0 w:World)(v:Value)(b:Nat):Prop:=(P b∧b<w0.heap.size)∨(w0.heap.size≤b∧b<w.heap.size∧ ∀p,v.ownBlock=some p→b≠p)
def bw (L:World→(Nat→Prop)→α→Array Value→Prop)(m:Nat)(t:TypeId)(P:Nat→Prop)(w0:World)(w:World)(A:Option Addr)(c:Nat)(l:List α):Prop:=
 ∃xs,∃S:Nat→Prop,w.ownsRow w0.heap.size t m (.slice A l.length c) l.length xs∧ThC L w S l xs∧ ∀b,S b→kj P w0 w (.slice A l.length c) b
theorem bw.nil (w0 w:World):bw L m t P w0 w none 0 ([]:List α):=⟨[],fun _=>False,World.ownsRow_nil _ _ _ _,rfl,fun _ h=>h.elim⟩
theorem bw.still (hL:gO L m)(h:bw L m t P w0 w A c l)(hk: ∀b,b<w.heap.size→(P b∨w0.heap.size≤b)→w'.heap[b]? =w.heap[b]?)(hz0:w0.heap.size≤w.heap.size)(hz:w.heap.size≤w'.heap.size):bw L m t P w0 w' A c l:=by
 obtain⟨xs,S,h1,h2,h3⟩:=h;refine⟨xs,S,⟨h1.1,h1.2.imp id ?_⟩,ThC.keep hL (fun b hb=> ?_) h2,fun b hb=>(h3 b hb).imp id fun k=>⟨k.1,Nat.lt_of_lt_of_le k.2.1 hz,k.2.2⟩⟩
 ·rintro⟨q,cap,cur,e,hB,hh,hr⟩;exact⟨q,cap,cur,e,hB,(hk q (Array.getElem?_eq_some_iff.1 hh).1 (.inr hB)).trans hh,hr⟩
 ·rcases h3 b hb with k|k
  ·exact hk b (by omega) (.inl k.1)
  ·exact hk b k.2.1 (.inr k.1)
theorem bw.below (hL:gO L m)(h:bw L m t P w0 w A c l)(hz0:w0.heap.size≤w.heap.size)(hb:Below w.heap.size w w'):bw L m t P w0 w' A c l:=
 h.still hL (fun b h1 _=>hb.block b h1) hz0 hb.size
theorem bw.rows (hL:gO L m)(h:bw L m t P w0 w A c l):bJ L m w (fun b=>(P b∧b<w0.heap.size)∨ba w0.heap.size w b) A l:=by
 obtain⟨xs,S,h1,h2,h3⟩:=h;refine ThC.rows hL h2 h1 rfl (fun b hb=>(h3 b hb).imp id fun k=>⟨k.1,k.2.1⟩) (fun p hp=> .inr (World.ownsRow.lt h1 p hp))
theorem bw.cap (h:bw L m t P w0 w A c l):l.length≤c:=by
 obtain⟨xs,S,h1,-⟩:=h;rcases h1.2 with ⟨e,h0⟩|⟨g,cap,cur,e,-,-,hc,-⟩
 ·omega
 ·injection e with _ _ e;omega
theorem bw.own (h:bw L m t P w0 w A c l): ∀p,(Value.slice A l.length c).ownBlock=some p→w0.heap.size≤p∧p<w.heap.size:=by
 obtain⟨xs,S,h1,-⟩:=h;exact fun p hp=>World.ownsRow.lt h1 p hp
theorem bw.none' (h:bw L m t P w0 w A c l):A=none→c=0∧l= []:=by
 rintro rfl;obtain⟨xs,S,h1,-⟩:=h;rcases h1.2 with ⟨e,h0⟩|⟨g,cap,cur,e,-⟩
 ·injection e with e1 e2 e3
  exact⟨e3,List.eq_nil_of_length_eq_zero e2⟩
 ·injection e with e1 e2 e3
  cases e1
theorem bJ.cells (hL:gO L m){S:Nat→Prop}: ∀ {r:List α},bJ L m w S A r→ ∃ys,ThC L w S r ys∧ys.length=r.length * m∧ ∀a,A=some a→ ∀j u,ys[j]? =some u→w.cell? (a.add j)=some u:=by
 suffices h: ∀(r:List α) (b o:Nat),(∀i (hi:i<r.length),∃cs:Array Value,(∀j v,cs[j]? =some v→w.cell? ⟨b,o+i * m+j,none⟩=some v)∧L w S r[i] cs)→
   ∃ys,ThC L w S r ys∧ys.length=r.length * m∧ ∀j u,ys[j]? =some u→w.cell? ⟨b,o+j,none⟩=some u by
  intro r hr;by_cases h0:0<r.length
  ·obtain⟨b,o,rfl,-,hc⟩:=hr h0;obtain⟨ys,h1,h2,h3⟩:=h r b o hc;refine⟨ys,h1,h2,fun a ha j u hu=> ?_⟩;injection ha with ha
   subst ha;have:=h3 j u hu;rw[cq];exact this
  ·have e:r= []:=List.eq_nil_of_length_eq_zero (by omega);subst e;exact⟨[],rfl,by simp,fun a _ j u hu=>by simp at hu⟩
 intro r
 induction r with
 |nil=>intro b o _;exact⟨[],rfl,by simp,fun j u hu=>by simp at hu⟩
 |cons x r ih=>
  intro b o h;obtain⟨cs,h1,h2⟩:=h 0 (by simp)
  obtain⟨ys,h3,h4,h5⟩:=ih b (o+m) fun i hi=>by
   obtain⟨c2,k1,k2⟩:=h (i+1) (by simpa using hi);refine⟨c2,fun j v hv=> ?_,k2⟩;have:=k1 j v hv;rw[show o+(i+1) * m+j=o+m+i * m+j by rw[Nat.succ_mul];omega]at this;exact this
  have hsz:cs.toList.length=m:=by have:=hL.size h2;simpa using this
  refine⟨cs.toList++ys,⟨cs.toList,ys,rfl,by simpa using h2,h3⟩,by rw[List.length_append,hsz,h4,List.length_cons,Nat.succ_mul];omega,fun j u hu=> ?_⟩;by_cases hj:j<m
  ·rw[List.getElem?_append_left (by omega)]at hu;have:=h1 j u (by simpa using hu);rw[Nat.zero_mul]at this;exact this
  ·rw[List.getElem?_append_right (by omega),hsz]at hu;have:=h5 (j - m) u hu;rw[show o+m+(j - m)=o+j by omega]at this;exact this
theorem bw.push (hL:gO L m){W:World}{v:Value}{p cap n k:Nat}{xs ys:List Value}{S S2:Nat→Prop}{r:List α}(hn:n=l.length)(hk:k=r.length)
  (hv:v= .slice (some ⟨p,0,none⟩) (n+k) cap) (hb:w.grownBy W (Value.slice A n c).ownBlock) (hat:v.ownBlock=(Value.slice A n c).ownBlock∨v.ownBlock=some w.heap.size) (hown:W.ownsRow w0.heap.size t m v (n+k) (xs++ys)) (hl:ThC L w S l xs) (hone:ThC L w S2 r ys)
  (hz0:w0.heap.size≤w.heap.size) (hS: ∀b,S b→kj P w0 w (.slice A n c) b) (hS2: ∀b,S2 b→kj P w0 w (.slice A n c) b) (hA: ∀p,(Value.slice A n c).ownBlock=some p→w0.heap.size≤p∧p<w.heap.size):
  bw L m t P w0 W (some ⟨p,0,none⟩) cap (l++r):=by
 subst hn hk hv;have hlen:(l++r).length=l.length+r.length:=List.length_append
 have hk: ∀b,kj P w0 w (.slice A l.length c) b→W.heap[b]? =w.heap[b]? :=fun b hp=>by
  rcases hp with h|h
  ·exact hb.block b (by omega) fun e=>by have:=(hA b e.symm).1;omega
  ·exact hb.block b h.2.1 fun e=>h.2.2 b e.symm rfl
 refine⟨xs++ys,fun b=>S b∨S2 b,by rw[hlen];exact hown,ThC.app (ThC.imp hL (fun b h=> .inr h) (ThC.keep hL (fun b hb'=>hk b (hS2 b hb')) hone)) (ThC.imp hL (fun b h=> .inl h) (ThC.keep hL (fun b hb'=>hk b (hS b hb')) hl)),?_⟩;intro b hb';have hc:kj P w0 w (.slice A l.length c) b:=hb'.elim (hS b) (hS2 b);rcases hc with h|h
 ·exact .inl h
 ·refine .inr ⟨h.1,Nat.lt_of_lt_of_le h.2.1 hb.size,fun q hq=> ?_⟩;have hq:p=q:=by simpa[Value.ownBlock]using hq
  subst hq;rcases hat with hw|e
  ·exact h.2.2 p hw.symm
  ·have e:some p=some w.heap.size:=e;injection e with e
   omega
end
def LVC (w:World)(S:Nat→Prop)(t:VT)(cs:Array Value):Prop:=LV w S t (.agg cs)
theorem eg :gO LVC 5 where
 size:=fun {w S x c} h=>by
  obtain⟨A,k,A',k',e,-⟩:=LV.shape (show LV w S x (.agg c) from h);injection e with e
  rw[e];rfl
 keep:=fun h hk=>LV.keep hk h
 imp:=fun h hS=>LV.imp hS h
theorem yD {w:World}{S:Nat→Prop}{b:Nat}: ∀ {l:List VT} {off:Nat},LVs w S b off l→ ∀i (hi:i<l.length),∃cs:Array Value,(∀j v,cs[j]? =some v→w.cell? ⟨b,off+i * 5+j,none⟩=some v)∧LVC w S l[i] cs
 | [],_,_,i,hi=>absurd hi (by simp)
 |t::r,off,h,i,hi=>by
  unfold LVs at h;obtain⟨⟨c0,c1,c2,c3,c4,h0,h1,h2,h3,h4,hv⟩,hr⟩:=h
  cases i with
  |zero=>
   refine⟨#[c0,c1,c2,c3,c4],fun j v hj=> ?_,hv⟩;rw[show off+0 * 5+j=off+j by omega];rcases j with _|_|_|_|_|j
   ·exact h0.trans hj
   ·exact h1.trans hj
   ·exact h2.trans hj
   ·exact h3.trans hj
   ·exact h4.trans hj
   ·simp at hj
  |succ i=>
   obtain⟨cs,k1,k2⟩:=yD hr i (by simpa using hi);refine⟨cs,fun j v hj=> ?_,k2⟩;rw[show off+(i+1) * 5+j=off+5+i * 5+j by omega];exact k1 j v hj
theorem km {w:World}{S:Nat→Prop}{A:Option Addr}{l:List VT}(h:LVA w S A l):bJ LVC 5 w S A l:=fun hp=>by
 obtain⟨b,off,hA,hS,hl⟩:=h hp;exact⟨b,off,hA,hS,yD hl⟩
theorem yE {w:World}{S:Nat→Prop}{b:Nat}: ∀ {l:List VT} {off:Nat},(∀i (hi:i<l.length),∃cs:Array Value,(∀j v,cs[j]? =some v→w.cell? ⟨b,off+i * 5+j,none⟩=some v)∧LVC w S l[i] cs)→LVs w S b off l
 | [],_,_=>by unfold LVs;trivial
 |t::r,off,h=>by
  unfold LVs;obtain⟨cs,h1,h2⟩:=h 0 (by simp);obtain⟨A,k,A',k',e,-⟩:=LV.shape (show LV w S t (.agg cs) from h2);injection e with e
  subst e;refine⟨⟨_,_,_,_,_,?_,?_,?_,?_,?_,h2⟩,yE fun i hi=> ?_⟩
  ·have:=h1 0 _ rfl;rw[show off+0 * 5+0=off by omega]at this;exact this
  ·have:=h1 1 _ rfl;rw[show off+0 * 5+1=off+1 by omega]at this;exact this
  ·have:=h1 2 _ rfl;rw[show off+0 * 5+2=off+2 by omega]at this;exact this
  ·have:=h1 3 _ rfl;rw[show off+0 * 5+3=off+3 by omega]at this;exact this
  ·have:=h1 4 _ rfl;rw[show off+0 * 5+4=off+4 by omega]at this;exact this
  ·obtain⟨cs2,k1,k2⟩:=h (i+1) (by simpa using hi);refine⟨cs2,fun j v hj=> ?_,k2⟩;have:=k1 j v hj;rw[show off+(i+1) * 5+j=off+5+i * 5+j by omega]at this;exact this
theorem rI {w:World}{S:Nat→Prop}{A:Option Addr}{l:List VT}(h:bJ LVC 5 w S A l):LVA w S A l:=fun hp=>by
 obtain⟨b,off,hA,hS,hl⟩:=h hp;exact⟨b,off,hA,hS,yE hl⟩
theorem uE {w:World}{S:Nat→Prop}: ∀ {l:List VT} {ys:List Value},ThC LVC w S l ys→ ∀u∈ys,u.oneCell'=true
 | [],ys,h,u,hu=>by have h:ys= []:=h;subst h;cases hu
 |t::l,ys,h,u,hu=>by
  obtain⟨c,r,rfl,h1,h2⟩:=h;rcases List.mem_append.1 hu with hu|hu
  ·obtain⟨A,k,A',k',e,-⟩:=LV.shape (show LV w S t (.agg c.toArray) from h1);injection e with e
   have e:c= [.int .i64 t.kind,.int .i64 t.num,.string t.text,.slice A t.items.length k,.slice A' t.names.length k']:=by simpa using congrArg Array.toList e
   subst e;simp only[List.mem_cons,List.not_mem_nil,or_false]at hu;rcases hu with rfl|rfl|rfl|rfl|rfl<;>rfl
  ·exact uE h2 u hu
theorem sh (a:Addr)(n c:Nat)(w:World):(binOp .eql 22 (.slice (some a) n c) (.slice none 0 0)).run Tryz.prog w= .ok (.bool false) w:=by kernel_rfl
theorem xW (n c:Nat)(w:World):(binOp .eql 22 (.slice none n c) (.slice none 0 0)).run Tryz.prog w= .ok (.bool true) w:=by kernel_rfl
theorem pT (S:Nat→Prop)(A:Option Addr)(c:Nat)(l:List VT)(w:World)(hS: ∀b,S b→b<w.heap.size)(h:LVA w S A l)(hl:l.length≤100000):
  Calls Tryz.prog 153 #[.slice A l.length c] w fun e w'=> ∃A' c',e= .returned (.slice A' l.length c')∧bw LVC 5 25 S w w' A' c' l∧Below w.heap.size w w':=by
 have HS:=hid hS;have HA:=hid h
 cases A with
 |none=>
  have h0:l= []:=by
   cases l with
   |nil=>rfl
   |cons x r=>obtain⟨b,off,e,-⟩:=h (by simp);cases e
  subst h0;clear h hS hl;have hq:=xW 0 c;show Calls Tryz.prog 153 #[.slice none 0 c] w _;go_enter Tryz.func153,Tryz.ntmps153;go_wp2_with fail;go_ret
  exact⟨none,0,rfl,bw.nil _ _,Below.refl _ _⟩
 |some a=>
  obtain⟨ys,hy1,hy2,hy3⟩:=bJ.cells eg (km h);have HY:=hid (And.intro hy1 (And.intro hy2 (hy3 a rfl)));clear h hS hy1 hy2 hy3;have hq:=sh a l.length c;go_enter Tryz.func153,Tryz.ntmps153;obtain⟨i0,hi,hz0,hz1,hz2⟩:=info_parts Tryz.infoVal;obtain⟨w1,hw1⟩: ∃W,W=w.alloc (.cells #[] 25):=⟨_,rfl⟩;have hz:w1.heap.size=w.heap.size+1:=by rw[hw1];simp
  have hg1:w1.heap[w.heap.size]? =some (.cells #[] 25 (0,0)):=by rw[hw1];exact heap_alloc_new w _
  have hb1:Below w.heap.size w w1:=by rw[hw1];exact(Below.refl _ _).alloc (Nat.le_refl _) _
  have HR1:Hid (w1.ownsRow w.heap.size 25 5 (.slice (some ⟨w.heap.size,0,none⟩) 0 0) 0 []):=hid ⟨rfl,.inr ⟨_,0, #[],rfl,Nat.le_refl _,hg1,Nat.le_refl _,by decide,rfl,rfl⟩⟩
  have HC1:Hid (∀j u,ys[j]? =some u→w1.cell? (a.add j)=some u):=hid fun j u hu=>by
   have h1:=HY.out.2.2 j u hu
   have hlt:0<l.length:=by
    have:=(List.getElem?_eq_some_iff.1 hu).1;have:=HY.out.2.1;omega
   obtain⟨b,off,e,hSb,-⟩:=HA.out hlt;injection e with e
   subst e;rw[cq]at h1 ⊢;exact(World.cell?_of_block (a:=⟨b,off+j,none⟩) (hb1.block b (HS.out b hSb))).trans h1
  have HO1:=hid (uE HY.out.1);have HB1:=hid hb1;have HZ:=hid hz;have HL:=hid hl;clear hz hg1 hb1 hl;go_wp2_with(first|(rw[←hw1];clear hw1;at_builtin;refine wpList_append_own_at _ rfl _ _ 22 rfl w.heap.size 25 i0 _ 5 80 Tryz.underlying22 hi hz0 hz1 hz2 rfl (by decide) _ 0 [] rfl HR1.out a l.length c ys rfl HY.out.2.1 HC1.out HO1.out (by have:=HL.out;unfold maxLen;omega) (by have:=HL.out;omega) (by have:=HZ.out;omega) ?_;intro v7 w7 hown7 hg7 hnil7 hat7;have HW:=hid (And.intro hown7 (And.intro hg7 hat7));clear hown7 hg7 hnil7 hat7)|fail);go_ret;have hk: ∀b,b<w.heap.size→w7.heap[b]? =w.heap[b]? :=fun b hb=>(HW.out.2.1.block b (by have:=HZ.out;omega) (by intro e;injection e with e;exact Nat.ne_of_lt hb e)).trans (HB1.out.block b hb);have hB:Below w.heap.size w w7:=⟨HW.out.2.1.os.trans HB1.out.os,HW.out.2.1.tape.trans HB1.out.tape,HW.out.2.1.output.trans HB1.out.output,Nat.le_trans HB1.out.size HW.out.2.1.size,hk⟩;have hown:=HW.out.1;rw[Nat.zero_add,List.nil_append]at hown;rcases hown.2 with ⟨e,h0⟩|⟨g,cap,cur,e,-⟩
  ·have hl0:l= []:=List.eq_nil_of_length_eq_zero h0;subst e hl0;exact⟨none,0,rfl,bw.nil _ _,hB⟩
  ·subst e;exact⟨_,_,rfl,⟨ys,S,hown,ThC.keep eg (fun b hb=>hk b (HS.out b hb)) HY.out.1,fun b hb=> .inl ⟨hb,HS.out b hb⟩⟩,hB⟩
theorem sU (S:Nat→Prop)(y x:VT)(vy:Value)(B:Nat)(VA:Option Addr)(vc:Nat)(VA':Option Addr)(vc':Nat)(w:World)(hS: ∀b,S b→b<w.heap.size)(hy:LV w S y vy)(hB:B<w.heap.size)
  (h2:w.cell? ⟨B,2,none⟩=some (.int .i64 x.kind)) (h3:w.cell? ⟨B,3,none⟩=some (.int .i64 x.num)) (h4:w.cell? ⟨B,4,none⟩=some (.string x.text)) (h5:w.cell? ⟨B,5,none⟩=some (.slice VA x.items.length vc)) (h6:w.cell? ⟨B,6,none⟩=some (.slice VA' x.names.length vc'))
  (hx:LV w S x (.agg #[.int .i64 x.kind,.int .i64 x.num,.string x.text,.slice VA x.items.length vc,.slice VA' x.names.length vc'])) (dy:ac y≤4611686018427387903) (dx:ac x≤4611686018427387903):
  Calls Tryz.prog 154 #[vy,.pointer (some ⟨B,0,none⟩)] w fun e w'=>e= .returned (.bool (fK y x == 0))∧Below w.heap.size w w':=by
 obtain⟨A0,c0,A0',c0',rfl,-,-,-,v1,hb0⟩:=bY hS hy;obtain⟨w1,hw1⟩: ∃W,W=w.alloc (.cells #[.int .i64 y.kind,.int .i64 y.num,.string y.text,.slice A0 y.items.length c0,.slice A0' y.names.length c0'] 25):=⟨_,rfl⟩;have hbx:=v1.x;rw[←hw1]at hbx hb0;have kb: ∀i,w1.cell? ⟨B,i,none⟩=w.cell? ⟨B,i,none⟩:=fun i=>World.cell?_of_block (a:=⟨B,i,none⟩) (hb0.block B hB);have y2:=(kb 2).trans h2;have y3:=(kb 3).trans h3;have y4:=(kb 4).trans h4;have y5:=(kb 5).trans h5;have y6:=(kb 6).trans h6;have q0:=hbx.c0;have q1:=hbx.c1;have q2:=hbx.c2;have q3:=hbx.c3;have q4:=hbx.c4;have HSM:=hid (qK S y x _ _ w1 (fun b hb=>Nat.lt_of_lt_of_le (hS b hb) hb0.size) (hy.keep fun b hb=>hb0.block b (hS b hb)) (hx.keep fun b hb=>hb0.block b (hS b hb)) dy dx);have HB:=hid hb0;clear h2 h3 h4 h5 h6 kb hy hx dy dx v1 hbx hb0 hS;rw[hw1]at y2 y3 y4 y5 y6;go_enter Tryz.func154,Tryz.ntmps154;go_wp2_with fail;rw[←hw1];clear hw1;refine HSM.out.mono ?_;rintro e w2 ⟨rfl,hb2⟩;have HB2:=hid (HB.out.trans (hb2.mono HB.out.size));clear hb2 HSM q0 q1 q2 q3 q4 y2 y3 y4 y5 y6;go_wp2_with fail;go_ret;exact⟨rfl,HB2.out⟩
theorem pw {w:World}{S:Nat→Prop}: ∀ {l:List VT} {xs:List Value},ThC LVC w S l xs→ ∃Z:List (VT×List Value),Z.map (·.1)=l∧(∀z∈Z,LVC w S z.1 z.2.toArray)∧ ∀t (ht:t<Z.length) k,k<5→xs[t * 5+k]? =Z[t].2[k]?
 | [],xs,h=>⟨[],rfl,fun z hz=>(by cases hz),fun t ht=>absurd ht (by simp)⟩
 |y::l,xs,h=>by
  obtain⟨c,r,rfl,h1,h2⟩:=h;obtain⟨Z,z1,z2,z3⟩:=pw h2;have hc:c.length=5:=ThC.len1 eg h1;refine⟨(y,c)::Z,by simp[z1],fun z hz=> ?_,fun t ht k hk=> ?_⟩
  ·rcases List.mem_cons.1 hz with rfl|hz
   ·exact h1
   ·exact z2 z hz
  ·cases t with
   |zero=>rw[Nat.zero_mul,Nat.zero_add,List.getElem?_append_left (by omega)];rfl
   |succ t=>
    rw[List.getElem?_append_right (by omega),hc,show(t+1) * 5+k - 5=t * 5+k by omega];exact z3 t (by simpa using ht) k hk
theorem sw {w:World}{S:Nat→Prop}{z:VT×List Value}(h:LVC w S z.1 z.2.toArray):z.2.length=5:=ThC.len1 eg h
structure fJ (Z:List (VT×List Value))(p:VT×List Value→Bool)(g cap:Nat)(w wr:World)(i j:Nat):Prop where
 only:bZ w wr g
 cells: ∃C,wr.heap[g]? =some (.cells C 25 (0,0))∧C.size=cap * 5∧(∀t (ht:t<((Z.take j).filter p).length) k,k<5→C[t * 5+k]? =((Z.take j).filter p)[t].2[k]?)∧ ∀t (ht:t<Z.length),j≤t→ ∀k,k<5→C[t * 5+k]? =Z[t].2[k]?
 left:i=((Z.take j).filter p).length
 cap:Z.length≤cap
section
variable {Z :List (VT×List Value)} {p:VT×List Value→Bool} {g cap:Nat} {w wr wr':World} {i j:Nat}
theorem js {a b c:World}{g:Nat}(h:bZ a b g)(k:bZ b c g):bZ a c g:=⟨k.os.trans h.os,k.tape.trans h.tape,k.output.trans h.output,Nat.le_trans h.size k.size,fun b' hb hne=>(k.block b' (Nat.lt_of_lt_of_le hb h.size) hne).trans (h.block b' hb hne)⟩
theorem fZ {a b:World}{g:Nat}(h:Below a.heap.size a b):bZ a b g:=⟨h.os,h.tape,h.output,h.size,fun b' hb _=>h.block b' hb⟩
theorem fJ.le (h:fJ Z p g cap w wr i j):i≤j:=by
 rw[h.left];exact Nat.le_trans (List.length_filter_le _ _) (by rw[List.length_take];omega)
theorem qf {k:Nat}(hk:k<Z.length)(hall: ∀t (ht:t<Z.length),t<k→p Z[t]=true)(hx:p Z[k]=false):(Z.take (k+1)).filter p=Z.take k:=by
 rw[List.take_succ_eq_append_getElem hk,List.filter_append]
 have h1:(Z.take k).filter p=Z.take k:=List.filter_eq_self.2 fun z hz=>by
  obtain⟨t,ht,rfl⟩:=List.mem_iff_getElem.1 hz;rw[List.length_take]at ht;rw[List.getElem_take];exact hall t (by omega) (by omega)
 rw[h1];simp[hx]
theorem fJ.start {k:Nat}{C:Array Value}(ho:bZ w wr g)(hg:wr.heap[g]? =some (.cells C 25 (0,0)))(hs:C.size=cap * 5)(hc:Z.length≤cap)(hC: ∀t (ht:t<Z.length) k,k<5→C[t * 5+k]? =Z[t].2[k]?)
  (hk:k<Z.length) (hall: ∀t (ht:t<Z.length),t<k→p Z[t]=true) (hx:p Z[k]=false):fJ Z p g cap w wr k (k+1):=by
 have e:=qf hk hall hx;refine⟨ho,⟨C,hg,hs,?_,fun t ht _=>hC t ht⟩,by rw[e,List.length_take];omega,hc⟩;rw[e];intro t ht k' hk';rw[List.length_take]at ht;rw[hC t (by omega) k' hk',List.getElem_take]
theorem fJ.call (h:fJ Z p g cap w wr i j)(hb:Below wr.heap.size wr wr')(hg:g<wr.heap.size):fJ Z p g cap w wr' i j:=by
 obtain⟨C,c1,c2,c3,c4⟩:=h.cells;exact⟨js h.only (fZ hb),⟨C,(hb.block g hg).trans c1,c2,c3,c4⟩,h.left,h.cap⟩
theorem fJ.lt (h:fJ Z p g cap w wr i j):g<wr.heap.size:=by
 obtain⟨C,c1,-⟩:=h.cells;exact(Array.getElem?_eq_some_iff.1 c1).1
theorem fJ.out (h:fJ Z p g cap w wr i j)(hj:j<Z.length)(hx:p Z[j]=false):fJ Z p g cap w wr i (j+1):=by
 have e:(Z.take (j+1)).filter p=(Z.take j).filter p:=by
  rw[List.take_succ_eq_append_getElem hj,List.filter_append];simp[hx]
 obtain⟨C,c1,c2,c3,c4⟩:=h.cells;exact⟨h.only,⟨C,c1,c2,by rw[e];exact c3,fun t ht ht'=>c4 t ht (by omega)⟩,by rw[e];exact h.left,h.cap⟩
theorem fJ.stay {C C':Array Value}(h:fJ Z p g cap w wr i j)(hj:j<Z.length)(hx:p Z[j]=true)(hl:Z[j].2.length=5)(hg:wr.heap[g]? =some (.cells C 25 (0,0)))(hC:C'=cM C (i * 5) Z[j].2)(hg':wr'.heap[g]? =some (.cells C' 25 (0,0)))(ho:bZ wr wr' g):fJ Z p g cap w wr' (i+1) (j+1):=by
 have e:(Z.take (j+1)).filter p=(Z.take j).filter p++[Z[j]]:=by
  rw[List.take_succ_eq_append_getElem hj,List.filter_append];simp[hx]
 have hle:=h.le;have hcap:=h.cap;obtain⟨C0,c1,c2,c3,c4⟩:=h.cells;rw[hg]at c1;injection c1 with c1
 injection c1 with c1
 subst c1 hC;have hsz:i * 5+Z[j].2.length≤C.size:=by rw[c2,hl];omega
 refine⟨js h.only ho,⟨_,hg',by rw[gu];exact c2,?_,fun t ht ht' k hk=> ?_⟩,by rw[e,List.length_append,←h.left];rfl,h.cap⟩
 ·rw[e];intro t ht k hk;rw[List.length_append,←h.left]at ht;have ht:t<i+1:=ht;by_cases hti:t<i
  ·have hti':=hti;rw[h.left]at hti';rw[eb _ _ _ _ (.inl (by omega)),c3 t hti' k hk,List.getElem_append_left hti']
  ·obtain rfl:t=i:=by omega
   rw[jj _ _ _ _ hsz (by omega)];rw[List.getElem_append_right (by rw[←h.left];exact Nat.le_refl _)];simp
 ·rw[eb _ _ _ _ (.inr (by rw[hl];omega))];exact c4 t ht (by omega) k hk
theorem fJ.done {S:Nat→Prop}(h:fJ Z p g cap w wr i Z.length)(hz: ∀z∈Z,LVC wr S z.1 z.2.toArray){C':Array Value}(hg:wr'.heap[g]? =some (.cells C' 25 (0,0)))(hC: ∀C,wr.heap[g]? =some (.cells C 25 (0,0))→ ∀m,m<i * 5→C'[m]? =C[m]?)(hk: ∀b,S b→wr'.heap[b]? =wr.heap[b]?):
  LVA wr' (fun b=>S b∨b=g) (some ⟨g,0,none⟩) ((Z.filter p).map (·.1))∧i=((Z.filter p).map (·.1)).length:=by
 have hl:=h.left;rw[List.take_length]at hl;refine⟨rI fun _=>⟨g,0,rfl,.inr rfl,fun t ht=> ?_⟩,by rw[List.length_map];exact hl⟩;have ht':t<(Z.filter p).length:=by simpa using ht
 obtain⟨C,c1,c2,c3,c4⟩:=h.cells;have hmem:(Z.filter p)[t]∈Z:=(List.mem_filter.1 (List.getElem_mem ht')).1;have hlv:=hz _ hmem;refine⟨(Z.filter p)[t].2.toArray,fun k v hv=> ?_,?_⟩
 ·have hv':(Z.filter p)[t].2[k]? =some v:=by simpa using hv
  have hk5:k<5:=by have:=(List.getElem?_eq_some_iff.1 hv').1;have:=sw hlv;omega
  have h3:=c3 t (by rw[List.take_length];exact ht') k hk5;simp only[List.take_length]at h3;rw[Nat.zero_add,Go.Joins.cell_of_block hg,hC C c1 _ (by omega),h3];exact hv'
 ·rw[List.getElem_map];exact eg.imp (eg.keep hlv hk) fun b hb=> .inl hb
end
structure fs (S:Nat→Prop)(x:VT)(B:Nat)(VA:Option Addr)(vc:Nat)(VA':Option Addr)(vc':Nat)(w:World):Prop where
 lt:B<w.heap.size
 c2:w.cell? ⟨B,2,none⟩=some (.int .i64 x.kind)
 c3:w.cell? ⟨B,3,none⟩=some (.int .i64 x.num)
 c4:w.cell? ⟨B,4,none⟩=some (.string x.text)
 c5:w.cell? ⟨B,5,none⟩=some (.slice VA x.items.length vc)
 c6:w.cell? ⟨B,6,none⟩=some (.slice VA' x.names.length vc')
 x:LV w S x (.agg #[.int .i64 x.kind,.int .i64 x.num,.string x.text,.slice VA x.items.length vc,.slice VA' x.names.length vc'])
section
variable {S :Nat→Prop} {x:VT} {B:Nat} {VA:Option Addr} {vc:Nat} {VA':Option Addr} {vc':Nat} {w W:World} {g:Nat}
theorem fs.later (h:fs S x B VA vc VA' vc' w)(hS: ∀b,S b→b<w.heap.size∧b≠g)(hB:B≠g)(ho:bZ w W g):fs S x B VA vc VA' vc' W:=by
 have hk:W.heap[B]? =w.heap[B]? :=ho.block B h.lt (by intro e;injection e with e;exact hB e);have kb: ∀i,W.cell? ⟨B,i,none⟩=w.cell? ⟨B,i,none⟩:=fun i=>World.cell?_of_block (a:=⟨B,i,none⟩) hk;exact⟨Nat.lt_of_lt_of_le h.lt ho.size,(kb 2).trans h.c2,(kb 3).trans h.c3,(kb 4).trans h.c4,(kb 5).trans h.c5,(kb 6).trans h.c6,h.x.keep (cr ho hS)⟩
theorem fs.below (h:fs S x B VA vc VA' vc' w)(hS: ∀b,S b→b<w.heap.size)(hb:Below w.heap.size w W):fs S x B VA vc VA' vc' W:=by
 have kb: ∀i,W.cell? ⟨B,i,none⟩=w.cell? ⟨B,i,none⟩:=fun i=>World.cell?_of_block (a:=⟨B,i,none⟩) (hb.block B h.lt);exact⟨Nat.lt_of_lt_of_le h.lt hb.size,(kb 2).trans h.c2,(kb 3).trans h.c3,(kb 4).trans h.c4,(kb 5).trans h.c5,(kb 6).trans h.c6,h.x.keep fun b hb'=>hb.block b (hS b hb')⟩
end
theorem mN (S:Nat→Prop)(y x:VT)(vy:Value)(B:Nat)(VA:Option Addr)(vc:Nat)(VA':Option Addr)(vc':Nat)(w:World)(hS: ∀b,S b→b<w.heap.size)(hy:LV w S y vy)(h:fs S x B VA vc VA' vc' w)(dy:ac y≤4611686018427387903)(dx:ac x≤4611686018427387903):
  Calls Tryz.prog 154 #[vy,.pointer (some ⟨B,0,none⟩)] w fun e w'=>e= .returned (.bool (fK y x == 0))∧Below w.heap.size w w':=
 sU S y x vy B VA vc VA' vc' w hS hy h.lt h.c2 h.c3 h.c4 h.c5 h.c6 h.x dy dx
theorem oz (S:Nat→Prop)(A:Option Addr)(c:Nat)(l:List VT)(x:VT)(B:Nat)(VA:Option Addr)(vc:Nat)(VA':Option Addr)(vc':Nat)(w:World)(hS: ∀b,S b→b<w.heap.size)(h:LVA w S A l)(hP:fs S x B VA vc VA' vc' w)(hl:l.length≤140737488351232)(hd: ∀y∈l,ac y≤4611686018427387903)(dx:ac x≤4611686018427387903):
  Calls Tryz.prog 173 #[.slice A l.length c,.func (.func 154) #[] #[.pointer (some ⟨B,0,none⟩)]] w fun e w'=>((∃k:Nat,k<l.length∧e= .returned (.int .i64 (k:Int))∧(∀t (ht:t<l.length),t<k→(fK l[t] x == 0)=false)∧ ∀h:k<l.length,(fK l[k] x == 0)=true)∨(e= .returned (.int .i64 (-1))∧ ∀y∈l,(fK y x == 0)=false))∧Below w.heap.size w w':=by
 have H:=hid (km h);have HS:=hid hS;have HP:=hid hP;have HD:=hid (And.intro hd dx);have HN:=hid hl;clear h hS hP hd dx;go_enter Tryz.func173,Tryz.ntmps173;go_wp2_with fail
 go_loopw [8] (fun i wr=> ∃k:Nat,i= .int .i64 k∧k≤l.length∧Hid (Below w.heap.size w wr)∧Hid (∀t (ht:t<l.length),t<k→(fK l[t] x == 0)=false)) (fun i _=>l.length - (intOf i).toNat)
 case atStart=>exact⟨0,rfl,by omega,hid (Below.refl _ _),hid fun j _ h=>absurd h (by omega)⟩
 case round=>
  obtain⟨k,rfl,hk,HB,HJ⟩:=hrel;by_cases hlt:k<l.length
  ·obtain⟨b,off,rfl,hb,hcs⟩:=H.out (by omega);obtain⟨cs,h1,h2⟩:=hcs k hlt;obtain⟨A1,k1,A1',k1',e,-⟩:=LV.shape (show LV w S l[k] (.agg cs) from h2);injection e with e
   subst e;have x0:=(HB.out.cell (p:=⟨b,off+k * 5+0,none⟩) (HS.out b hb)).trans (h1 0 _ rfl);have x1:=(HB.out.cell (p:=⟨b,off+k * 5+1,none⟩) (HS.out b hb)).trans (h1 1 _ rfl);have x2:=(HB.out.cell (p:=⟨b,off+k * 5+2,none⟩) (HS.out b hb)).trans (h1 2 _ rfl);have x3:=(HB.out.cell (p:=⟨b,off+k * 5+3,none⟩) (HS.out b hb)).trans (h1 3 _ rfl);have x4:=(HB.out.cell (p:=⟨b,off+k * 5+4,none⟩) (HS.out b hb)).trans (h1 4 _ rfl);have HC:=hid (mN S l[k] x _ B VA vc VA' vc' wr (fun b hb=>Nat.lt_of_lt_of_le (HS.out b hb) HB.out.size) (LV.keep (fun b hb=>HB.out.block b (HS.out b hb)) h2) (HP.out.below HS.out HB.out) (HD.out.1 _ (List.getElem_mem hlt)) HD.out.2);clear h1 h2 hcs hb;rw[Nat.add_zero]at x0;go_wp2_with fail;refine HC.out.mono ?_;rintro e u ⟨rfl,hb⟩;have HB2:=hid (HB.out.trans (hb.mono HB.out.size));clear hb HC x0 x1 x2 x3 x4;cases hm:fK l[k] x == 0
   ·have HM:=hid hm;clear hm;go_wp2_with fail
    go_roundw
    case rel=>exact⟨k+1,by go_num,by omega,HB2,hid fun j h hjk=>by
     by_cases e:j=k
     ·subst e;exact HM.out
     ·exact HJ.out j h (by omega)⟩
    case measure=>simp[intOf];omega
   ·have HM:=hid hm;clear hm;go_wp2_with fail;go_ret;exact⟨.inl ⟨k,hlt,rfl,HJ.out,fun _=>HM.out⟩,HB2.out⟩
  ·go_wp2_with fail;go_ret;refine⟨.inr ⟨rfl,fun y hy=> ?_⟩,HB.out⟩;obtain⟨j,hj,rfl⟩:=List.mem_iff_getElem.1 hy;exact HJ.out j hj (by omega)
theorem fs.imp {S S':Nat→Prop}{x:VT}{B:Nat}{VA:Option Addr}{vc:Nat}{VA':Option Addr}{vc':Nat}{w:World}(h:fs S x B VA vc VA' vc' w)(hS: ∀b,S b→S' b):fs S' x B VA vc VA' vc' w:=⟨h.lt,h.c2,h.c3,h.c4,h.c5,h.c6,h.x.imp hS⟩
def dM (x:VT)(z:VT×List Value):Bool:= !(fK z.1 x == 0)
theorem oF {w:World}{S:Nat→Prop}{g:Nat}{C:Array Value}{Z:List (VT×List Value)}(hg:w.heap[g]? =some (.cells C 25 (0,0)))(hC: ∀t (ht:t<Z.length) k,k<5→C[t * 5+k]? =Z[t].2[k]?)(hZ: ∀z∈Z,LVC w S z.1 z.2.toArray):LVA w (fun b=>S b∨b=g) (some ⟨g,0,none⟩) (Z.map (·.1)):=
 rI fun _=>⟨g,0,rfl,.inr rfl,fun t ht=>by
  have ht':t<Z.length:=by simpa using ht
  have hlv:=hZ _ (List.getElem_mem ht');refine⟨Z[t].2.toArray,fun k v hv=> ?_,?_⟩
  ·have hv':Z[t].2[k]? =some v:=by simpa using hv
   have hk5:k<5:=by have:=(List.getElem?_eq_some_iff.1 hv').1;have:=sw hlv;omega
   rw[Nat.zero_add,Go.Joins.cell_of_block hg,hC t ht' k hk5];exact hv'
  ·rw[List.getElem_map]
   exact eg.imp hlv fun b hb=> .inl hb⟩
theorem uk {w:World}{S:Nat→Prop}{z:VT×List Value}(h:LVC w S z.1 z.2.toArray): ∃A c A' c',z.2= [.int .i64 z.1.kind,.int .i64 z.1.num,.string z.1.text,.slice A z.1.items.length c,.slice A' z.1.names.length c']:=by
 obtain⟨A,k,A',k',e,-⟩:=LV.shape (show LV w S z.1 (.agg z.2.toArray) from h);injection e with e
 exact⟨A,k,A',k',by simpa using congrArg Array.toList e⟩
theorem vR (S:Nat→Prop)(g cap:Nat)(Z:List (VT×List Value))(C0:Array Value)(x:VT)(B:Nat)(VA:Option Addr)(vc:Nat)(VA':Option Addr)(vc':Nat)(w:World)(hS: ∀b,S b→b<w.heap.size∧b≠g)(hB:B≠g)(hg:w.heap[g]? =some (.cells C0 25 (0,0)))(hsz:C0.size=cap * 5)(hcap:Z.length≤cap)(hm:cap≤9223372036854775807)
  (hC: ∀t (ht:t<Z.length) k,k<5→C0[t * 5+k]? =Z[t].2[k]?) (hZ: ∀z∈Z,LVC w S z.1 z.2.toArray) (hP:fs S x B VA vc VA' vc' w) (hl:Z.length≤100000) (hd: ∀z∈Z,ac z.1≤4611686018427387903) (dx:ac x≤4611686018427387903):
  Calls Tryz.prog 152 #[.slice (some ⟨g,0,none⟩) Z.length cap,.func (.func 154) #[] #[.pointer (some ⟨B,0,none⟩)]] w fun e w'=>e= .returned (.slice (some ⟨g,0,none⟩) ((Z.filter (dM x)).map (·.1)).length cap)∧LVA w' (fun b=>S b∨b=g) (some ⟨g,0,none⟩) ((Z.filter (dM x)).map (·.1))∧bZ w w' g:=by
 have hgl:g<w.heap.size:=(Array.getElem?_eq_some_iff.1 hg).1;have HS:=hid hS;have HG:=hid (And.intro hg (And.intro hsz (And.intro hC hZ)));have HP:=hid hP;have HD:=hid (And.intro hd (And.intro dx (And.intro hB hgl)));have HN:=hid (And.intro hl (And.intro hcap hm));obtain⟨n,hn⟩: ∃n,n=Z.length:=⟨_,rfl⟩;have HNZ:=hid hn;rw[←hn]
 have HIF:Hid (Calls Tryz.prog 173 #[.slice (some ⟨g,0,none⟩) n cap,.func (.func 154) #[] #[.pointer (some ⟨B,0,none⟩)]] w fun e w'=>((∃k:Nat,k<n∧e= .returned (.int .i64 (k:Int))∧(∀t (ht:t<Z.length),t<k→dM x Z[t]=true)∧ ∀h:k<Z.length,dM x Z[k]=false)∨(e= .returned (.int .i64 (-1))∧Z.filter (dM x)=Z))∧Below w.heap.size w w'):=hid (by
  have e:n=(Z.map (·.1)).length:=by rw[List.length_map];exact hn
  rw[e]
  refine(oz (fun b=>S b∨b=g) (some ⟨g,0,none⟩) cap (Z.map (·.1)) x B VA vc VA' vc' w (fun b hb=>hb.elim (fun h=>(hS b h).1) (fun h=>h▸hgl)) (oF hg hC hZ) (hP.imp fun b hb=> .inl hb) (by rw[List.length_map];omega) (fun y hy=>by
  obtain⟨z,hz,rfl⟩:=List.mem_map.1 hy
  exact hd z hz) dx).mono fun e' w' hh=>⟨?_,hh.2⟩
  rcases hh.1 with ⟨k,hk,he,hall,hx⟩|⟨he,hall⟩
  ·refine .inl ⟨k,hk,he,fun t ht htk=> ?_,fun h=> ?_⟩
   ·have:=hall t (by rw[List.length_map];exact ht) htk;rw[List.getElem_map]at this;unfold dM;rw[this];rfl
   ·have:=hx hk;rw[List.getElem_map]at this;unfold dM;rw[this];rfl
  ·refine .inr ⟨he,List.filter_eq_self.2 fun z hz=> ?_⟩;unfold dM;rw[hall z.1 (List.mem_map.2 ⟨z,hz,rfl⟩)]
   rfl)
 clear hS hg hsz hC hZ hP hd dx hB hl hgl hn hcap hm;go_enter Tryz.func152,Tryz.ntmps152;go_wp2_with fail;refine HIF.out.mono ?_;rintro e w1 ⟨h,hb1⟩;have HB1:=hid hb1;clear hb1 HIF;rcases h with ⟨k,hk,rfl,hall,hx⟩|⟨rfl,hall⟩
 rotate_left
 ·have HALL:=hid hall;clear hall;go_wp2_with fail;go_ret;rw[HALL.out];refine⟨by rw[List.length_map,HNZ.out];rfl,?_,fZ HB1.out⟩;exact(oF HG.out.1 HG.out.2.2.1 HG.out.2.2.2).keep fun b hb=>HB1.out.block b (hb.elim (fun h=>(HS.out b h).1) (fun h=>h▸HD.out.2.2.2))
 have hkz:k<Z.length:=by rw[←HNZ.out];exact hk
 have HST:Hid (fJ Z (dM x) g cap w w1 k (k+1)):=hid (fJ.start (fZ HB1.out) ((HB1.out.block g HD.out.2.2.2).trans HG.out.1) HG.out.2.1 HN.out.2.1 HG.out.2.2.1 hkz hall (hx hkz));have hne:((k:Int) == -1)=false:=beq_eq_false_iff_ne.2 (by omega);have hk9:(k:Int)+1≤9223372036854775807:=by have:=HN.out;have:=HNZ.out;omega
 clear hall hx hkz;go_wp2_with fail;clear hne hk9
 go_loopw [5,6,7] (fun s5 s6 _ wr=> ∃i j:Nat,s5= .int .i64 i∧s6= .int .i64 j∧i<j∧j≤n∧Hid (fJ Z (dM x) g cap w wr i j)) (fun _ s6 _ _=>n - (intOf s6).toNat)
 case atStart=>exact⟨k,k+1,rfl,by go_num,by omega,by omega,HST⟩
 case round=>
  clear HST hk;obtain⟨i,j,rfl,rfl,hij,hj,HI⟩:=hrel;have HSW:Hid (∀b,S b→b<wr.heap.size∧b≠g):=hid fun b hb=>⟨Nat.lt_of_lt_of_le (HS.out b hb).1 HI.out.only.size,(HS.out b hb).2⟩;have HZW:Hid (∀z∈Z,LVC wr S z.1 z.2.toArray):=hid fun z hz=>eg.keep (HG.out.2.2.2 z hz) (cr HI.out.only HS.out);by_cases hlt:j<n
  ·have hjz:j<Z.length:=by rw[←HNZ.out];exact hlt
   obtain⟨y,hy⟩: ∃y,y=Z[j]:=⟨_,rfl⟩;have hlv:=HZW.out _ (List.getElem_mem hjz);rw[←hy]at hlv;obtain⟨A1,k1,A1',k1',hcs⟩:=uk hlv;have HY:=hid (And.intro hy (And.intro hjz hcs));obtain⟨C,c1,c2,c3,c4⟩:=HI.out.cells
   have hcell: ∀t v,y.2[t]? =some v→t<5→wr.cell? ⟨g,j * 5+t,none⟩=some v:=fun t v hv ht=>by
    rw[Go.Joins.cell_of_block c1,c4 j hjz (Nat.le_refl _) t ht,←hy];exact hv
   have x0:=hcell 0 _ (by rw[hcs];rfl) (by omega);have x1:=hcell 1 _ (by rw[hcs];rfl) (by omega);have x2:=hcell 2 _ (by rw[hcs];rfl) (by omega);have x3:=hcell 3 _ (by rw[hcs];rfl) (by omega);have x4:=hcell 4 _ (by rw[hcs];rfl) (by omega);rw[Nat.add_zero]at x0;obtain⟨w2,hw2⟩: ∃W,W=wr.alloc (.cells #[.int .i64 y.1.kind,.int .i64 y.1.num,.string y.1.text,.slice A1 y.1.items.length k1,.slice A1' y.1.names.length k1'] 25):=⟨_,rfl⟩;have hbx:Box w2 wr.heap.size (.int .i64 y.1.kind) (.int .i64 y.1.num) (.string y.1.text) (.slice A1 y.1.items.length k1) (.slice A1' y.1.names.length k1'):=by rw[hw2];exact Box.new ..
   have hb2:Below wr.heap.size wr w2:=by rw[hw2];exact ae _
   have hlv':LV w2 S y.1 (.agg #[.int .i64 y.1.kind,.int .i64 y.1.num,.string y.1.text,.slice A1 y.1.items.length k1,.slice A1' y.1.names.length k1']):=by
    have h:=hlv;unfold LVC at h;rw[hcs]at h;exact LV.keep (fun b hb=>hb2.block b (HSW.out b hb).1) h
   have HC:=hid (mN S y.1 x _ B VA vc VA' vc' w2 (fun b hb=>Nat.lt_of_lt_of_le (HSW.out b hb).1 hb2.size) hlv' ((HP.out.later HS.out HD.out.2.2.1 HI.out.only).below (fun b hb=>(HSW.out b hb).1) hb2) (by rw[hy];exact HD.out.1 _ (List.getElem_mem hjz)) HD.out.2.1);have HI2:=hid (HI.out.call hb2 HI.out.lt);have HBX:=hid hbx;have y0:=hbx.c0;have y1:=hbx.c1;have y2:=hbx.c2;have y3:=hbx.c3;have y4:=hbx.c4;have hj9:(j:Int)+1≤9223372036854775807:=by have:=HN.out;have:=HNZ.out;omega
   have hi9:(i:Int)+1≤9223372036854775807:=by omega
   clear hlv hlv' hcs hy c1 c2 c3 c4 hcell hbx hb2 HI;rw[hw2]at y0 y1 y2 y3 y4;go_wp2_with fail;rw[←hw2];clear hw2 y0 y1 y2 y3 y4 x0 x1 x2 x3 x4;refine HC.out.mono ?_;rintro e u ⟨rfl,hb⟩;have HI3:=hid (HI2.out.call hb HI2.out.lt);have HB3:=hid (HBX.out.call hb);clear hb HC HI2 HBX;cases hm:fK y.1 x == 0
   ·have HX:Hid (dM x (Z[j]'(HY.out.2.1))=true):=hid (by rw[←HY.out.1];unfold dM;rw[hm];rfl);obtain⟨C,c1,c2,c3,c4⟩:=HI3.out.cells;have hroom:i * 5+5≤C.size:=by rw[c2];have:=HN.out;have:=HNZ.out;omega
    have HGU:=hid c1;have HGL:Hid (∀C' w7,C'=cM C (i * 5) [.int .i64 y.1.kind,.int .i64 y.1.num,.string y.1.text,.slice A1 y.1.items.length k1,.slice A1' y.1.names.length k1']→w7.heap[g]? =some (.cells C' 25 (0,0))→bZ u w7 g→fJ Z (dM x) g cap w w7 (i+1) (j+1)):=hid fun C' w7 h1 h2 h3=>HI3.out.stay HY.out.2.1 HX.out (by rw[←HY.out.1,HY.out.2.2];rfl) c1 (by rw[h1,←HY.out.1,HY.out.2.2]) h2 h3;have z0:=HB3.out.c0;have z1:=HB3.out.c1;have z2:=HB3.out.c2;have z3:=HB3.out.c3;have z4:=HB3.out.c4;clear c1 c2 c3 c4 hm HI3 HX;go_wp2_with(refine aS (by rfl) 25 _ _ rfl rfl g (i * 5) rfl _ #[.int .i64 y.1.kind,.int .i64 y.1.num,.string y.1.text,.slice A1 y.1.items.length k1,.slice A1' y.1.names.length k1'] rfl rfl _ _ 25 HGU.out hroom (by kernel_rfl) (by simp[Value.oneCell']) rfl ?_;intro w7 hk ho hz;have HI7:=hid (HGL.out _ w7 rfl hk ho);clear hk ho hz)
    go_roundw
    case rel=>exact⟨i+1,j+1,by go_num,by go_num,by omega,by omega,HI7⟩
    case measure=>simp[intOf];omega
   ·have HX:Hid (dM x (Z[j]'(HY.out.2.1))=false):=hid (by rw[←HY.out.1];unfold dM;rw[hm];rfl);have HI7:=hid (HI3.out.out HY.out.2.1 HX.out);clear hm HI3 HX;go_wp2_with fail
    go_roundw
    case rel=>exact⟨i,j+1,rfl,by go_num,by omega,by omega,HI7⟩
    case measure=>simp[intOf];omega
  ·obtain rfl:j=n:=by omega
   have hnc:j≤cap:=by have:=HN.out;have:=HNZ.out;omega
   obtain⟨C,c1,c2,-,-⟩:=HI.out.cells;have hcl: ∀ty,(Builtin.clear_ #[22] ty #[.slice (some ⟨g,i * 5,none⟩) (j - i) (cap - i)]).run Tryz.prog wr= .ok (.tuple #[]) (wr.setCells g (i * 5) (eF (j - i))):=fun ty=>gW wr ty g (i * 5) _ _ (by omega) (fun t ht=>by rw[Go.Joins.cell_of_block c1,Array.getElem?_eq_getElem (by omega)];rfl) (fun t _=>Go.Joins.unfrozen_of_block c1 _);have HCC:=hid (And.intro c1 c2);have hic:i≤cap:=by omega
   have hne2: ¬cap=i:=by omega
   have hin:i≤j:=by omega
   have hcap9:=HN.out.2.2;clear c1 c2;obtain⟨w8,hw8⟩: ∃W,W=wr.setCells g (i * 5) (eF (j - i)):=⟨_,rfl⟩;have HW8:=hid hw8;rw[←hw8]at hcl;clear hw8;go_wp2_with fail;go_ret;have hjz:j=Z.length:=HNZ.out;have hI:=HI.out;rw[hjz]at hI;have hb8:w8.heap[g]? =some (.cells (cM C (i * 5) (eF (j - i))) 25 (0,0)):=by rw[HW8.out];exact fS _ _ _ HCC.out.1
   have ho8:bZ wr w8 g:=by
    rw[HW8.out];obtain⟨q1,q2,q3,q4,q5⟩:=dK g (eF (j - i)) (i * 5) wr;exact⟨q1,q2,q3,by rw[q4];exact Nat.le_refl _,fun b _ hb=>q5 b (by intro e;apply hb;rw[e])⟩
   obtain⟨r1,r2⟩:=fJ.done (S:=S) hI HZW.out hb8 (fun C1 hC1 m hm=>by
    rw[HCC.out.1]at hC1;injection hC1 with hC1
    injection hC1 with hC1
    subst hC1
    exact eb _ _ _ _ (.inl hm)) (cr ho8 HSW.out)
   exact⟨by rw[←r2];rfl,r1,js hI.only ho8⟩
end Go.Proofs.YtgbopnlpaabelaaGreatDoor
