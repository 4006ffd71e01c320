/- Rows of changes of the call's own. -/
import Derived.Test.YtgfidiocmiolpaaGreatKCodA
import Derived.Test.YtgfidiocmiolpaaGreatKRegR
import Derived.Test.YtgfidiocmiolpaaGreatKCodX
import Derived.Test.YtgfidiocmiolpaaGreatKCodS
import Derived.Test.YtgfidiocmiolpaaGreatKLook
import Derived.Test.YtgfidiocmiolpaaGreatKRefM
import Derived.Laws.OwnMore
import Derived.Laws.AppendOwnNone
import Derived.Lib.AppendZerosOnto
import Derived.Lib.AppendZeros
import Derived.Lib.SliceRun
import Derived.Maps.AppendAt
set_option maxHeartbeats 64000000
set_option maxRecDepth 100000
set_option linter.unusedVariables false
set_option linter.unusedSimpArgs false
namespace Go.Proofs.YtgfidiocmiolpaaGreat
open Go.RowKit
theorem Tryz.infoDlt :(Tryz.prog.info? 114).map (fun i=>(i.zero,i.size,i.bytes))=some (some (.agg #[.int .i64 0,.slice none 0 0,.int .i64 0,.int .i64 0,.string ⟨#[]⟩,.slice none 0 0,.slice none 0 0,.int .i64 0]),8,120):=by kernel_rfl
def dK (w:World)(S:Nat→Prop):List aS→List Value→Prop
 | [],xs=>xs= []
 |o::l,xs=> ∃c r,xs=c++r∧ee w S o c.toArray∧dK w S l r
section
variable {w w':World} {S S':Nat→Prop}
theorem ee.lenL {o:aS}{cs:List Value}(h:ee w S o cs.toArray):cs.length=8:=by
 have:=h.size;simpa using this
theorem ee.oneL {o:aS}{cs:List Value}(h:ee w S o cs.toArray): ∀u∈cs,u.oneCell'=true:=by
 obtain⟨PA,pc,VA,vc,VA',vc',h1,-⟩:=h;simp only[Array.mk.injEq]at h1;subst h1;intro u hu;simp only[List.mem_cons,List.not_mem_nil,or_false]at hu;rcases hu with rfl|rfl|rfl|rfl|rfl|rfl|rfl|rfl<;>rfl
theorem dK.keep (hk: ∀b,S b→w'.heap[b]? =w.heap[b]?): ∀ {l:List aS} {xs:List Value},dK w S l xs→dK w' S l xs
 | [],_,h=>h
 |_::_,_,h=>by obtain⟨c,r,h0,h1,h2⟩:=h;exact⟨c,r,h0,h1.keep hk,dK.keep hk h2⟩
theorem dK.imp (hS: ∀b,S b→S' b): ∀ {l:List aS} {xs:List Value},dK w S l xs→dK w S' l xs
 | [],_,h=>h
 |_::_,_,h=>by obtain⟨c,r,h0,h1,h2⟩:=h;exact⟨c,r,h0,h1.imp hS,dK.imp hS h2⟩
theorem dK.push {o:aS}{cs:List Value}(ho:ee w S o cs.toArray): ∀ {l:List aS} {xs:List Value},dK w S l xs→dK w S (l++[o]) (xs++cs)
 | [],xs,h=>by have h:xs= []:=h;subst h;exact⟨cs,[],by simp,ho,rfl⟩
 |p::l,xs,h=>by
  obtain⟨c,r,rfl,h1,h2⟩:=h;exact⟨c,r++cs,by rw[List.append_assoc],h1,dK.push ho h2⟩
theorem dK.at : ∀ {l:List aS} {xs:List Value},dK w S l xs→ ∀i (hi:i<l.length),∃cs:List Value,ee w S l[i] cs.toArray∧ ∀j,j<8→xs[i * 8+j]? =cs[j]?
 | [],_,_,i,hi=>absurd hi (by simp)
 |o::l,xs,h,i,hi=>by
  obtain⟨c,r,rfl,h1,h2⟩:=h
  cases i with
  |zero=>
   refine⟨c,h1,fun j hj=> ?_⟩;rw[List.getElem?_append_left (by rw[h1.lenL];omega)]
   congr 1;omega
  |succ i=>
   obtain⟨cs,h3,h4⟩:=dK.at h2 i (by simpa using hi);refine⟨cs,h3,fun j hj=> ?_⟩;rw[List.getElem?_append_right (by rw[h1.lenL];omega),h1.lenL,←h4 j hj]
   congr 1;omega
theorem dK.rows {B:Nat}{A:Option Addr}{c n:Nat}{l:List aS}{xs:List Value}(h:dK w S l xs)(ho:w.ownsRow B 114 8 (.slice A n c) n xs)(hn:n=l.length)(hS: ∀b,S b→S' b)(hrow: ∀p,(Value.slice A n c).ownBlock=some p→S' p):bD w S' A l:=fun hp=>by
 subst hn;rcases ho.2 with ⟨-,h0⟩|⟨g,cap,cur,e,hB,hh,hr⟩
 ·omega
 ·injection e with e1 e2 e3
  subst e1 e3;refine⟨g,0,rfl,hrow g rfl,fun i hi=> ?_⟩;obtain⟨cs,h4,h5⟩:=h.at i hi;refine⟨cs.toArray,fun j v hv=> ?_,h4.imp hS⟩;have hv':cs[j]? =some v:=by simpa using hv
  have hj:j<8:=by have:=(List.getElem?_eq_some_iff.1 hv').1;have:=h4.lenL;omega
  have h6:=ho.cells (g:=g) rfl (i * 8+j) v (by rw[h5 j hj];exact hv');rw[add_at,Nat.zero_add]at h6;rw[Nat.zero_add];exact h6
end
def bT (w0:World)(w:World)(A:Option Addr)(c:Nat)(l:List aS):Prop:=
 ∃xs,∃S:Nat→Prop,w.ownsRow w0.heap.size 114 8 (.slice A l.length c) l.length xs∧dK w S l xs∧ ∀b,S b→w0.heap.size≤b∧b<w.heap.size∧ ∀p,(Value.slice A l.length c).ownBlock=some p→b≠p
theorem bT.nil (w0 w:World):bT w0 w none 0 []:=⟨[],fun _=>False,World.ownsRow_nil _ _ _ _,rfl,fun _ h=>h.elim⟩
theorem bT.only {w0 w w':World}{A:Option Addr}{c g:Nat}{l:List aS}(h:bT w0 w A c l)(ho:az w w' g)(hg:g<w0.heap.size):bT w0 w' A c l:=by
 obtain⟨xs,S,h1,h2,h3⟩:=h;refine⟨xs,S,⟨h1.1,h1.2.imp id ?_⟩,h2.keep fun b hb=>ho.block b (h3 b hb).2.1 (by rintro⟨⟩;have:=(h3 _ hb).1;omega),fun b hb=>⟨(h3 b hb).1,Nat.lt_of_lt_of_le (h3 b hb).2.1 ho.size,(h3 b hb).2.2⟩⟩;rintro⟨q,cap,cur,e,hB,hh,hr⟩;exact⟨q,cap,cur,e,hB,(ho.block q (Array.getElem?_eq_some_iff.1 hh).1 (by rintro⟨⟩;omega)).trans hh,hr⟩
theorem bT.rows {w0 w:World}{A:Option Addr}{c:Nat}{l:List aS}(h:bT w0 w A c l):bD w (eW w0.heap.size w) A l:=by
 obtain⟨xs,S,h1,h2,h3⟩:=h;exact h2.rows h1 rfl (fun b hb=>⟨(h3 b hb).1,(h3 b hb).2.1⟩) (fun p hp=>World.ownsRow.lt h1 p hp)
theorem bT.cap {w0 w:World}{A:Option Addr}{c:Nat}{l:List aS}(h:bT w0 w A c l):l.length≤c:=by
 obtain⟨xs,S,h1,-⟩:=h;rcases h1.2 with ⟨e,h0⟩|⟨g,cap,cur,e,-,-,hc,-⟩
 ·omega
 ·injection e with _ _ e;omega
theorem bT.push {w0 w W:World}{p cap n c:Nat}{A:Option Addr}{xs cs:List Value}{S S2:Nat→Prop}{o:aS}{l:List aS}(hn:n=l.length)
  (hb:w.grownBy W (Value.slice A n c).ownBlock) (hw:j8 w (.slice A n c) (.slice (some ⟨p,0,none⟩) (n+1) cap)) (hown:W.ownsRow w0.heap.size 114 8 (.slice (some ⟨p,0,none⟩) (n+1) cap) (n+1) (xs++cs)) (hl:dK w S l xs) (hone:ee w S2 o cs.toArray)
  (hS: ∀b,S b→w0.heap.size≤b∧b<w.heap.size∧ ∀p,(Value.slice A n c).ownBlock=some p→b≠p) (hS2: ∀b,S2 b→w0.heap.size≤b∧b<w.heap.size∧ ∀p,(Value.slice A n c).ownBlock=some p→b≠p):
  bT w0 W (some ⟨p,0,none⟩) cap (l++[o]):=by
 subst hn;have hlen:(l++[o]).length=l.length+1:=by simp
 have hk: ∀b,b<w.heap.size→(∀p,(Value.slice A l.length c).ownBlock=some p→b≠p)→W.heap[b]? =w.heap[b]? :=fun b h1 h3=>hb.block b h1 (fun e=>h3 b e.symm rfl);refine⟨xs++cs,fun b=>S b∨S2 b,by rw[hlen];exact hown,dK.push ((hone.keep fun b hb'=>hk b (hS2 b hb').2.1 (hS2 b hb').2.2).imp fun b h=> .inr h) ((dK.keep (fun b hb'=>hk b (hS b hb').2.1 (hS b hb').2.2) hl).imp fun b h=> .inl h),?_⟩;intro b hb';have hc:w0.heap.size≤b∧b<w.heap.size∧ ∀p,(Value.slice A l.length c).ownBlock=some p→b≠p:=hb'.elim (hS b) (hS2 b);refine⟨hc.1,Nat.lt_of_lt_of_le hc.2.1 hb.size,fun q hq=> ?_⟩;have hq:p=q:=by simpa[Value.ownBlock]using hq
 subst hq;rcases hw with hw|⟨q,hq,e⟩
 ·exact hc.2.2 p hw.symm
 ·injection e with e
  have e:p=q:=e;omega
theorem bT.alloc {w0 w:World}{A:Option Addr}{c:Nat}{l:List aS}(h:bT w0 w A c l)(o:Obj):bT w0 (w.alloc o) A c l:=by
 obtain⟨xs,S,h1,h2,h3⟩:=h;have hk: ∀b,b<w.heap.size→(w.alloc o).heap[b]? =w.heap[b]? :=fun b hb=>Below.heap_alloc w o b hb;refine⟨xs,S,⟨h1.1,h1.2.imp id ?_⟩,h2.keep fun b hb=>hk b (h3 b hb).2.1,fun b hb=>⟨(h3 b hb).1,by have:=(h3 b hb).2.1;simp;omega,(h3 b hb).2.2⟩⟩;rintro⟨q,cap,cur,e,hB,hh,hr⟩;exact⟨q,cap,cur,e,hB,(hk q (Array.getElem?_eq_some_iff.1 hh).1).trans hh,hr⟩
theorem bT.own {w0 w:World}{A:Option Addr}{c:Nat}{l:List aS}(h:bT w0 w A c l): ∀p,(Value.slice A l.length c).ownBlock=some p→w0.heap.size≤p∧p<w.heap.size:=by
 obtain⟨xs,S,h1,-⟩:=h;exact fun p hp=>World.ownsRow.lt h1 p hp
theorem tU {w:World}{B n k:Nat}{t:TypeId}{v:Value}{xs:List Value}(h:w.ownsRow B t k v n xs)(hn:0<n): ∃p cap,v= .slice (some ⟨p,0,none⟩) n cap:=by
 rcases h.2 with ⟨-,h0⟩|⟨g,cap,cur,h1,-⟩
 ·omega
 ·exact⟨g,cap,h1⟩
theorem vJ (w:World)(cs:List Value)(t:TypeId): ∀j u,cs[j]? =some u→(w.alloc (.cells cs.toArray t)).cell? ((⟨w.heap.size,0,none⟩:Addr).add j)=some u:=fun j u h=>by
 rw[add_at,Nat.zero_add];exact(Go.Joins.cell_of_block (heap_alloc_new w _) j).trans (by simpa using h)
open Lib (hid)
theorem vk {w:World}{B n k:Nat}{t:TypeId}{v:Value}{xs:List Value}(h:w.ownsRow B t k v n xs): ∃A c,v= .slice A n c∧(A=none→c=0)∧n≤c:=by
 rcases h.2 with ⟨e,h0⟩|⟨g,cap,cur,e,-,-,hc,-⟩
 ·exact⟨none,0,by rw[e,h0],fun _=>rfl,by omega⟩
 ·exact⟨_,_,e,fun h=>(by cases h),hc⟩
theorem jC {α:Type}(a:Array α)(i j:Nat)(v:α):(a.setIfInBounds i v)[j]? =if i=j then(if j<a.size then some v else none)else a[j]? :=by
 rw[Array.getElem?_setIfInBounds];by_cases h:i=j
 ·subst h;simp
 ·rw[if_neg h,if_neg h]
def rdD (st:Option (List UInt8)):aS×Option (List UInt8):=
 if(al st).1=1 then(⟨1,(bo (al st).2).1,(bE (bo (al st).2).2).1,0⟩,(bE (bo (al st).2).2).2)
 else if(al st).1=3 then(⟨3,(bo (al st).2).1,aO,((ah 999 (bo (al st).2).2).1:Nat)⟩,(ah 999 (bo (al st).2).2).2)
 else(⟨(al st).1,(bo (al st).2).1,aO,0⟩,(bo (al st).2).2)
theorem gb {fn:Func}{p:Tmp}(h:fn.results= #[.cell p 114])(tmps:Array Value)(w:World)(g:Nat)(t:TypeId)(cs:Array Value)(fr:Nat×Nat)
  (hp:tmps.getD p undef= .pointer (some ⟨g,0,none⟩)) (hg:w.heap[g]? =some (.cells cs t fr)) (hi:(Tryz.prog.info? 114).map (·.size)=some cs.size):
  (results fn tmps).run Tryz.prog w= .ok (.agg cs) w:=by
 have hp':tmps[p]?.getD undef= .pointer (some ⟨g,0,none⟩):=by simpa using hp
 have e:=run_loadVar_row w g t 114 cs fr _ hg Tryz.underlying114 rfl hi;simp[results,h,hp',asAddr,Sem.run_bind,Result.andThen,e]
theorem wU {w:World}{B n k c:Nat}{t:TypeId}{A:Option Addr}{xs:List Value}(h:w.ownsRow B t k (.slice A n c) n xs):A=none→c=0:=by
 obtain⟨A',c',e,h1,-⟩:=vk h;injection e with e1 e2 e3
 subst e1 e3;exact h1
def yr (g:Nat)(st:Option (List UInt8))(w:World)(e:Ending)(w':World):Prop:=
 ∃cs:Array Value,e= .returned (.agg cs)∧ee w' (eW w.heap.size w') (rdD st).1 cs∧aK w' g (rdD st).2∧az w w' g
theorem pV {w W:World}{g:Nat}{st:Option (List UInt8)}{S:Nat→Prop}{c0 c1 c2 c3 c4 c5 c6 c7:Value}(hs:aK W g (rdD st).2)(ho:az w W g)(hg:g<w.heap.size)(h:ee W S (rdD st).1 #[c0,c1,c2,c3,c4,c5,c6,c7])(hS: ∀b,S b→w.heap.size+1≤b∧b<W.heap.size):
  yr g st w (.returned (.agg #[c0,c1,c2,c3,c4,c5,c6,c7])) (fT W w.heap.size c0 c1 c2 c3 c4 c5 c6 c7):=by
 have hz:(fT W w.heap.size c0 c1 c2 c3 c4 c5 c6 c7).heap.size=W.heap.size:=rH;refine⟨_,rfl,(h.keep fun b hb=>iq b (by have:=hS b hb;omega)).imp fun b hb=> ?_,hs.of (iq g (by omega)),?_⟩
 ·have:=hS b hb;exact⟨by omega,by rw[hz];omega⟩
 ·exact⟨iI.1.trans ho.os,iI.2.1.trans ho.tape,iI.2.2.trans ho.output,by rw[hz];exact ho.size,fun b hb hne=>(iq b (by omega)).trans (ho.block b hb hne)⟩
theorem uZ (g:Nat)(st:Option (List UInt8))(w:World)(hs:aK w g st):Calls Tryz.prog 164 #[.pointer (some ⟨g,0,none⟩)] w (yr g st w):=by
 have hgl:=hs.lt;have HC:=hid (eU g st _ (hs.alloc (.cells #[.int .i64 0,.slice none 0 0,.int .i64 0,.int .i64 0,.string ⟨#[]⟩,.slice none 0 0,.slice none 0 0,.int .i64 0] 114)));have hr0:bJ (w.alloc (.cells #[.int .i64 0,.slice none 0 0,.int .i64 0,.int .i64 0,.string ⟨#[]⟩,.slice none 0 0,.slice none 0 0,.int .i64 0] 114)) w.heap.size _ _ _ _ _ _ _ _:=bJ.new w _ _ _ _ _ _ _ _;have ho0:az w (w.alloc (.cells #[.int .i64 0,.slice none 0 0,.int .i64 0,.int .i64 0,.string ⟨#[]⟩,.slice none 0 0,.slice none 0 0,.int .i64 0] 114)) g:=⟨rfl,rfl,rfl,by simp,fun b hb _=>Below.heap_alloc w _ b hb⟩;have HR0:=hid hr0;have HO0:=hid ho0;clear hs hr0 ho0;go_enter Tryz.func164,Tryz.ntmps164;go_wp2_with fail;refine HC.out.mono ?_;rintro e w1 ⟨rfl,hs1,ho1⟩;obtain⟨n,hn⟩: ∃n,n=(al st).1:=⟨_,rfl⟩;obtain⟨s1,hs1'⟩: ∃s1,s1=(al st).2:=⟨_,rfl⟩;rw[←hs1']at hs1;rw[←hn];have hn256:n<256:=by rw[hn];exact kK st
 have hr1:=HR0.out.only ho1 (by omega);have hl1:=hr1.lt;obtain⟨X,hX⟩: ∃X:Obj,X= .cells #[.int .i64 n,.slice none 0 0,.int .i64 0,.int .i64 0,.string ⟨#[]⟩,.slice none 0 0,.slice none 0 0,.int .i64 0] 114:=⟨_,rfl⟩;have hq2:bJ (w1.alloc X) w1.heap.size (.int .i64 n) (.slice none 0 0) (.int .i64 0) (.int .i64 0) (.string ⟨#[]⟩) (.slice none 0 0) (.slice none 0 0) (.int .i64 0):=by rw[hX];exact bJ.new w1 _ _ _ _ _ _ _ _
 have HN:=hid hn;have HS1:=hid hs1';have HO2:=hid ((HO0.out.trans ho1).trans (show az w1 (w1.alloc X) g from⟨rfl,rfl,rfl,by simp,fun b hb _=>Below.heap_alloc w1 _ b hb⟩));have HP:=hid (pt g s1 (w1.alloc X) (hs1.alloc X));have HR2:=hid (hr1.alloc X);have HQ2:=hid hq2;have hz2:(w1.alloc X).heap.size=w1.heap.size+1:=by simp
 have HZ2:=hid hz2;rw[hX]at HP;rw[hX]at HO2 HR2 HQ2 HZ2;clear hs1 ho1 hn hs1' HC hX HR0 HO0 hr1 hq2 hz2;go_wp2_with fail;refine HP.out.mono ?_;rintro e w3 ⟨A,c,rfl,hrow3,hs3,ho3⟩;have hcA:A=none→c=0:=wU hrow3;obtain⟨hc3,hst3⟩:=xG hrow3 (by unfold bo;exact qT _ _);have hp8:=qC s1;obtain⟨P,hP⟩: ∃P,P=(bo s1).1:=⟨_,rfl⟩;obtain⟨s2,hs2'⟩: ∃s,s=(bo s1).2:=⟨_,rfl⟩;rw[←hP]at hc3 hst3 hp8 ⊢;rw[←hs2']at hs3;have hr3:=HR2.out.only ho3 (by omega);have hq3:=HQ2.out.only ho3 (by omega);have ho4:=HO2.out.trans ho3;have hz3:w1.heap.size+1≤w3.heap.size:=by have:=ho3.size;have:=HZ2.out;omega
 have hst4:=hst3.imp (S':=fun b=>w1.heap.size+1≤b∧b<w3.heap.size) fun b hb=>by rw[HZ2.out]at hb;exact hb
 obtain⟨w4,hw4⟩: ∃W,W=w3.setCell ⟨w1.heap.size,1,none⟩ (.slice A P.length c):=⟨_,rfl⟩;have k4: ∀b,b≠w1.heap.size→w4.heap[b]? =w3.heap[b]? :=fun b hb=>by rw[hw4];exact heap_setCell_other _ ⟨w1.heap.size,1,none⟩ b _ hb
 have z4:w4.heap.size=w3.heap.size:=by rw[hw4];simp
 have hq4:=hq3.set1 (.slice A P.length c);rw[←hw4]at hq4;have hr4:=hr3.other w1.heap.size 1 (.slice A P.length c) (by omega);rw[←hw4]at hr4;have hs4:aK w4 g s2:=hs3.of (k4 g (by omega));have ho5:az w w4 g:=⟨by rw[hw4];exact ho4.os,by rw[hw4];exact ho4.tape,by rw[hw4];exact ho4.output,by rw[z4];exact ho4.size,fun b hb hne=>(k4 b (by omega)).trans (ho4.block b hb hne)⟩;have hst5:aA w4 (fun b=>w1.heap.size+1≤b∧b<w4.heap.size) A P:=(hst4.keep fun b hb=>k4 b (by omega)).imp fun b hb=>by rw[z4];exact hb
 have HQ4:=hid hq4;have HR4:=hid hr4;have HS4:=hid hs4;have HO5:=hid ho5;have HST:=hid hst5;have HPP:=hid (And.intro hP hs2');have HC3:=hid (And.intro hc3 hcA);have HZ4:=hid (show w1.heap.size+1≤w4.heap.size by omega);have HL:=hid (And.intro hl1 hp8);have HN256:=hid hn256;have HP6:=hid (cy g s2 999 w4 hs4 (by omega));have HV6:=hid (gA g s2 w4 hs4);have q3f:=fun i=>hq3.free i;have q30:=hq3.g0;have q31:=hq3.g1;have q32:=hq3.g2;have q33:=hq3.g3;have q34:=hq3.g4;have q35:=hq3.g5;have q36:=hq3.g6;have q37:=hq3.g7;have r3f:=fun i=>hr3.free i;clear hrow3 hs3 ho3 hcA hc3 hst3 hP hs2' hr3 hq3 ho4 hst4 k4 z4 hq4 hr4 hs4 ho5 hst5 HP HO2 HR2 HQ2 HZ2 hz3 hp8 hn256;by_cases h1:n=1
 ·have d1:((n:Int) == 1)=true:=beq_iff_eq.2 (by omega);have H6:=hid h1;rw[hw4]at HV6;clear HP6 h1;go_wp2_with fail;refine HV6.out.mono ?_;rintro e w5 ⟨v,rfl,hs5,ho5,hv5⟩;rw[←hw4]at ho5 hv5;obtain⟨VA,vc,VA',vc',rfl,-⟩:=hv5.shape;obtain⟨t,ht⟩: ∃t,t=(bE s2).1:=⟨_,rfl⟩;obtain⟨s3,hs3'⟩: ∃s,s=(bE s2).2:=⟨_,rfl⟩;rw[←ht]at hv5 ⊢;rw[←hs3']at hs5;have hz4:=HZ4.out;have hl:=HL.out;have hz5:=ho5.size;have hq5:=HQ4.out.only ho5 (by omega);have hr5:=HR4.out.only ho5 (by omega);obtain⟨w6,hw6⟩: ∃W,W=dw w5 w1.heap.size 2 (.int .i64 t.kind) (.int .i64 t.num) (.string t.text) (.slice VA t.items.length vc) (.slice VA' t.names.length vc'):=⟨_,rfl⟩;have k6: ∀b,b≠w1.heap.size→w6.heap[b]? =w5.heap[b]? :=fun b hb=>by rw[hw6];exact bS _ _ _ _ _ _ _ _ b hb
  have z6:w6.heap.size=w5.heap.size:=by rw[hw6];exact dW _ _ _ _ _ _ _ _
  have hq6:bJ (dw w5 w1.heap.size 2 (.int .i64 t.kind) (.int .i64 t.num) (.string t.text) (.slice VA t.items.length vc) (.slice VA' t.names.length vc')) w1.heap.size _ _ _ _ _ _ _ _:=((((hq5.set2 (.int .i64 t.kind)).set3 (.int .i64 t.num)).set4 (.string t.text)).set5 (.slice VA t.items.length vc)).set6 (.slice VA' t.names.length vc');have hr6:bJ w6 w.heap.size _ _ _ _ _ _ _ _:=(k6 w.heap.size (by omega)).trans hr5;rw[←hw6]at hq6;have hs6:aK w6 g s3:=hs5.of (k6 g (by omega))
  have ho6:az w w6 g:=by
   have h:=HO5.out.trans ho5;have r:=gF w5 w1.heap.size 2 (.int .i64 t.kind) (.int .i64 t.num) (.string t.text) (.slice VA t.items.length vc) (.slice VA' t.names.length vc');rw[←hw6]at r;exact⟨r.1.trans h.os,r.2.1.trans h.tape,r.2.2.trans h.output,by rw[z6];exact h.size,fun b hb hne=>(k6 b (by omega)).trans (h.block b hb hne)⟩
  have hv6:LV w6 (fun b=>w1.heap.size+1≤b∧b<w6.heap.size) t _:=(hv5.keep fun b hb=>k6 b (by have:=hb.1;omega)).imp fun b hb=>⟨by have:=hb.1;omega,by rw[z6];exact hb.2⟩;have hsp6:aA w6 (fun b=>w1.heap.size+1≤b∧b<w6.heap.size) A P:=(HST.out.keep fun b hb=>(k6 b (by have:=hb.1;omega)).trans (ho5.block b hb.2 (by rintro⟨⟩;have:=hb.1;omega))).imp fun b hb=>⟨hb.1,by have:=hb.2;omega⟩;have HQ6:=hid hq6;have HR6:=hid hr6;have HX6:=hid (And.intro hs6 (And.intro ho6 (And.intro hv6 (And.intro hsp6 (And.intro ht hs3')))));have q5f:=fun i=>hq5.free i;have u2:=hq5.g2;have u3:=hq5.g3;have u4:=hq5.g4;have u5:=hq5.g5;have u6:=hq5.g6;clear hs5 ho5 hv5 ht hs3' hq5 hr5 k6 z6 hs6 ho6 hv6 hsp6 HV6 HQ4 HR4 HS4 HO5 HST hw4;clear q3f q30 q31 q32 q33 q34 q35 q36 q37 r3f;subst hw6;have z4f:=fun i=>hq6.free i;have r4f:=fun i=>hr6.free i;have z0:=hq6.g0;have z1:=hq6.g1;have z2:=hq6.g2;have z3:=hq6.g3;have z4:=hq6.g4;have z5:=hq6.g5;have z6:=hq6.g6;have z7:=hq6.g7;have y0:=hr6.g0;have y1:=hr6.g1;have y2:=hr6.g2;have y3:=hr6.g3;have y4:=hr6.g4;have y5:=hr6.g5;have y6:=hr6.g6;have y7:=hr6.g7;clear hq6 hr6;simp only[dw]at z4f r4f z0 z1 z2 z3 z4 z5 z6 z7 y0 y1 y2 y3 y4 y5 y6 y7;go_wp2_with fail;refine bodyPost_ret (gb rfl _ _ w.heap.size 114 _ (0,0) rfl (jI HR6.out) (by kernel_rfl)) rfl ?_;have h1:=H6.out;subst h1;obtain⟨hs6,ho6,hv6,hsp6,ht,hs3'⟩:=HX6.out
  have e0:rdD st=(⟨1,P,t,0⟩,s3):=by
   unfold rdD;rw[if_pos HN.out.symm,←HS1.out,←HPP.out.1,←HPP.out.2,←ht,←hs3']
  refine pV (S:=fun b=>w1.heap.size+1≤b∧b<(dw w5 w1.heap.size 2 (.int .i64 t.kind) (.int .i64 t.num) (.string t.text) (.slice VA t.items.length vc) (.slice VA' t.names.length vc')).heap.size) (by rw[e0];exact hs6) ho6 hgl ?_ (fun b hb=>⟨by omega,hb.2⟩);rw[e0];have hn:=HN256.out;exact⟨A,c,_,_,_,_,rfl,hv6,hsp6,HC3.out.1,HC3.out.2,rI (k:=1) (by decide) (by decide),rI (k:=0) (by decide) (by decide),by show P.length≤_;omega⟩
 ·have d1:((n:Int) == 1)=false:=beq_eq_false_iff_ne.2 (by omega);have hg4:g<w4.heap.size:=HS4.out.lt;by_cases h6:n=3
  ·have d6:((n:Int) == 3)=true:=beq_iff_eq.2 (by omega);have H6:=hid h6;rw[hw4]at HP6;clear HV6 h6 h1;go_wp2_with fail;refine HP6.out.mono ?_;rintro e w5 ⟨rfl,hs5,ho5⟩;rw[←hw4]at ho5;have hT9:(ah 999 s2).1≤999:=b8 999 s2 (by omega);obtain⟨T,hT⟩: ∃T,T=(ah 999 s2).1:=⟨_,rfl⟩;obtain⟨s3,hs3'⟩: ∃s,s=(ah 999 s2).2:=⟨_,rfl⟩;rw[←hT]at hT9 ⊢;rw[←hs3']at hs5;have hz4:=HZ4.out;have hl:=HL.out;have hz5:=ho5.size;have hq5:=HQ4.out.only ho5 (by omega);have hr5:=HR4.out.only ho5 (by omega);obtain⟨w6,hw6⟩: ∃W,W=w5.setCell ⟨w1.heap.size,7,none⟩ (.int .i64 T):=⟨_,rfl⟩;have k6: ∀b,b≠w1.heap.size→w6.heap[b]? =w5.heap[b]? :=fun b hb=>by rw[hw6];exact heap_setCell_other _ ⟨w1.heap.size,7,none⟩ b _ hb
   have z6:w6.heap.size=w5.heap.size:=by rw[hw6];simp
   have hq6:=hq5.set7 (.int .i64 T);rw[←hw6]at hq6;have hr6:=hr5.other w1.heap.size 7 (.int .i64 T) (by omega);rw[←hw6]at hr6;have hs6:aK w6 g s3:=hs5.of (k6 g (by omega))
   have ho6:az w w6 g:=by
    have h:=HO5.out.trans ho5;exact⟨by rw[hw6];exact h.os,by rw[hw6];exact h.tape,by rw[hw6];exact h.output,by rw[z6];exact h.size,fun b hb hne=>(k6 b (by omega)).trans (h.block b hb hne)⟩
   have hsp6:aA w6 (fun b=>w1.heap.size+1≤b∧b<w6.heap.size) A P:=(HST.out.keep fun b hb=>(k6 b (by have:=hb.1;omega)).trans (ho5.block b hb.2 (by rintro⟨⟩;have:=hb.1;omega))).imp fun b hb=>⟨hb.1,by have:=hb.2;omega⟩;have HQ6:=hid hq6;have HR6:=hid hr6;have HX6:=hid (And.intro hs6 (And.intro ho6 (And.intro hsp6 (And.intro hT9 (And.intro hT hs3')))));have q5f:=fun i=>hq5.free i;have u7:=hq5.g7;clear hs5 ho5 hT9 hT hs3' hq5 hr5 k6 z6 hs6 ho6 hsp6 HP6 HQ4 HR4 HS4 HO5 HST hw4;clear q3f q30 q31 q32 q33 q34 q35 q36 q37 r3f;subst hw6;have z4f:=fun i=>hq6.free i;have r4f:=fun i=>hr6.free i;have z0:=hq6.g0;have z1:=hq6.g1;have z2:=hq6.g2;have z3:=hq6.g3;have z4:=hq6.g4;have z5:=hq6.g5;have z6:=hq6.g6;have z7:=hq6.g7;have y0:=hr6.g0;have y1:=hr6.g1;have y2:=hr6.g2;have y3:=hr6.g3;have y4:=hr6.g4;have y5:=hr6.g5;have y6:=hr6.g6;have y7:=hr6.g7;clear hq6 hr6;go_wp2_with fail;refine bodyPost_ret (gb rfl _ _ w.heap.size 114 _ (0,0) rfl (jI HR6.out) (by kernel_rfl)) rfl ?_;have h6:=H6.out;subst h6;obtain⟨hs6,ho6,hsp6,hT9,hT,hs3'⟩:=HX6.out
   have e0:rdD st=(⟨3,P,aO,(T:Nat)⟩,s3):=by
    unfold rdD;rw[if_neg (by rw[←HN.out];decide),if_pos HN.out.symm,←HS1.out,←HPP.out.1,←HPP.out.2,←hT,←hs3']
   refine pV (S:=fun b=>w1.heap.size+1≤b∧b<(w5.setCell ⟨w1.heap.size,7,none⟩ (.int .i64 T)).heap.size) (by rw[e0];exact hs6) ho6 hgl ?_ (fun b hb=>⟨by omega,hb.2⟩);rw[e0];exact⟨A,c,none,0,none,0,rfl,hJ _ _ _ _ _ (by unfold Rng;omega) (by unfold Rng;omega) (by decide),hsp6,HC3.out.1,HC3.out.2,rI (k:=3) (by decide) (by decide),(by unfold Rng;show(_:Int)≤((T:Nat):Int)∧((T:Nat):Int)≤_;omega),by show P.length≤_;omega⟩
  ·have d3:((n:Int) == 3)=false:=beq_eq_false_iff_ne.2 (by omega);have H2:=hid (And.intro h1 h6);clear h1 h6;subst hw4;clear HP6 HV6;have hq4:=HQ4.out;have hr4:=HR4.out;have z4f:=fun i=>hq4.free i;have r4f:=fun i=>hr4.free i;have z0:=hq4.g0;have z1:=hq4.g1;have z2:=hq4.g2;have z3:=hq4.g3;have z4:=hq4.g4;have z5:=hq4.g5;have z6:=hq4.g6;have z7:=hq4.g7;have y0:=hr4.g0;have y1:=hr4.g1;have y2:=hr4.g2;have y3:=hr4.g3;have y4:=hr4.g4;have y5:=hr4.g5;have y6:=hr4.g6;have y7:=hr4.g7;clear hq4 hr4;go_wp2_with fail;refine bodyPost_ret (gb rfl _ _ w.heap.size 114 _ (0,0) rfl (jI HR4.out) (by kernel_rfl)) rfl ?_
   have e0:rdD st=(⟨n,P,aO,0⟩,s2):=by
    obtain⟨h1,h3⟩:=H2.out;unfold rdD;rw[if_neg (by rw[←HN.out];omega),if_neg (by rw[←HN.out];omega),←HN.out,←HS1.out,←HPP.out.1,←HPP.out.2]
   have hl:=HL.out;refine pV (S:=fun b=>w1.heap.size+1≤b∧b<(w3.setCell ⟨w1.heap.size,1,none⟩ (.slice A P.length c)).heap.size) (by rw[e0];exact HS4.out) HO5.out hgl ?_ (fun b hb=>⟨by omega,hb.2⟩);rw[e0];have hn:=HN256.out;exact⟨A,c,none,0,none,0,rfl,hJ _ _ _ _ _ (by unfold Rng;omega) (by unfold Rng;omega) (by decide),HST.out,HC3.out.1,HC3.out.2,rI (k:=(n:Int)) (by omega) (by omega),rI (k:=0) (by decide) (by decide),by show P.length≤_;omega⟩
theorem vU (S:Nat→Prop)(d:aS)(cs:Array Value)(w:World)(hS: ∀b,S b→b<w.heap.size)(h:ee w S d cs)(hd:ap d.val≤4611686018427387903):
  Calls Tryz.prog 154 #[.agg cs] w fun e w'=>e= .returned (.bool (cr d))∧Below w.heap.size w w':=by
 obtain⟨PA,pc,VA,vc,VA',vc',rfl,hv,hp,hpc,hpn,hk,hn,hpl⟩:=h;obtain⟨w1,hw1⟩: ∃W,W=w.alloc (.cells #[.int .i64 d.kind,.slice PA d.path.length pc,.int .i64 d.val.kind,.int .i64 d.val.num,.string d.val.text,.slice VA d.val.items.length vc,.slice VA' d.val.names.length vc',.int .i64 d.num] 114):=⟨_,rfl⟩;have hbk:w1.heap[w.heap.size]? =some (.cells #[.int .i64 d.kind,.slice PA d.path.length pc,.int .i64 d.val.kind,.int .i64 d.val.num,.string d.val.text,.slice VA d.val.items.length vc,.slice VA' d.val.names.length vc',.int .i64 d.num] 114 (0,0)):=by rw[hw1];exact heap_alloc_new w _
 have hb1:Below w.heap.size w w1:=by rw[hw1];exact(Below.refl _ _).alloc (Nat.le_refl _) _
 have y0:=Go.Joins.cell_of_block hbk 0;have y1:=Go.Joins.cell_of_block hbk 1;have y2:=Go.Joins.cell_of_block hbk 2;have y3:=Go.Joins.cell_of_block hbk 3;have y4:=Go.Joins.cell_of_block hbk 4;have y5:=Go.Joins.cell_of_block hbk 5;have y6:=Go.Joins.cell_of_block hbk 6;have y7:=Go.Joins.cell_of_block hbk 7;have hS1: ∀b,S b→b<w1.heap.size:=fun b hb=>Nat.lt_of_lt_of_le (hS b hb) hb1.size;have hv1:=hv.keep fun b hb=>hb1.block b (hS b hb);have HMA:=hid (yk PA pc d.path w1 S (hp.keep fun b hb=>hb1.block b (hS b hb)) (by omega));have HCK:=hid (fN S d.val _ w1 hS1 hv1 hd);have HNO:=hid (lU S d.val _ w1 hS1 hv1);have HBK:=hid hbk;have HB1:=hid hb1;have HW1:=hid hw1;have HS:=hid hS;obtain⟨r,hr⟩: ∃r,r=cr d:=⟨_,rfl⟩;have HR:=hid hr;rw[←hr];clear hbk hb1 hS1 hv1 hv hp hpc hpn hk hn hpl hd hS hr;go_enter Tryz.func154,Tryz.ntmps154;go_wp2_with fail;rw[←hw1];clear hw1;refine HMA.out.mono ?_;rintro e w2 ⟨rfl,rfl⟩;clear HMA;cases hmp:iy d.path
 ·go_wp2_with fail;go_ret;exact⟨by rw[HR.out];unfold cr;rw[hmp];rfl,HB1.out⟩
 have HMP:=hid hmp;clear hmp;obtain⟨k,hk⟩: ∃k,k=d.kind:=⟨_,rfl⟩;rw[←hk]at y0;have HK:=hid hk.symm;clear hk;by_cases k1:k=1
 ·subst k1;go_wp2_with fail;refine HCK.out.mono ?_;rintro e w3 ⟨rfl,hb3⟩;have HB3:=hid (HB1.out.trans (hb3.mono HB1.out.size));have HBK3:=(hb3.block _ (Array.getElem?_eq_some_iff.1 HBK.out).1).trans HBK.out;have z7:=Go.Joins.cell_of_block HBK3 7;obtain⟨b1,d1⟩: ∃b,(ba d.val == 0)=b:=⟨_,rfl⟩;obtain⟨b2,d2⟩: ∃b,(d.num == 0)=b:=⟨_,rfl⟩
  have HE:Hid (cr d=(b1 && b2)):=hid (by
   rw[←d1,←d2];unfold cr;rw[HMP.out,HK.out];rw[Bool.eq_iff_iff]
   simp)
  clear hb3 HBK3 HCK;cases b1<;>cases b2
  all_goals
   go_wp2_with fail;go_ret;exact⟨by rw[HR.out,HE.out];rfl,HB3.out⟩
 have e1:=beq_false_of_ne k1;by_cases k2:k=2
 ·subst k2;go_wp2_with fail;refine HNO.out.mono ?_;rintro e w3 ⟨rfl,hb3⟩;have HB3:=hid (HB1.out.trans (hb3.mono HB1.out.size));have HBK3:=(hb3.block _ (Array.getElem?_eq_some_iff.1 HBK.out).1).trans HBK.out;have z7:=Go.Joins.cell_of_block HBK3 7;obtain⟨b1,d1⟩: ∃b,bO d.val=b:=⟨_,rfl⟩;obtain⟨b2,d2⟩: ∃b,(d.num == 0)=b:=⟨_,rfl⟩
  have HE:Hid (cr d=(b1 && b2)):=hid (by
   rw[←d1,←d2];unfold cr;rw[HMP.out,HK.out];rw[Bool.eq_iff_iff]
   simp)
  clear hb3 HBK3 HNO;cases b1<;>cases b2
  all_goals
   go_wp2_with fail;go_ret;exact⟨by rw[HR.out,HE.out];rfl,HB3.out⟩
 have e2:=beq_false_of_ne k2;by_cases k3:k=3
 ·subst k3;go_wp2_with fail;refine HNO.out.mono ?_;rintro e w3 ⟨rfl,hb3⟩;have HB3:=hid (HB1.out.trans (hb3.mono HB1.out.size));have HBK3:=(hb3.block _ (Array.getElem?_eq_some_iff.1 HBK.out).1).trans HBK.out;have z7:=Go.Joins.cell_of_block HBK3 7;obtain⟨b1,d1⟩: ∃b,bO d.val=b:=⟨_,rfl⟩;obtain⟨b2,d2⟩: ∃b,decide (d.num≥0)=b:=⟨_,rfl⟩;obtain⟨b3,d3⟩: ∃b,decide (d.num≤999)=b:=⟨_,rfl⟩
  have HE:Hid (cr d=(b1 && (b2 && b3))):=hid (by
   rw[←d1,←d2,←d3];unfold cr;rw[HMP.out,HK.out];rw[Bool.eq_iff_iff]
   simp)
  clear hb3 HBK3 HNO;cases b1<;>cases b2<;>cases b3
  all_goals
   go_wp2_with fail;go_ret;exact⟨by rw[HR.out,HE.out];rfl,HB3.out⟩
 have e3:=beq_false_of_ne k3
 have HN:Hid (cr d=false):=hid (by
  unfold cr;rw[HK.out]
  simp[k1,k2,k3])
 clear k1 k2 k3;go_wp2_with fail;go_ret;exact⟨by rw[HR.out,HN.out];rfl,HB1.out⟩
theorem mN {α:Type}{p:α→Bool}{l:List α}(h: ∀j (h:j<l.length),p l[j]=true):l.all p=true:=by
 rw[List.all_eq_true];intro x hx;obtain⟨j,hj,rfl⟩:=List.mem_iff_getElem.1 hx;exact h j hj
theorem oA {α:Type}{p:α→Bool}{l:List α}{j:Nat}(hj:j<l.length)(h:p l[j]=false):l.all p=false:=by
 rw[List.all_eq_false];exact⟨l[j],List.getElem_mem hj,by rw[h];simp⟩
theorem pp (S:Nat→Prop)(d:aS)(cs:Array Value)(w:World)(hS: ∀b,S b→b<w.heap.size)(h:ee w S d cs)(hd:ap d.val≤4611686018427387903):
  Calls Tryz.prog 153 #[.agg cs] w fun e w'=>e= .returned (.bool (!cr d))∧Below w.heap.size w w':=by
 obtain⟨PA,pc,VA,vc,VA',vc',rfl,hv,hp,hpc,hpn,hk,hn,hpl⟩:=id h;obtain⟨w1,hw1⟩: ∃W,W=w.alloc (.cells #[.int .i64 d.kind,.slice PA d.path.length pc,.int .i64 d.val.kind,.int .i64 d.val.num,.string d.val.text,.slice VA d.val.items.length vc,.slice VA' d.val.names.length vc',.int .i64 d.num] 114):=⟨_,rfl⟩;have hbk:w1.heap[w.heap.size]? =some (.cells #[.int .i64 d.kind,.slice PA d.path.length pc,.int .i64 d.val.kind,.int .i64 d.val.num,.string d.val.text,.slice VA d.val.items.length vc,.slice VA' d.val.names.length vc',.int .i64 d.num] 114 (0,0)):=by rw[hw1];exact heap_alloc_new w _
 have hb1:Below w.heap.size w w1:=by rw[hw1];exact(Below.refl _ _).alloc (Nat.le_refl _) _
 have y0:=Go.Joins.cell_of_block hbk 0;have y1:=Go.Joins.cell_of_block hbk 1;have y2:=Go.Joins.cell_of_block hbk 2;have y3:=Go.Joins.cell_of_block hbk 3;have y4:=Go.Joins.cell_of_block hbk 4;have y5:=Go.Joins.cell_of_block hbk 5;have y6:=Go.Joins.cell_of_block hbk 6;have y7:=Go.Joins.cell_of_block hbk 7;have HM:=hid (vU S d _ w1 (fun b hb=>Nat.lt_of_lt_of_le (hS b hb) hb1.size) (h.below hS hb1) hd);have HB1:=hid hb1;clear hbk hb1 h hv hp hpc hpn hk hn hpl hS hd;go_enter Tryz.func153,Tryz.ntmps153;go_wp2_with fail;rw[←hw1];refine HM.out.mono ?_;rintro e w2 ⟨rfl,hb2⟩;have HB2:=hid (HB1.out.trans (hb2.mono HB1.out.size));clear hb2;clear HM;go_wp2_with fail;go_ret;exact⟨rfl,HB2.out⟩
theorem yo (S:Nat→Prop)(A:Option Addr)(c:Nat)(l:List aS)(w:World)(hS: ∀b,S b→b<w.heap.size)(h:bD w S A l)(hn:l.length≤140737488351232)(hd:eo l):
  Calls Tryz.prog 175 #[.slice A l.length c,.func (.func 153) #[] #[]] w fun e w'=>(∃i:Int,e= .returned (.int .i64 i)∧decide (0≤i)=(!(l.all cr)))∧Below w.heap.size w w':=by
 have H:=hid h;have HS:=hid hS;have HD:=hid hd;have HN:=hid hn;clear h hS hd;go_enter Tryz.func175,Tryz.ntmps175;go_wp2_with fail
 go_loopw [8] (fun i wr=> ∃k:Nat,i= .int .i64 k∧k≤l.length∧Hid (Below w.heap.size w wr)∧Hid (∀j (h:j<l.length),j<k→cr l[j]=true)) (fun i _=>l.length - (intOf i).toNat)
 case atStart=>exact⟨0,rfl,by omega,hid (Below.refl _ _),hid fun j _ h=>absurd h (by omega)⟩
 case round=>
  obtain⟨k,rfl,hk,HB,HJ⟩:=hrel;by_cases hlt:k<l.length
  ·have hS2: ∀b,S b→b<wr.heap.size:=fun b hb=>Nat.lt_of_lt_of_le (HS.out b hb) HB.out.size;obtain⟨bp,off,PA,pc,VA,vc,VA',vc',rfl,hpS,ho,x0,x1,x2,x3,x4,x5,x6,x7⟩:=(H.out.below HS.out HB.out).cells k hlt;have HC:=hid (pp S l[k] _ wr hS2 ho (HD.out _ (List.getElem_mem hlt)));clear ho hS2 hpS;go_wp2_with fail;refine HC.out.mono ?_;rintro e u ⟨rfl,hb⟩;have HB2:=hid (HB.out.trans (hb.mono HB.out.size));clear hb HC x0 x1 x2 x3 x4 x5 x6 x7;cases hm:cr l[k]
   ·have HM:=hid hm;clear hm;go_wp2_with fail;go_ret;exact⟨⟨k,rfl,by rw[oA hlt HM.out];simp⟩,HB2.out⟩
   ·have HM:=hid hm;clear hm;go_wp2_with fail
    go_roundw
    case rel=>exact⟨k+1,by go_num,by omega,HB2,hid fun j h hjk=>by
     by_cases e:j=k
     ·subst e;exact HM.out
     ·exact HJ.out j h (by omega)⟩
    case measure=>simp[intOf];omega
  ·go_wp2_with fail;go_ret;exact⟨⟨-1,rfl,by rw[mN fun j h=>HJ.out j h (by omega)];rfl⟩,HB.out⟩
theorem uM (S:Nat→Prop)(A:Option Addr)(c:Nat)(l:List aS)(w:World)(hS: ∀b,S b→b<w.heap.size)(h:bD w S A l)(hn:l.length≤140737488351232)(hd:eo l):
  Calls Tryz.prog 152 #[.slice A l.length c,.func (.func 153) #[] #[]] w fun e w'=>e= .returned (.bool (!(l.all cr)))∧Below w.heap.size w w':=by
 have HC:=hid (yo S A c l w hS h hn hd);clear h hS hd;go_enter Tryz.func152,Tryz.ntmps152;go_wp2_with fail;refine HC.out.mono ?_;rintro e u ⟨⟨i,rfl,hi⟩,hb⟩;have HI:=hid hi;have HB:=hid hb;clear hi hb HC;go_wp2_with fail;go_ret;exact⟨aJ HI.out,HB.out⟩
theorem k5 (S:Nat→Prop)(A:Option Addr)(c:Nat)(l:List aS)(w:World)(hS: ∀b,S b→b<w.heap.size)(h:bD w S A l)(hn:l.length≤140737488351232)(hd:eo l):
  Calls Tryz.prog 136 #[.slice A l.length c] w fun e w'=>e= .returned (.int .i64 (bG l))∧Below w.heap.size w w':=by
 have HC:=hid (uM S A c l w hS h hn hd);clear h hS hd;obtain⟨r,hr⟩: ∃r,r=bG l:=⟨_,rfl⟩;have HR:=hid hr;rw[←hr];clear hr;go_enter Tryz.func136,Tryz.ntmps136;by_cases h64:64<l.length
 ·have d1:decide ((l.length:Int)>64)=true:=decide_eq_true (by omega);go_wp2_with fail;go_ret;exact⟨by rw[HR.out];unfold bG;rw[if_pos h64];rfl,Below.refl _ _⟩
 ·have d1:decide ((l.length:Int)>64)=false:=decide_eq_false (by omega);have H64:=hid h64;clear h64;go_wp2_with fail;refine HC.out.mono ?_;rintro e u ⟨rfl,hb⟩;have HB:=hid hb;clear hb HC;cases ha:l.all cr
  ·have HA:=hid ha;clear ha;go_wp2_with fail;go_ret;exact⟨by rw[HR.out];unfold bG;rw[if_neg H64.out,HA.out];rfl,HB.out⟩
  ·have HA:=hid ha;clear ha;go_wp2_with fail;go_ret;exact⟨by rw[HR.out];unfold bG;rw[if_neg H64.out,HA.out];rfl,HB.out⟩
def bL (st:Option (List UInt8)):Nat→List aS×Option (List UInt8)
  |0=>([],st)
  |k+1=>((bL st k).1++[(rdD (bL st k).2).1],(rdD (bL st k).2).2)
theorem iF (st:Option (List UInt8)): ∀k,(bL st k).1.length=k
  |0=>rfl
  |k+1=>by simp[bL,iF st k]
theorem pO :(rdD none).2=none:=by
  unfold rdD;rw[uN];simp only[show ¬((0:Nat)=1) by decide,show ¬((0:Nat)=3) by decide,if_false];exact kU
theorem og {s:Option (List UInt8)}{k:Nat}(h:(bL s k).2=none): ∀m,k≤m→(bL s m).2=none
  |0,hm=>by obtain rfl:k=0:=by omega
            exact h
  |m+1,hm=>by
    by_cases hk:k=m+1
    · rw[←hk];exact h
    · have h1:=og h m (by omega)
      show(rdD (bL s m).2).2=none;rw[h1];exact pO
theorem lQ (st:Option (List UInt8)):ap (bE st).1≤8:=by
  rcases st with _|l
  · decide
  · rw[ef]
    cases hr:fU l with
    |none=>decide
    |some p=>
      obtain⟨t,r⟩:=p;unfold fU at hr
      cases hw:rdW 8 l with
      |none=>rw[hw]at hr;simp at hr
      |some q=>
        obtain⟨u,r'⟩:=q;rw[hw]at hr;have hd:=(iD 8 u l r' hw).1.1;simp only[]at hr
        split at hr
        · simp only[Option.some.injEq,Prod.mk.injEq]at hr
          rw[hr.1]at hd;exact hd
        · simp at hr
theorem wg (st:Option (List UInt8)):ap (rdD st).1.val≤8:=by
  unfold rdD
  split
  · exact lQ _
  split
  · show ap aO≤8;decide
  · show ap aO≤8;decide
theorem jQ (st:Option (List UInt8)): ∀k,eo (bL st k).1
  |0,d,hd=>absurd hd (by simp[bL])
  |k+1,d,hd=>by
    simp only[bL,List.mem_append,List.mem_singleton]at hd;rcases hd with hd|rfl
    · exact jQ st k d hd
    · have:=wg (bL st k).2
      omega
def eq (st:Option (List UInt8)):List aS×Option (List UInt8):=match(bL (ah 64 st).2 (ah 64 st).1).2 with
  |none=>([],none)
  |some r=>if bG (bL (ah 64 st).2 (ah 64 st).1).1=0 then((bL (ah 64 st).2 (ah 64 st).1).1,some r)else([],none)
theorem gE {st:Option (List UInt8)}(h:(bL (ah 64 st).2 (ah 64 st).1).2=none):eq st=([],none):=by unfold eq;rw[h]
theorem jo {st:Option (List UInt8)}{r:List UInt8}(h:(bL (ah 64 st).2 (ah 64 st).1).2=some r):eq st=if bG (bL (ah 64 st).2 (ah 64 st).1).1=0 then((bL (ah 64 st).2 (ah 64 st).1).1,some r)else([],none):=by unfold eq;rw[h]
def lK (g:Nat)(st:Option (List UInt8))(w:World)(e:Ending)(w':World):Prop:=
  ∃A c,e= .returned (.slice A (eq st).1.length c)∧bD w' (eW w.heap.size w') A (eq st).1∧(A=none→c=0∧(eq st).1= [])∧(eq st).1.length≤c∧aK w' g (eq st).2∧az w w' g
theorem uH {w wr w5 w7:World}{g k c c7 p:Nat}{A:Option Addr}{s1:Option (List UInt8)}{cs xs:List Value}{S:Nat→Prop}{v7:Value}(hg:g<w.heap.size)(hw:az w wr g)(hr:bT w wr A c (bL s1 k).1)(ho5:az wr w5 g)(hs5:aK w5 g (rdD (bL s1 k).2).2)(hop:ee w5 (eW wr.heap.size w5) (rdD (bL s1 k).2).1 cs.toArray)
    (hl:dK (w5.alloc (.cells cs.toArray 114)) S (bL s1 k).1 xs) (hS: ∀b,S b→w.heap.size≤b∧b<(w5.alloc (.cells cs.toArray 114)).heap.size∧ ∀p,(Value.slice A k c).ownBlock=some p→b≠p)
    (hv:v7= .slice (some ⟨p,0,none⟩) (k+1) c7) (hown:w7.ownsRow w.heap.size 114 8 v7 (k+1) (xs++cs)) (hb:(w5.alloc (.cells cs.toArray 114)).grownBy w7 (Value.slice A k c).ownBlock) (hat:v7.ownBlock=(Value.slice A k c).ownBlock∨v7.ownBlock=some (w5.alloc (.cells cs.toArray 114)).heap.size):
    bT w w7 (some ⟨p,0,none⟩) c7 (bL s1 (k+1)).1∧aK w7 g (bL s1 (k+1)).2∧az w w7 g:=by
  have hlen:(bL s1 k).1.length=k:=iF s1 k
  have hpo: ∀p,(Value.slice A k c).ownBlock=some p→w.heap.size≤p∧p<wr.heap.size:=by
    have h:=hr.own;rw[hlen]at h;exact h
  have hz5:=ho5.size;have hzw:=hw.size;have hz6:(w5.alloc (.cells cs.toArray 114)).heap.size=w5.heap.size+1:=by simp
  have k6: ∀b,b<w5.heap.size→(w5.alloc (.cells cs.toArray 114)).heap[b]? =w5.heap[b]? :=fun b hb=>Below.heap_alloc w5 _ b hb;have k7: ∀b,b<w5.heap.size→(∀p,(Value.slice A k c).ownBlock=some p→b≠p)→w7.heap[b]? =w5.heap[b]? :=fun b hb' hn=>(hb.block b (by omega) (fun e=>hn b e.symm rfl)).trans (k6 b hb');subst hv;refine⟨?_,?_,?_⟩
  · refine bT.push (S2:=eW wr.heap.size w5) hlen.symm hb ?_ hown hl (hop.keep fun b hb'=>k6 b hb'.2) hS ?_
    · exact hat.imp id fun h=>⟨_,Nat.le_refl _,h⟩
    · intro b hb'
      have h1:wr.heap.size≤b:=hb'.1;have h2:b<w5.heap.size:=hb'.2;exact⟨by omega,by omega,fun q hq e=>by have:=(hpo q hq).2;omega⟩
  · exact hs5.of (k7 g (by omega) fun q hq e=>by have:=(hpo q hq).1;omega)
  · refine⟨hb.os.trans ((ho5.os).trans hw.os),hb.tape.trans ((ho5.tape).trans hw.tape),hb.output.trans ((ho5.output).trans hw.output),by have:=hb.size;omega,fun b hb' hne=> ?_⟩
    exact(k7 b (by omega) fun q hq e=>by have:=(hpo q hq).1;omega).trans ((ho5.block b (by omega) hne).trans (hw.block b hb' hne))
theorem bT.none' {w0 w:World}{A:Option Addr}{c:Nat}{l:List aS}(h:bT w0 w A c l):A=none→c=0∧l= []:=by
  rintro rfl;obtain⟨xs,S,h1,-⟩:=h;rcases h1.2 with ⟨e,h0⟩|⟨g,cap,cur,e,-⟩
  · injection e with e1 e2 e3
    exact⟨e3,List.eq_nil_of_length_eq_zero e2⟩
  · injection e with e1 e2 e3
    cases e1
theorem tv (g:Nat)(st:Option (List UInt8))(w:World)(hs:aK w g st):Calls Tryz.prog 143 #[.pointer (some ⟨g,0,none⟩)] w (lK g st w):=by
  obtain⟨i0,hi,hz0,hz1,hz2⟩:=info_parts Tryz.infoDlt;have h16:(ah 64 st).1≤64:=b8 64 st (by omega);have HC:=hid (cy g st 64 w hs (by omega));have HG:=hid hs.lt;obtain⟨n,hn⟩: ∃n,n=(ah 64 st).1:=⟨_,rfl⟩;have HN:=hid hn;rw[←hn]at h16 HC;clear hs hn;go_enter Tryz.func143,Tryz.ntmps143;go_wp2_with fail;refine HC.out.mono ?_;rintro e w1 ⟨rfl,hs1,ho1⟩;obtain⟨s1,hs1'⟩: ∃s1,s1=(ah 64 st).2:=⟨_,rfl⟩;rw[←hs1']at hs1;have HS1:=hid hs1';have h0:Hid (aK w1 g (bL s1 0).2∧az w w1 g):=hid ⟨hs1,ho1⟩;clear hs1 ho1 hs1' HC;go_wp2_with fail
  go_loopw [3,6] (fun v i wr=> ∃(k:Nat) (A:Option Addr) (c:Nat),i= .int .i64 k∧k≤n∧v= .slice A k c∧Hid (k=0∨(bL s1 k).2≠none)∧Hid (aK wr g (bL s1 k).2∧az w wr g)∧Hid (bT w wr A c (bL s1 k).1)) (fun _ i _=>n - (intOf i).toNat)
  case atStart=>exact⟨0,none,0,rfl,by omega,rfl,hid (.inl rfl),h0,hid (bT.nil _ _)⟩
  case round=>
    obtain⟨k,A,c,rfl,hk,rfl,HNN,HH,HR⟩:=hrel;by_cases hlt:k<n
    · have d1:decide ((k:Int)<(n:Int))=true:=decide_eq_true (by omega)
      have HT:=hid (uZ g (bL s1 k).2 wr HH.out.1);have hk16:k<64:=by omega
      go_wp2_with fail;refine HT.out.mono ?_;rintro e w5 ⟨cs,rfl,hop,hs5,ho5⟩;obtain⟨PA,pc,VA,vc,VA',vc',rfl,-⟩:=id hop;have h1c:=hop.oneL;have hrow:=(HR.out.only ho5 HG.out).alloc (.cells (List.toArray [.int .i64 (rdD (bL s1 k).2).1.kind,.slice PA (rdD (bL s1 k).2).1.path.length pc,.int .i64 (rdD (bL s1 k).2).1.val.kind,.int .i64 (rdD (bL s1 k).2).1.val.num,.string (rdD (bL s1 k).2).1.val.text,.slice VA (rdD (bL s1 k).2).1.val.items.length vc,.slice VA' (rdD (bL s1 k).2).1.val.names.length vc',.int .i64 (rdD (bL s1 k).2).1.num]) 114);obtain⟨xs,S,r1,r2,r3⟩:=hrow;rw[iF]at r1 r3;have HX:=hid (fun(w7:World) (v7:Value) (p c7:Nat) (e7:v7= .slice (some ⟨p,0,none⟩) (k+1) c7)=>uH (w7:=w7) (v7:=v7) (p:=p) (c7:=c7) HG.out HH.out.2 HR.out ho5 hs5 hop r2 r3 e7);have HR1:=hid r1;have H1C:=hid h1c;have hz5:w.heap.size≤w5.heap.size:=by have:=ho5.size;have:=HH.out.2.size;omega
      obtain⟨o,hob⟩: ∃o,o=(rdD (bL s1 k).2).1:=⟨_,rfl⟩;rw[←hob]at HX HR1 H1C ⊢;clear hs5 ho5 hop h1c r1 r2 r3 HT hob;go_wp2_with(at_builtin;refine wpList_append_own_at _ rfl _ _ 44 rfl w.heap.size 114 i0 _ 8 120 Tryz.underlying44 hi hz0 hz1 hz2 rfl (by decide) _ k _ rfl HR1.out ⟨w5.heap.size,0,none⟩ 1 1 _ rfl rfl (vJ w5 _ _) H1C.out (by unfold maxLen;omega) (by omega) (by simp;omega) ?_;intro v7 w7 hown7 hg7 hnil7 hat7;obtain⟨p,c7,rfl⟩:=tU hown7 (by omega);have HX7:=hid (HX.out w7 _ p c7 rfl hown7 hg7 hat7);clear hown7 hg7 hnil7 hat7);obtain⟨st2,hst2⟩: ∃s,s=(bL s1 (k+1)).2:=⟨_,rfl⟩;have HX8:=HX7;rw[←hst2]at HX8;have HST:=hid hst2;clear hst2
      cases st2 with
      |none=>
        have HB:=hid (jq g _ HX8.out.2.1);go_wp2_with fail;refine HB.out.mono ?_;rintro e w8 ⟨rfl,rfl⟩;go_wp2_with fail;go_ret;unfold lK;rw[gE (by rw[←HS1.out,←HN.out];exact og HST.out.symm n (by omega))]
        exact⟨none,0,rfl,fun h=>absurd h (by simp),fun _=>⟨rfl,rfl⟩,Nat.le_refl _,HX8.out.2.1,HX8.out.2.2⟩
      |some r=>
        have HB:=hid (kQ g r _ HX8.out.2.1);go_wp2_with fail;refine HB.out.mono ?_;rintro e w8 ⟨rfl,rfl⟩;go_wp2_with fail
        go_roundw
        case rel=>exact⟨k+1,some ⟨p,0,none⟩,c7,by go_num,by omega,rfl,hid (.inr (by rw[←HST.out];simp)),hid ⟨HX7.out.2.1,HX7.out.2.2⟩,hid HX7.out.1⟩
        case measure=>simp[intOf];omega
    · have hke:k=n:=by omega
      have d1:decide ((k:Int)<(n:Int))=false:=decide_eq_false (by omega);obtain⟨l,hl⟩: ∃l,l=(bL s1 k).1:=⟨_,rfl⟩;obtain⟨st2,hst2⟩: ∃s,s=(bL s1 k).2:=⟨_,rfl⟩;have hlk:l.length=k:=by rw[hl];exact iF s1 k
      have hsm:eo l:=by rw[hl];exact jQ s1 k
      rw[←hl]at HR;rw[←hst2]at HH HNN;have HLS:Hid (l=(bL (ah 64 st).2 (ah 64 st).1).1∧st2=(bL (ah 64 st).2 (ah 64 st).1).2):=hid (by rw[←HS1.out,←HN.out,←hke];exact⟨hl,hst2⟩);have HRW:=hid HR.out.rows;have HRC:=hid HR.out.cap;have HRN:=hid HR.out.none';have HK:=hid (k5 (eW w.heap.size wr) A c l wr (fun b hb=>hb.2) HRW.out (by omega) hsm);rw[←hlk];clear hl hst2 hke hsm HR hk;subst hlk;go_wp2_with fail;refine HK.out.mono ?_;rintro e w4 ⟨rfl,hb4⟩;have HS4:=hid (HH.out.1.of (hb4.block g HH.out.1.lt));have HO4:Hid (az w w4 g):=hid (HH.out.2.trans ⟨hb4.os,hb4.tape,hb4.output,hb4.size,fun b hb _=>hb4.block b hb⟩);have HW4:Hid (bD w4 (eW w.heap.size w4) A l):=hid ((HRW.out.keep fun b hb=>hb4.block b hb.2).imp fun b hb=>⟨hb.1,Nat.lt_of_lt_of_le hb.2 hb4.size⟩);obtain⟨x,hx⟩: ∃x,x=bG l:=⟨_,rfl⟩;rw[←hx];have HXX:=hid hx;clear hb4 hx HK HRW;by_cases h0':x=0
      · subst h0'
        have hend:Hid (eq st=(l,st2)):=hid (by
          cases st2 with
          |none=>
            have hl0:l.length=0:=HNN.out.resolve_right (fun h=>h rfl)
            rw[gE HLS.out.2.symm,List.eq_nil_of_length_eq_zero hl0]
          |some r=>rw[jo HLS.out.2.symm,←HLS.out.1,if_pos HXX.out.symm])
        go_wp2_with fail;go_ret;unfold lK;rw[hend.out];exact⟨A,c,rfl,HW4.out,HRN.out,HRC.out,HS4.out,HO4.out⟩
      · have h1:(x == 0)=false:=beq_false_of_ne h0'
        have h2:(x != 0)=true:=by simp[h0']
        go_wp2_with fail;refine(ex g st2 _ HS4.out).mono ?_;rintro e w5 ⟨rfl,hs5,ho5⟩;have HX5:=hid (And.intro hs5 (HO4.out.trans ho5));clear hs5 ho5;go_wp2_with fail;go_ret;unfold lK
        have e0:eq st=([],none):=by
          cases st2 with
          |none=>exact gE HLS.out.2.symm
          |some r=>rw[jo HLS.out.2.symm,←HLS.out.1,if_neg (by rw[←HXX.out];exact h0')]
        rw[e0];exact⟨none,0,rfl,fun h=>absurd h (by simp),fun _=>⟨rfl,rfl⟩,Nat.le_refl _,HX5.out.1,HX5.out.2⟩
theorem ws {t:VT}{r:Bool}(h:r=true↔t= .mk 0 0 ⟨#[]⟩ [] []):r=bO t:=by rw[Bool.eq_iff_iff,h,fQ]
theorem wP (S:Nat→Prop)(d:aS)(cs:Array Value)(w:World)(hS: ∀b,S b→b<w.heap.size)(h:ee w S d cs)(hd:ap d.val≤4611686018427387903):
  Calls Tryz.prog 111 #[.agg cs] w fun e w'=>e= .returned (.bool (cr d))∧Below w.heap.size w w':=by
 obtain⟨PA,pc,VA,vc,VA',vc',rfl,hv,hp,hpc,hpn,hk,hn,hpl⟩:=h;obtain⟨w1,hw1⟩: ∃W,W=w.alloc (.cells #[.int .i64 d.kind,.slice PA d.path.length pc,.int .i64 d.val.kind,.int .i64 d.val.num,.string d.val.text,.slice VA d.val.items.length vc,.slice VA' d.val.names.length vc',.int .i64 d.num] 114):=⟨_,rfl⟩;have hbk:w1.heap[w.heap.size]? =some (.cells #[.int .i64 d.kind,.slice PA d.path.length pc,.int .i64 d.val.kind,.int .i64 d.val.num,.string d.val.text,.slice VA d.val.items.length vc,.slice VA' d.val.names.length vc',.int .i64 d.num] 114 (0,0)):=by rw[hw1];exact heap_alloc_new w _
 have hb1:Below w.heap.size w w1:=by rw[hw1];exact(Below.refl _ _).alloc (Nat.le_refl _) _
 have y0:=Go.Joins.cell_of_block hbk 0;have y1:=Go.Joins.cell_of_block hbk 1;have y2:=Go.Joins.cell_of_block hbk 2;have y3:=Go.Joins.cell_of_block hbk 3;have y4:=Go.Joins.cell_of_block hbk 4;have y5:=Go.Joins.cell_of_block hbk 5;have y6:=Go.Joins.cell_of_block hbk 6;have y7:=Go.Joins.cell_of_block hbk 7;have hS1: ∀b,S b→b<w1.heap.size:=fun b hb=>Nat.lt_of_lt_of_le (hS b hb) hb1.size;have hv1:=hv.keep fun b hb=>hb1.block b (hS b hb);have HMA:=hid (wO PA pc d.path w1 S (hp.keep fun b hb=>hb1.block b (hS b hb)) (by omega));have HNO:=hid (fR S (ap d.val) d.val (.mk 0 0 ⟨#[]⟩ [] []) _ (.agg #[.int .i64 0,.int .i64 0,.string ⟨#[]⟩,.slice none 0 0,.slice none 0 0]) _ (Nat.le_refl _) hS1 hv1 (lO _ _));have HD:=hid hd;have HV:=hid hv1;have HBK:=hid hbk;have HB1:=hid hb1;have HW1:=hid hw1;have HS:=hid hS;obtain⟨r,hr⟩: ∃r,r=cr d:=⟨_,rfl⟩;have HR:=hid hr;rw[←hr];clear hbk hb1 hS1 hv1 hv hp hpc hpn hk hn hpl hd hS hr;go_enter Tryz.func111,Tryz.ntmps111;go_wp2_with fail;rw[←hw1];clear hw1;refine HMA.out.mono ?_;rintro e w2 ⟨rfl,rfl⟩;clear HMA;cases hmp:iy d.path
 ·go_wp2_with fail;go_ret;exact⟨by rw[HR.out];unfold cr;rw[hmp];rfl,HB1.out⟩
 have HMP:=hid hmp;clear hmp;obtain⟨k,hk⟩: ∃k,k=d.kind:=⟨_,rfl⟩;rw[←hk]at y0;have HK:=hid hk.symm;clear hk;go_wp2_with fail;refine HNO.out.mono ?_;rintro e w3 ⟨⟨rn,rfl,hrn⟩,hb3⟩;obtain rfl:=ws hrn;have HB3:=hid (HB1.out.trans (hb3.mono HB1.out.size));have hk3:=(hb3.block _ (Array.getElem?_eq_some_iff.1 HBK.out).1).trans HBK.out;have HV3:=hid (HV.out.keep fun b hb=>hb3.block b (Nat.lt_of_lt_of_le (HS.out b hb) HB1.out.size));have HBK3:=hid hk3;have x0:=Go.Joins.cell_of_block hk3 0;have x1:=Go.Joins.cell_of_block hk3 1;have x2:=Go.Joins.cell_of_block hk3 2;have x3:=Go.Joins.cell_of_block hk3 3;have x4:=Go.Joins.cell_of_block hk3 4;have x5:=Go.Joins.cell_of_block hk3 5;have x6:=Go.Joins.cell_of_block hk3 6;have x7:=Go.Joins.cell_of_block hk3 7;rw[HK.out]at x0;clear hb3 hk3 HNO hrn y0 y1 y2 y3 y4 y5 y6 y7 HV HBK;by_cases k1:k=1
 ·subst k1;have HCK:=hid (jG S d.val _ w3 HD.out (fun b hb=>Nat.lt_of_lt_of_le (HS.out b hb) HB3.out.size) HV3.out);go_wp2_with fail;refine HCK.out.mono ?_;rintro e w4 ⟨rfl,hb4⟩;have HB4:=hid (HB3.out.trans (hb4.mono HB3.out.size));have HBK4:=(hb4.block _ (Array.getElem?_eq_some_iff.1 HBK3.out).1).trans HBK3.out;have z7:=Go.Joins.cell_of_block HBK4 7;obtain⟨b1,d1⟩: ∃b,(ba d.val == 0)=b:=⟨_,rfl⟩;obtain⟨b2,d2⟩: ∃b,(d.num == 0)=b:=⟨_,rfl⟩
  have HE:Hid (cr d=(b1 && b2)):=hid (by
   rw[←d1,←d2];unfold cr;rw[HMP.out,HK.out];rw[Bool.eq_iff_iff]
   simp)
  clear hb4 HBK4 HCK;cases b1<;>cases b2
  all_goals
   go_wp2_with fail;go_ret;exact⟨by rw[HR.out,HE.out];rfl,HB4.out⟩
 have e1:=beq_false_of_ne k1;by_cases k2:k=2
 ·subst k2;obtain⟨b1,d1⟩: ∃b,bO d.val=b:=⟨_,rfl⟩;obtain⟨b2,d2⟩: ∃b,(d.num == 0)=b:=⟨_,rfl⟩
  have HE:Hid (cr d=(b1 && b2)):=hid (by
   rw[←d1,←d2];unfold cr;rw[HMP.out,HK.out];rw[Bool.eq_iff_iff]
   simp)
  rw[d1];cases b1<;>cases b2
  all_goals
   go_wp2_with fail;go_ret;exact⟨by rw[HR.out,HE.out];rfl,HB3.out⟩
 have e2:=beq_false_of_ne k2;by_cases k3:k=3
 ·subst k3;obtain⟨b1,d1⟩: ∃b,bO d.val=b:=⟨_,rfl⟩;obtain⟨b2,d2⟩: ∃b,decide (d.num≥0)=b:=⟨_,rfl⟩;obtain⟨b3,d3⟩: ∃b,decide (d.num≤999)=b:=⟨_,rfl⟩
  have HE:Hid (cr d=(b1 && (b2 && b3))):=hid (by
   rw[←d1,←d2,←d3];unfold cr;rw[HMP.out,HK.out];rw[Bool.eq_iff_iff]
   simp)
  rw[d1];cases b1<;>cases b2<;>cases b3
  all_goals
   go_wp2_with fail;go_ret;exact⟨by rw[HR.out,HE.out];rfl,HB3.out⟩
 have e3:=beq_false_of_ne k3
 have HN:Hid (cr d=false):=hid (by
  unfold cr;rw[HK.out]
  simp[k1,k2,k3])
 clear k1 k2 k3;go_wp2_with fail;go_ret;exact⟨by rw[HR.out,HN.out];rfl,HB3.out⟩
end Go.Proofs.YtgfidiocmiolpaaGreat
