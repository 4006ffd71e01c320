/- Stores of whole structs into a block, as one step; a row of copies that is being made. -/
import Derived.Test.YtgfidiocmiolpaaGreatKTrH
import Derived.Test.YtgfidiocmiolpaaGreatKFive
import Derived.Test.YtgfidiocmiolpaaGreatKValO
import Derived.Test.YtgfidiocmiolpaaGreatKDlN
import Derived.Test.YtgfidiocmiolpaaGreatKCodG
import Derived.Test.YtgfidiocmiolpaaGreatKCodP
import Derived.Deep.MidRow
set_option maxHeartbeats 64000000
set_option maxRecDepth 100000
set_option linter.unusedVariables false
set_option linter.unusedSimpArgs false
namespace Go.Proofs.YtgfidiocmiolpaaGreat
open Go.RowKit
def dm :Array Value→Nat→List Value→Array Value
 |C,_,[]=>C
 |C,o,v::r=>dm (C.setIfInBounds o v) (o+1) r
theorem gN {w:World}{b:Nat}{ty:TypeId}{fz:Nat×Nat}: ∀(vs:List Value) (o:Nat) (C:Array Value),w.heap[b]? =some (.cells C ty fz)→(w.setCells b o vs).heap[b]? =some (.cells (dm C o vs) ty fz):=by
 intro vs
 induction vs generalizing w with
 |nil=>exact fun o C h=>h
 |cons v r ih=>exact fun o C h=>ih (o+1) _ (Go.Joins.block_setCell (i:=o) h v)
theorem dI (b:Nat): ∀(vs:List Value) (o:Nat) (w:World),(w.setCells b o vs).os=w.os∧(w.setCells b o vs).tape=w.tape∧(w.setCells b o vs).output=w.output∧(w.setCells b o vs).heap.size=w.heap.size∧ ∀k,k≠b→(w.setCells b o vs).heap[k]? =w.heap[k]?
 | [],o,w=>⟨rfl,rfl,rfl,rfl,fun _ _=>rfl⟩
 |v::r,o,w=>by
  obtain⟨h1,h2,h3,h4,h5⟩:=dI b r (o+1) (w.setCell ⟨b,o,none⟩ v);exact⟨h1,h2,h3,h4.trans (by simp),fun k hk=>(h5 k hk).trans (heap_setCell_other _ ⟨b,o,none⟩ k _ hk)⟩
theorem ex (w:World)(b o:Nat)(ty:TypeId)(v:Value)(cells:Array Value)(hc:v.cells=cells)(ht:w.there b o cells.size)(hi:(Tryz.prog.info? ty).map (·.size)=some cells.size)(h1:cells.all (·.oneCell')=true):
  (storeVar ty ⟨b,o,none⟩ v).run Tryz.prog w= .ok () (w.setCells b o cells.toList):=by
 have:=run_storeCells_cells (P:=Tryz.prog) b o cells.toList 0 w (fun j hj=>by simpa using(ht j (by simpa using hj)).1) (fun j hj=>by simpa using(ht j (by simpa using hj)).2)
  (fun v hv=>(Array.all_eq_true_iff_forall_mem.1 h1) v (by simpa using hv))
 cases hq:Tryz.prog.info? ty with
 |none=>simp[hq]at hi
 |some i=>
  have hs:cells.size=i.size:=by simp[hq]at hi;omega
  simp only[Nat.add_zero]at this;simp[storeVar,sizeOf,typeInfo,hq,hc,hs,this]
theorem am {ops:Array Oper}{rest:List Oper}{o:Oper}{a:Act}{w:World}{Q:Exit→Act→World→Prop}(hw:Region.wanted o (yielded ops a.tmps)=true)(ty:TypeId)(x y:Operand)(ho:o.op= .store ty x y)(hd:o.dst=none)
  (g off:Nat) (hx:a.eval x= .pointer (some ⟨g,off,none⟩)) (v:Value) (cells:Array Value) (hy:a.eval y=v) (hc:v.cells=cells) (C C':Array Value) (t:TypeId) (hg:w.heap[g]? =some (.cells C t (0,0))) (hn:off+cells.size≤C.size)
  (hi:(Tryz.prog.info? ty).map (·.size)=some cells.size) (h1:cells.all (·.oneCell')=true) (hC:dm C off cells.toList=C')
  (h: ∀w',w'.heap[g]? =some (.cells C' t (0,0))→aJ w w' g→w'.heap.size=w.heap.size→wpList Tryz.prog ops Q rest a w'):wpList Tryz.prog ops Q (o::rest) a w:=
 wpList_step fun K hK=>by
  rw[hw,if_pos rfl]
  have ht:w.there g off cells.size:=fun j hj=>⟨by
   rw[Go.Joins.cell_of_block hg (off+j),Array.getElem?_eq_getElem (by omega)];rfl,Go.Joins.unfrozen_of_block hg _⟩
  have e:=ex w g off ty v cells hc ht hi h1
  have hK':K (a.put o.dst undef) (w.setCells g off cells.toList):=by
   rw[hd];refine hK _ _ (h _ ?_ ?_ ?_)
   ·rw[←hC];exact gN _ _ _ hg
   ·obtain⟨q1,q2,q3,q4,q5⟩:=dI g cells.toList off w;exact⟨q1,q2,q3,by rw[q4];exact Nat.le_refl _,fun b _ hb=>q5 b (by intro e;apply hb;rw[e])⟩
   ·exact(dI g cells.toList off w).2.2.2.1
  unfold Oper.wp execOp;simp only[ho,hx,hy,Instr.storeAt,Instr.sureAddr,Sem.run_bind,Sem.run_pure,Result.andThen_ok,e];exact hK'
theorem bD {ops:Array Oper}{rest:List Oper}{o:Oper}{a:Act}{w:World}{Q:Exit→Act→World→Prop}(hw:Region.wanted o (yielded ops a.tmps)=true)(ty:TypeId)(x:Operand)(ho:o.op= .load ty x)
  (g off:Nat) (hx:a.eval x= .pointer (some ⟨g,off,none⟩)) (cs:List Value) (d:TypeDesc) (hc:w.rangeAt g off cs) (hu:Tryz.prog.underlying ty=some d) (hd:d.isRow=true) (hi:(Tryz.prog.info? ty).map (·.size)=some cs.length)
  (h:wpList Tryz.prog ops Q rest (a.put o.dst (.agg cs.toArray)) w):wpList Tryz.prog ops Q (o::rest) a w:=
 wpList_step fun K hK=>by
  rw[hw,if_pos rfl];exact wp_load_mid ty x ho g off hx cs d hc hu hd hi (hK _ _ h)
theorem iz : ∀(vs:List Value) (o:Nat) (C:Array Value),(dm C o vs).size=C.size
 | [],_,_=>rfl
 |v::r,o,C=>by unfold dm;rw[iz r (o+1)];simp
theorem oL (a:Array Value)(i j:Nat)(v:Value):(a.setIfInBounds i v)[j]? =if i=j then(if j<a.size then some v else none)else a[j]? :=by
 rw[Array.getElem?_setIfInBounds];by_cases h:i=j
 ·subst h;simp
 ·rw[if_neg h,if_neg h]
theorem fM : ∀(vs:List Value) (o:Nat) (C:Array Value) (j:Nat),(j<o∨o+vs.length≤j)→(dm C o vs)[j]? =C[j]?
 | [],_,_,_,_=>rfl
 |v::r,o,C,j,h=>by
  unfold dm;simp only[List.length_cons]at h;rw[fM r (o+1) _ j (by omega),oL,if_neg (by omega)]
theorem km : ∀(vs:List Value) (o:Nat) (C:Array Value) (j:Nat),o+vs.length≤C.size→j<vs.length→(dm C o vs)[o+j]? =vs[j]?
 | [],_,_,_,_,h=>absurd h (by simp)
 |v::r,o,C,0,h,_=>by
  unfold dm;simp only[List.length_cons]at h;rw[fM r (o+1) _ _ (by omega),oL,if_pos (by omega),if_pos (by omega)]
  rfl
 |v::r,o,C,j+1,h,hj=>by
  unfold dm;simp only[List.length_cons]at h hj;have:=km r (o+1) (C.setIfInBounds o v) j (by simp;omega) (by omega);rw[show o+(j+1)=o+1+j by omega,this];rfl
structure pG {α:Type}(L:World→(Nat→Prop)→α→Array Value→Prop)(m:Nat):Prop where
 size: ∀ {w S x c},L w S x c→c.size=m
 keep: ∀ {w w' S x c},L w S x c→(∀b,S b→w'.heap[b]? =w.heap[b]?)→L w' S x c
 imp: ∀ {w} {S S':Nat→Prop} {x c},L w S x c→(∀b,S b→S' b)→L w S' x c
def cJ {α:Type}(L:World→(Nat→Prop)→α→Array Value→Prop)(m:Nat)(w:World)(S:Nat→Prop)(A:Option Addr)(l:List α):Prop:=
 0<l.length→ ∃b off,A=some ⟨b,off,none⟩∧S b∧ ∀i (h:i<l.length),∃cs:Array Value,(∀j v,cs[j]? =some v→w.cell? ⟨b,off+i * m+j,none⟩=some v)∧L w S l[i] cs
def dJ {α:Type}(L:World→(Nat→Prop)→α→Array Value→Prop)(m:Nat)(T:Nat→Prop)(ty:TypeId)(w:World)(G:Nat)(l:List α)(j:Nat):Prop:=
 ∃cur:Array Value,w.heap[G]? =some (.cells cur ty (0,0))∧cur.size=l.length * m∧ ∀i (h:i<l.length),i<j→ ∃c:Array Value,(∀k v,c[k]? =some v→cur[i * m+k]? =some v)∧L w (fun b=>b<w.heap.size∧b≠G∧T b) l[i] c
section
variable {α :Type} {L:World→(Nat→Prop)→α→Array Value→Prop} {m:Nat} {T:Nat→Prop} {ty:TypeId} {w w':World} {G:Nat} {l:List α} {j:Nat}
theorem dJ.lt (h:dJ L m T ty w G l j):G<w.heap.size:=by
 obtain⟨cur,h1,-⟩:=h;exact(Array.getElem?_eq_some_iff.1 h1).1
theorem dJ.call (hL:pG L m)(h:dJ L m T ty w G l j)(hb:Below w.heap.size w w'):dJ L m T ty w' G l j:=by
 have hg:=h.lt;obtain⟨cur,h1,h2,h3⟩:=h;refine⟨cur,(hb.block G hg).trans h1,h2,fun i hi hij=> ?_⟩;obtain⟨c,h4,h5⟩:=h3 i hi hij;exact⟨c,h4,hL.imp (hL.keep h5 fun b hb'=>hb.block b hb'.1) fun b hb'=>⟨Nat.lt_of_lt_of_le hb'.1 hb.size,hb'.2⟩⟩
theorem dJ.store (hL:pG L m)(h:dJ L m T ty w G l j)(hj:j<l.length){c cur:Array Value}(hcur:w.heap[G]? =some (.cells cur ty (0,0)))(hx:L w (fun b=>b<w.heap.size∧b≠G∧T b) l[j] c)
  (h':w'.heap[G]? =some (.cells (dm cur (j * m) c.toList) ty (0,0))) (ho:aJ w w' G) (hz:w'.heap.size=w.heap.size):dJ L m T ty w' G l (j+1):=by
 obtain⟨cur',h1,h2,h3⟩:=h;rw[h1]at hcur;injection hcur with hcur
 injection hcur with hcur
 subst hcur;have hcz:=hL.size hx
 have hin:j * m+c.toList.length≤cur'.size:=by
  rw[h2,Array.length_toList,hcz,←Nat.succ_mul];exact Nat.mul_le_mul_right _ hj
 have kp: ∀x c,L w (fun b=>b<w.heap.size∧b≠G∧T b) x c→L w' (fun b=>b<w'.heap.size∧b≠G∧T b) x c:=fun x c h=>hL.imp (hL.keep h fun b hb=>ho.block b hb.1 (by intro e;injection e with e;exact hb.2.1 e)) fun b hb=>⟨by rw[hz];exact hb.1,hb.2⟩;refine⟨_,h',by rw[iz];exact h2,fun i hi hij=> ?_⟩;by_cases e:i=j
 ·subst e;refine⟨c,fun k v hv=> ?_,kp _ _ hx⟩;have hk:k<c.toList.length:=by simpa using(Array.getElem?_eq_some_iff.1 hv).1
  rw[km _ _ _ _ hin hk];simpa using hv
 ·obtain⟨c',h4,h5⟩:=h3 i hi (by omega);refine⟨c',fun k v hv=> ?_,kp _ _ h5⟩;have hk:k<m:=by have:=(Array.getElem?_eq_some_iff.1 hv).1;have:=hL.size h5;omega
  have hlt:i * m+m≤j * m:=by rw[←Nat.succ_mul];exact Nat.mul_le_mul_right _ (by omega)
  rw[fM _ _ _ _ (.inl (by omega))];exact h4 k v hv
theorem dJ.rows (hL:pG L m)(h:dJ L m T ty w G l l.length):cJ L m w (fun b=>b<w.heap.size∧(T b∨b=G)) (some ⟨G,0,none⟩) l:=fun hp=>by
 have hg:=h.lt;obtain⟨cur,h1,h2,h3⟩:=h;refine⟨G,0,rfl,⟨hg,.inr rfl⟩,fun i hi=> ?_⟩;obtain⟨c,h4,h5⟩:=h3 i hi hi;refine⟨c,fun k v hv=> ?_,hL.imp h5 fun b hb=>⟨hb.1,.inl hb.2.2⟩⟩;rw[Nat.zero_add,Go.Joins.cell_of_block h1 (i * m+k)];exact h4 k v hv
theorem dJ.made {B n:Nat}{xs:List Value}(h:w.ownsRow B ty m (.slice (some ⟨G,0,none⟩) n n) n xs)(hn:n=l.length):dJ L m T ty w G l 0:=by
 subst hn;rcases h.2 with ⟨h1,_⟩|⟨g,cap,cur,hv,hg,hh,h1,h2,h3,_⟩
 ·cases h1
 ·injection hv with e1 e2 e3
  injection e1 with e1
  injection e1 with e1
  subst e1;subst e3;exact⟨cur,hh,h3,fun i _ hi=>absurd hi (by omega)⟩
theorem cJ.keep (hL:pG L m){S:Nat→Prop}{A:Option Addr}(h:cJ L m w S A l)(hk: ∀b,S b→w'.heap[b]? =w.heap[b]?):cJ L m w' S A l:=fun hp=>by
 obtain⟨b,off,hA,hb,hc⟩:=h hp;refine⟨b,off,hA,hb,fun i hi=> ?_⟩;obtain⟨cs,h1,h2⟩:=hc i hi;exact⟨cs,fun j v hv=>(World.cell?_of_block (a:=⟨b,off+i * m+j,none⟩) (hk b hb)).trans (h1 j v hv),hL.keep h2 hk⟩
theorem cJ.imp (hL:pG L m){S S':Nat→Prop}{A:Option Addr}(h:cJ L m w S A l)(hS: ∀b,S b→S' b):cJ L m w S' A l:=fun hp=>by
 obtain⟨b,off,hA,hb,hc⟩:=h hp;refine⟨b,off,hA,hS b hb,fun i hi=> ?_⟩;obtain⟨cs,h1,h2⟩:=hc i hi;exact⟨cs,h1,hL.imp h2 hS⟩
end
theorem fE {ops:Array Oper}{rest:List Oper}{o:Oper}{a:Act}{w:World}{Q:Exit→Act→World→Prop}(hw:Region.wanted o (yielded ops a.tmps)=true)(x:Operand)(ho:o.op= .load 43 x)
  (g off:Nat) (hx:a.eval x= .pointer (some ⟨g,off,none⟩)) (C:Array Value) (t:TypeId) (fr:Nat×Nat) (hg:w.heap[g]? =some (.cells C t fr)) (cs:List Value) (hcs:(C.extract off (off+5)).toList=cs) (hn:cs.length=5)
  (h:wpList Tryz.prog ops Q rest (a.put o.dst (.agg cs.toArray)) w):wpList Tryz.prog ops Q (o::rest) a w:=
 wpList_step fun K hK=>by
  rw[hw,if_pos rfl];exact wp_load_mid 43 x ho g off hx cs _ (by rw[←hcs];exact World.rangeAt_of_block hg off 5) Tryz.underlying43 rfl (by rw[hn];kernel_rfl) (hK _ _ h)
theorem bE {B:Nat}{a w w':World}{g:Nat}(hB:B≤a.heap.size)(h:Below B a w)(ho:aJ w w' g)(hz:w'.heap.size=w.heap.size)(hg:B≤g):Below B a w':=
 ⟨ho.os.trans h.os,ho.tape.trans h.tape,ho.output.trans h.output,by rw[hz];exact h.size,fun b hb=>(ho.block b (Nat.lt_of_lt_of_le hb (Nat.le_trans hB h.size)) (by intro e;injection e;omega)).trans (h.block b hb)⟩
theorem bL {w w':World}{g:Nat}{S:Nat→Prop}(ho:aJ w w' g)(hS: ∀b,S b→b<w.heap.size∧b≠g): ∀b,S b→w'.heap[b]? =w.heap[b]? :=fun b hb=>ho.block b (hS b hb).1 (by intro e;injection e with e;exact(hS b hb).2 e)
theorem dh {w w':World}{g p:Nat}{ob:Obj}(ho:aJ w w' g)(h:w.heap[p]? =some ob)(hne:p≠g):w'.heap[p]? =some ob:=(ho.block p (Array.getElem?_eq_some_iff.1 h).1 (by intro e;injection e with e;exact hne e)).trans h
open Lib (hid)
theorem sP {B p i:Nat}{w w':World}{u:Value}(h:Below B w w')(hp:B≤p):Below B w (w'.setCell ⟨p,i,none⟩ u):=⟨h.os,h.tape,h.output,by simp;exact h.size,fun b hb=>(heap_setCell_other _ ⟨p,i,none⟩ b _ (by show b≠p;omega)).trans (h.block b hb)⟩
theorem pl :pG eb 8 where
 size:=fun h=>by obtain⟨PA,pc,VA,vc,VA',vc',rfl,-⟩:=h;rfl
 keep:=fun h hk=>h.keep hk
 imp:=fun h hS=>h.imp hS
theorem jJ :dp 98:=fun _ _=>by simp[callFunc,go_sem,Tryz.func98,Tryz.f98]
theorem jN {ops:Array Oper}{rest:List Oper}{o:Oper}{a:Act}{w:World}{Q:Exit→Act→World→Prop}(hw:Region.wanted o (yielded ops a.tmps)=true)(x:Operand)(ho:o.op= .load 114 x)
  (g:Nat) (hx:a.eval x= .pointer (some ⟨g,0,none⟩)) (cs:Array Value) (fr:Nat×Nat) (hg:w.heap[g]? =some (.cells cs 114 fr)) (hn:cs.size=8)
  (h:wpList Tryz.prog ops Q rest (a.put o.dst (.agg cs)) w):wpList Tryz.prog ops Q (o::rest) a w:=
 wpList_step fun K hK=>by
  rw[hw,if_pos rfl];exact wp_load_row 114 x ho g hx 114 cs fr _ hg Tryz.underlying114 rfl (by rw[hn];kernel_rfl) (hK _ _ h)
theorem nO (S:Nat→Prop)(d:aR)(cs:Array Value)(w:World)(hS: ∀b,S b→b<w.heap.size)(h:eb w S d cs):
  Calls Tryz.prog 98 #[.agg cs] w fun e w'=> ∃cs',e= .returned (.agg cs')∧eb w' (New w.heap.size w') d cs'∧Below w.heap.size w w':=by
 obtain⟨PA,pc,VA,vc,VA',vc',rfl,hv,hp,hpc,hpn,rk,rn,hpl⟩:=h;obtain⟨w2,hw2⟩: ∃W,W=(w.alloc (.cells #[.int .i64 d.kind,.slice PA d.path.length pc,.int .i64 d.val.kind,.int .i64 d.val.num,.string d.val.text,.slice VA d.val.items.length vc,.slice VA' d.val.names.length vc',.int .i64 d.num] 114)).alloc (.cells #[.int .i64 0,.slice none 0 0,.int .i64 0,.int .i64 0,.string ⟨#[]⟩,.slice none 0 0,.slice none 0 0,.int .i64 0] 114):=⟨_,rfl⟩;have hz1:(w.alloc (.cells #[.int .i64 d.kind,.slice PA d.path.length pc,.int .i64 d.val.kind,.int .i64 d.val.num,.string d.val.text,.slice VA d.val.items.length vc,.slice VA' d.val.names.length vc',.int .i64 d.num] 114)).heap.size=w.heap.size+1:=by simp
 have hz2:w2.heap.size=w.heap.size+2:=by rw[hw2];simp
 have hbb:w2.heap[w.heap.size+1]? =some (.cells #[.int .i64 0,.slice none 0 0,.int .i64 0,.int .i64 0,.string ⟨#[]⟩,.slice none 0 0,.slice none 0 0,.int .i64 0] 114 (0,0)):=by rw[hw2,←hz1];exact heap_alloc_new _ _
 have hba:w2.heap[w.heap.size]? =some (.cells #[.int .i64 d.kind,.slice PA d.path.length pc,.int .i64 d.val.kind,.int .i64 d.val.num,.string d.val.text,.slice VA d.val.items.length vc,.slice VA' d.val.names.length vc',.int .i64 d.num] 114 (0,0)):=by rw[hw2,Below.heap_alloc _ _ _ (by omega)];exact heap_alloc_new _ _
 have h02:Below w.heap.size w w2:=by rw[hw2];exact(ae _).alloc (by omega) _
 have HB2:=hid h02;have HK2:=hid hba;have HZ2:=hid hbb;have HZS:=hid hz2;have HS:=hid hS;have HV:=hid hv;have HR:=hid (And.intro rk (And.intro rn hpl));have HC:=hid (pY S PA pc d.path w2 (hp.keep fun b hb=>h02.block b (hS b hb)) (fun b hb=>Nat.lt_of_lt_of_le (hS b hb) h02.size) hpn hpl)
 have HSZ:Hid (∀s∈d.path,s.size≤140737488351232):=hid fun s hs=>by
  obtain⟨i,hi,rfl⟩:=List.mem_iff_getElem.1 hs;obtain⟨_,_,_,_,hc⟩:=hp (by omega);exact(hc i hi).2
 clear h02 hba hbb hS hz1 hz2 hv hp hpc hpn rk rn hpl;go_enter Tryz.func98,Tryz.ntmps98;go_wp2_with fail;rw[←hw2];clear hw2;refine HC.out.mono ?_;rintro q w3 ⟨v3,rfl,hv3,hb⟩;obtain⟨QA,qc,rfl,hP0,hP1⟩:=sh hv3;have HB3:=hid (HB2.out.trans (hb.mono HB2.out.size));have HK3:=hid ((hb.block _ (Array.getElem?_eq_some_iff.1 HK2.out).1).trans HK2.out);have HZ3:=hid ((hb.block _ (Array.getElem?_eq_some_iff.1 HZ2.out).1).trans HZ2.out);have HZW3:Hid (w.heap.size+2≤w3.heap.size):=hid (by have:=hb.size;have:=HZS.out;omega)
 have HP3:Hid (au w3 (fun b=>w.heap.size+2≤b∧b<w3.heap.size) QA d.path∧d.path.length≤qc∧(QA=none→qc=0)):=hid (by
  obtain⟨PC,pe,e,h1,h2⟩:=hv3.opens HSZ.out;injection e with e1 e2 e3
  subst e1 e3
  exact⟨h2.imp fun b hb=>⟨by have:=hb.1;have:=HZS.out;omega,hb.2⟩,h1,hP0⟩)
 have HCV:=hid (fun W h=>i7 S d.val (.agg #[.int .i64 d.val.kind,.int .i64 d.val.num,.string d.val.text,.slice VA d.val.items.length vc,.slice VA' d.val.names.length vc']) W (fun b hb=>Nat.lt_of_lt_of_le (HS.out b hb) (h:Below w.heap.size w W).size) (HV.out.keep fun b hb=>h.block b (HS.out b hb)));clear hv3 hb HC HK2 HZ2 hP0 hP1;go_wp2_with(first|(refine am (by rfl) 41 _ _ rfl rfl w.heap.size 1 rfl _ #[.slice QA d.path.length qc] rfl rfl _ #[.int .i64 d.kind,.slice QA d.path.length qc,.int .i64 d.val.kind,.int .i64 d.val.num,.string d.val.text,.slice VA d.val.items.length vc,.slice VA' d.val.names.length vc',.int .i64 d.num] 114 HK3.out (by simp) (by kernel_rfl) (by simp[Value.oneCell']) (by kernel_rfl) ?_;intro w4 hk ho hz;have HK4:=hid hk;have HO4:=hid (And.intro ho hz);clear hk ho hz)|(refine fE (by rfl) _ rfl w.heap.size 2 rfl _ _ _ HK4.out [.int .i64 d.val.kind,.int .i64 d.val.num,.string d.val.text,.slice VA d.val.items.length vc,.slice VA' d.val.names.length vc'] rfl rfl ?_;simp only[acR,Act.put]));have HB4:=hid (bE (Nat.le_refl _) HB3.out HO4.out.1 HO4.out.2 (Nat.le_refl _));refine(HCV.out _ HB4.out).mono ?_;rintro q w5 ⟨v,rfl,hov,hb⟩;have HB5:=hid (HB4.out.trans (hb.mono HB4.out.size));have HK5:=hid ((hb.block _ (Array.getElem?_eq_some_iff.1 HK4.out).1).trans HK4.out)
 have HZ5:Hid (w5.heap[w.heap.size+1]? =some (.cells #[.int .i64 0,.slice none 0 0,.int .i64 0,.int .i64 0,.string ⟨#[]⟩,.slice none 0 0,.slice none 0 0,.int .i64 0] 114 (0,0))):=hid (by
  have h1:=dh HO4.out.1 HZ3.out (by omega)
  exact(hb.block _ (Array.getElem?_eq_some_iff.1 h1).1).trans h1)
 have HP5:Hid (au w5 (fun b=>w.heap.size+2≤b∧b<w5.heap.size) QA d.path):=hid (((HP3.out.1.keep (bL HO4.out.1 fun b hb=>by
  have h1:=hb.1
  exact⟨hb.2,by omega⟩)).keep fun b hb'=>hb.block b (by rw[HO4.out.2];exact hb'.2)).imp fun b hb'=>⟨hb'.1,Nat.lt_of_lt_of_le hb'.2 (by rw[←HO4.out.2];exact hb.size)⟩)
 have HV5:Hid (LV w5 (fun b=>w.heap.size+2≤b∧b<w5.heap.size) d.val v):=hid (hov.lv.imp fun b hb'=>⟨by have h1:=hb'.1;have:=HZW3.out;have:=HO4.out.2;omega,hb'.2⟩);obtain⟨WA,wc,WA',wc',rfl,-⟩:=hov.lv.shape;have HZW5:Hid (w.heap.size+2≤w5.heap.size):=hid (by have:=hb.size;have:=HZW3.out;have:=HO4.out.2;omega);clear hov hb HCV HZ3 HK3;go_wp2_with(first|(refine am (by rfl) 43 _ _ rfl rfl w.heap.size 2 rfl _ #[.int .i64 d.val.kind,.int .i64 d.val.num,.string d.val.text,.slice WA d.val.items.length wc,.slice WA' d.val.names.length wc'] rfl rfl _ #[.int .i64 d.kind,.slice QA d.path.length qc,.int .i64 d.val.kind,.int .i64 d.val.num,.string d.val.text,.slice WA d.val.items.length wc,.slice WA' d.val.names.length wc',.int .i64 d.num] 114 HK5.out (by simp) (by kernel_rfl) (by simp[Value.oneCell']) (by kernel_rfl) ?_;intro w6 hk ho hz;have HK6:=hid hk;have HO6:=hid (And.intro ho hz);have HZ6:=hid (dh HO6.out.1 HZ5.out (by omega));clear hk ho hz)|(refine jN (by rfl) _ rfl w.heap.size rfl _ _ HK6.out rfl ?_;simp only[acR,Act.put])|(refine am (by rfl) 114 _ _ rfl rfl (w.heap.size+1) 0 rfl _ #[.int .i64 d.kind,.slice QA d.path.length qc,.int .i64 d.val.kind,.int .i64 d.val.num,.string d.val.text,.slice WA d.val.items.length wc,.slice WA' d.val.names.length wc',.int .i64 d.num] rfl rfl _ #[.int .i64 d.kind,.slice QA d.path.length qc,.int .i64 d.val.kind,.int .i64 d.val.num,.string d.val.text,.slice WA d.val.items.length wc,.slice WA' d.val.names.length wc',.int .i64 d.num] 114 HZ6.out (by simp) (by kernel_rfl) (by simp[Value.oneCell']) (by kernel_rfl) ?_;intro w7 hk ho hz;have HK7:=hid hk;have HO7:=hid (And.intro ho hz);clear hk ho hz))
 have HB6:=hid (bE (Nat.le_refl _) HB5.out HO6.out.1 HO6.out.2 (Nat.le_refl _));have HB7:=hid (bE (Nat.le_refl _) HB6.out HO7.out.1 HO7.out.2 (by omega));refine bodyPost_ret (results_cell_row rfl _ _ (w.heap.size+1) 114 _ (0,0) _ rfl HK7.out Tryz.underlying114 rfl (by kernel_rfl)) rfl ?_;have hf: ∀b,w.heap.size+2≤b∧b<w5.heap.size→w7.heap[b]? =w5.heap[b]? :=fun b hb=>(bL HO7.out.1 (S:=fun b=>w.heap.size+2≤b∧b<w5.heap.size) (fun b h=>⟨by rw[HO6.out.2];exact h.2,by have:=h.1;omega⟩) b hb).trans (bL HO6.out.1 (S:=fun b=>w.heap.size+2≤b∧b<w5.heap.size) (fun b h=>⟨h.2,by have:=h.1;omega⟩) b hb);have hz:w7.heap.size=w5.heap.size:=HO7.out.2.trans HO6.out.2;exact⟨_,rfl,⟨QA,qc,WA,wc,WA',wc',rfl,(HV5.out.keep hf).imp fun b hb=>⟨by have:=hb.1;omega,by rw[hz];exact hb.2⟩,(HP5.out.keep hf).imp fun b hb=>⟨by have:=hb.1;omega,by rw[hz];exact hb.2⟩,HP3.out.2.1,HP3.out.2.2,HR.out⟩,HB7.out⟩
theorem sM (S:Nat→Prop)(A:Option Addr)(c:Nat)(l:List aR)(w:World)(hS: ∀b,S b→b<w.heap.size)(h:bk w S A l)(hl:l.length≤1172812402961):
  Calls Tryz.prog 97 #[.slice A l.length c,.func (.func 98) #[] #[]] w fun e w'=> ∃A' c',e= .returned (.slice A' l.length c')∧(A'=none→c'=0)∧l.length≤c'∧bk w' (fun b=>b<w'.heap.size∧w.heap.size≤b) A' l∧Below w.heap.size w w':=by
 by_cases hl0:l.length=0
 ·have hnil:=List.eq_nil_of_length_eq_zero hl0;subst hnil;go_enter Tryz.func97,Tryz.ntmps97;go_wp2_with fail;go_ret;exact⟨none,0,rfl,fun _=>rfl,Nat.le_refl _,fun h=>absurd h (by simp),Below.refl _ _⟩
 ·obtain⟨b,off,rfl,hb,hls⟩:=h (by omega);obtain⟨i0,hi,hz0,hz1,hz2⟩:=info_parts Tryz.infoDlt;have HL:=hid hl;have HLS:=hid hls;have hne:((l.length:Int) == 0)=false:=by simp;intro h;simp[h]at hl0
  have hlb:l.length≤4611686018427387904:=by omega
  have hcf: ∀(args:Array Value) (W:World),(callFunc 98 args).run Tryz.prog W= .ok (.enter 98 args) W:=jJ;clear h hls hl;go_enter Tryz.func97,Tryz.ntmps97;go_wp2_with(at_make;go_must (refine wpList_make_full _ rfl _ _ 44 rfl w.heap.size 114 i0 _ 8 Tryz.underlying44 hi hz0 hz1 .i64 .i64 _ _ l.length rfl rfl rfl rfl ?b0 ?b1 ?b2 ?_));case b0=>have:=HL.out;rw[hz2];omega
  case b1=>have:=HL.out;unfold maxLen;omega
  case b2=>exact Nat.le_refl _
  intro w1 hown hg;have hb1:Below w.heap.size w w1:=cP hg (Nat.le_refl _) (fun k hk=>by cases hk);have HROW:Hid (dJ eb 8 (fun b=>w.heap.size≤b) 114 w1 w.heap.size l 0):=hid (dJ.made hown rfl);have HB1:=hid hb1;clear hown hg hb1;obtain⟨G,hG⟩: ∃G,G=w.heap.size:=⟨_,rfl⟩;rw[←hG]at HROW ⊢;have HG:=hid hG;clear hG;go_wp2_with fail
  go_loopw [16] (fun i wr=> ∃j:Nat,i= .int .i64 j∧j≤l.length∧Hid (dJ eb 8 (fun b=>G≤b) 114 wr G l j)∧Hid (Below w.heap.size w wr)) (fun i _=>l.length - (intOf i).toNat)
  case atStart=>exact⟨0,rfl,Nat.zero_le _,HROW,HB1⟩
  case round=>
   clear HROW HB1;obtain⟨j,rfl,hj,HI,HB⟩:=hrel;by_cases hlt:j<l.length
   ·obtain⟨cs,hcs,hx⟩:=HLS.out j hlt;have hsh:=hx;obtain⟨PA,pc,VA,vc,VA',vc',rfl,-⟩:=hsh;have hrg:wr.rangeAt b (off+j * 8) [.int .i64 l[j].kind,.slice PA l[j].path.length pc,.int .i64 l[j].val.kind,.int .i64 l[j].val.num,.string l[j].val.text,.slice VA l[j].val.items.length vc,.slice VA' l[j].val.names.length vc',.int .i64 l[j].num]:=fun k v hv=>(HB.out.cell (p:=⟨b,off+j * 8+k,none⟩) (hS b hb)).trans (hcs k v (by simpa using hv));obtain⟨w2,hw2⟩: ∃W,W=wr.alloc (.cells #[.int .i64 l[j].kind,.slice PA l[j].path.length pc,.int .i64 l[j].val.kind,.int .i64 l[j].val.num,.string l[j].val.text,.slice VA l[j].val.items.length vc,.slice VA' l[j].val.names.length vc',.int .i64 l[j].num] 114):=⟨_,rfl⟩;have hb2:Below wr.heap.size wr w2:=by rw[hw2];exact ae _
    have HB2:=hid (HB.out.trans (hb2.mono HB.out.size));have HI2:=hid (HI.out.call pl hb2);have HRG:=hid hrg;have HX:=hid (nO S l[j] _ w2 (fun b hb=>Nat.lt_of_lt_of_le (hS b hb) HB2.out.size) (hx.keep fun b hb=>HB2.out.block b (hS b hb)));clear hx hcs hrg hb2 HI;go_wp2_with(refine bD (by rfl) 114 _ rfl b (off+j * 8) rfl _ _ HRG.out Tryz.underlying114 rfl (by kernel_rfl) ?_;simp only[acR,Act.put]);rw[←hw2];clear hw2;refine HX.out.mono ?_;rintro e w3 ⟨cs',rfl,hd,hb3⟩;have HB3:=hid (HB2.out.trans (hb3.mono HB2.out.size));have HI3:=hid (HI2.out.call pl hb3);have HGB:Hid (G<w2.heap.size):=hid HI2.out.lt;have hd':eb w3 (fun b=>b<w3.heap.size∧b≠G∧G≤b) l[j] cs':=hd.imp fun b hb=>⟨hb.2,by have:=hb.1;have:=HGB.out;omega,by have:=hb.1;have:=HGB.out;omega⟩;obtain⟨cur,hcur,hcz,-⟩:=id HI3.out;have hnx:=fun w' h1 h2 h3=>HI3.out.store (w':=w') pl hlt hcur hd' h1 h2 h3;have HNX:=hid hnx;have HCUR:=hid hcur;obtain⟨PA2,pc2,VA2,vc2,VA3,vc3,rfl,-⟩:=hd;have hcb:j * 8+8≤cur.size:=by rw[hcz];omega
    clear hd' hb3 hnx hcur HX HI2;go_wp2_with(refine am (by rfl) 114 _ _ rfl rfl G (j * 8) rfl _ #[.int .i64 l[j].kind,.slice PA2 l[j].path.length pc2,.int .i64 l[j].val.kind,.int .i64 l[j].val.num,.string l[j].val.text,.slice VA2 l[j].val.items.length vc2,.slice VA3 l[j].val.names.length vc3,.int .i64 l[j].num] rfl rfl _ _ 114 HCUR.out hcb (by kernel_rfl) (by simp[Value.oneCell']) rfl ?_;intro w4 hk ho hz;have HI4:=hid (HNX.out w4 hk ho hz);have HB4:=hid (bE (Nat.le_refl _) HB3.out ho hz (by have:=HG.out;omega));clear hk ho hz)
    go_roundw
    case rel=>exact⟨j+1,by go_num,by omega,HI4,HB4⟩
    case measure=>simp[intOf];omega
   ·go_wp2_with fail;go_ret;obtain rfl:j=l.length:=by omega
    exact⟨some ⟨G,0,none⟩,l.length,rfl,(fun h=>by cases h),Nat.le_refl _,(HI.out.rows pl).imp pl fun b hb=>⟨hb.1,by have:=HG.out;have:=hb.2;omega⟩,HB.out⟩
theorem pk (S:Nat→Prop)(A:Option Addr)(c:Nat)(l:List aR)(w:World)(hS: ∀b,S b→b<w.heap.size)(h:bk w S A l)(hl:l.length≤1172812402961):
  Calls Tryz.prog 60 #[.slice A l.length c] w fun e w'=> ∃A' c',e= .returned (.slice A' l.length c')∧(A'=none→c'=0)∧l.length≤c'∧bk w' (fun b=>b<w'.heap.size∧w.heap.size≤b) A' l∧Below w.heap.size w w':=by
 have HC:=hid (sM S A c l w hS h hl);clear h;go_enter Tryz.func60,Tryz.ntmps60;go_wp2_with fail;refine HC.out.mono ?_;rintro e w1 ⟨A',c',rfl,h⟩;go_wp2_with fail;go_ret;exact⟨A',c',rfl,h⟩
def bQ :List ByteArray→List ByteArray→Int
  | [],[]=>0
  | [],_::_=> -1
  |_::_,[]=>1
  |a::r,b::s=>ore (b8 a.toList b.toList) (bQ r s)
theorem ki : ∀a b c:List ByteArray,Tri (bQ a b) (bQ b c) (bQ a c)
  | [],[],[]=>uv
  | [],[],_::_=>by unfold bQ Tri;omega
  | [],_::_,[]=>by unfold bQ Tri;omega
  | [],_::_,_::_=>by simp only[bQ];unfold Tri;omega
  |_::_,[],[]=>by unfold bQ Tri;omega
  |_::_,[],_::_=>by simp only[bQ];unfold Tri;omega
  |_::_,_::_,[]=>by simp only[bQ];unfold Tri;omega
  |a::r,b::s,c::t=>vN (uy _ _ _) fun _ _=>ki r s t
theorem eX : ∀a b:List ByteArray,bQ b a= -(bQ a b)
  | [],[]=>rfl
  | [],_::_=>rfl
  |_::_,[]=>rfl
  |a::r,b::s=>uR (lm _ _) fun _=>eX r s
theorem jo : ∀a b:List ByteArray,bQ a b=0↔a=b
  | [],[]=>by simp[bQ]
  | [],_::_=>by simp[bQ]
  |_::_,[]=>by simp[bQ]
  |a::r,b::s=>by
    rw[bQ,et,dw,jo r s];constructor
    · rintro⟨h1,h2⟩;rw[toList_inj h1,h2]
    · intro h;injection h with h1 h2;exact⟨by rw[h1],h2⟩
theorem uG {x y:Int}(h:ore x y≤0):x≤0:=by unfold ore at h;split at h<;>omega
theorem ry : ∀ {p x q:List ByteArray},bQ p x≤0→bQ x q≤0→p <+: q→p <+: x
  | [],x,q,_,_,_=>List.nil_prefix
  |a::r,[],q,h,_,_=>by simp[bQ]at h
  |a::r,b::x,[],_,_,h=>by simp at h
  |a::r,b::x,c::q,h1,h2,h3=>by
    rw[List.cons_prefix_cons]at h3;obtain⟨rfl,h3⟩:=h3;rw[bQ]at h1 h2;have e1:=uG h1;have e2:=uG h2;rw[lm]at e2;have e3:b8 a.toList b.toList=0:=by omega
    have e4:b8 b.toList a.toList=0:=by rw[lm];omega
    have hab:a=b:=toList_inj ((dw _ _).1 e3);subst hab;unfold ore at h1 h2;rw[if_pos e3]at h1 h2;rw[List.cons_prefix_cons];exact⟨rfl,ry h1 h2 h3⟩
theorem fL {a b:List ByteArray}:dK a b=true↔a <+: b:=by
  unfold dK;simp only[Bool.and_eq_true,decide_eq_true_eq];constructor
  · rintro⟨h1,h2⟩
    exact⟨b.drop a.length,by have:=List.take_append_drop a.length b;rw[h2]at this;exact this⟩
  · intro h
    exact⟨h.length_le,(List.prefix_iff_eq_take.1 h).symm⟩
theorem tE : ∀ {a b:List ByteArray},a <+: b→bQ a b≤0
  | [],[],_=>by simp[bQ]
  | [],_::_,_=>by simp[bQ]
  |a::r,[],h=>by simp at h
  |a::r,b::s,h=>by
    rw[List.cons_prefix_cons]at h;obtain⟨rfl,h⟩:=h;have h0:b8 a.toList a.toList=0:=(dw _ _).2 rfl;rw[bQ];unfold ore;rw[if_pos h0];exact tE h
theorem qN (a b:List ByteArray):bO a b=bO b a:=by unfold bO;rw[Bool.or_comm]
theorem kx : ∀(l ahead:List (List ByteArray)),bI ahead l=false↔(∀p∈l,∀q∈ahead,bO p q=false)∧l.Pairwise (fun q p=>bO p q=false)
  | [],ahead=>by simp[bI]
  |p::r,ahead=>by
    rw[bI,Bool.or_eq_false_iff,kx r (ahead++[p]),List.pairwise_cons,List.any_eq_false];constructor
    · rintro⟨h1,h2,h3⟩
      refine⟨fun x hx q hq=> ?_,fun x hx=>h2 x hx p (by simp),h3⟩;rcases List.mem_cons.1 hx with rfl|hx
      · simpa using h1 q hq
      · exact h2 x hx q (List.mem_append_left _ hq)
    · rintro⟨h1,h2,h3⟩
      refine⟨fun q hq=>by simpa using h1 p (List.mem_cons_self ..) q hq,fun x hx q hq=> ?_,h3⟩;rcases List.mem_append.1 hq with hq|hq
      · exact h1 x (List.mem_cons_of_mem _ hx) q hq
      · obtain rfl:=List.mem_singleton.1 hq;exact h2 x hx
theorem jd (ps:List (List ByteArray)):bI [] ps=false↔ps.Pairwise (fun q p=>bO p q=false):=by rw[kx];simp
theorem sg {ps qs:List (List ByteArray)}(h:ps.Perm qs):bI [] ps=bI [] qs:=by
  have e:bI [] ps=false↔bI [] qs=false:=by
    rw[jd,jd];exact h.pairwise_iff fun {a b} h=>by rw[qN];exact h
  cases h1:bI [] ps<;>cases h2:bI [] qs<;>simp_all
theorem ph {ps:List (List ByteArray)}(hs: ∀i j (hi:i<ps.length) (hj:j<ps.length),i<j→bQ ps[i] ps[j]≤0):bI [] ps=false↔ ∀i (h:i+1<ps.length),dK (ps[i]'(by omega)) ps[i+1]=false:=by
  rw[jd,List.pairwise_iff_getElem];constructor
  · intro h i hi
    have h1:=h i (i+1) (by omega) hi (by omega);unfold bO at h1;rw[Bool.or_eq_false_iff]at h1;exact h1.2
  · intro h i j hi hj hij
    have hne: ∀(hp:ps[i] <+: ps[j]),False:=fun hp=>by
      have hb:ps[i] <+: ps[i+1]'(by omega):=by
        by_cases e:i+1=j
        · subst e;exact hp
        · exact ry (hs i (i+1) hi (by omega) (by omega)) (hs (i+1) j (by omega) hj (by omega)) hp
      have h1:=h i (by omega);rw[fL.2 hb]at h1;cases h1
    unfold bO;rw[Bool.or_eq_false_iff];refine⟨?_,?_⟩
    · cases hb:dK ps[j] ps[i]
      · rfl
      · exfalso
        have h1:=tE (fL.1 hb);have h2:=hs i j hi hj hij;rw[eX]at h1;have h3:bQ ps[i] ps[j]=0:=by omega
        exact hne (by rw[(jo _ _).1 h3];exact List.prefix_refl _)
    · cases hb:dK ps[i] ps[j]
      · rfl
      · exact(hne (fL.1 hb)).elim
theorem gz {a b:List ByteArray}: ∀(k:Nat),k≤a.length→k≤b.length→(∀j (h:j<a.length) (h':j<b.length),j<k→a[j]=b[j])→bQ a b=bQ (a.drop k) (b.drop k):=by
  induction a generalizing b with
  |nil=>intro k hk _ _;obtain rfl:k=0:=by simpa using hk
        simp
  |cons x r ih=>
    intro k hk hk' h
    cases k with
    |zero=>simp
    |succ k=>
      cases b with
      |nil=>simp at hk'
      |cons y s=>
        have hxy:x=y:=h 0 (by simp) (by simp) (by omega);subst hxy;have h0:b8 x.toList x.toList=0:=(dw _ _).2 rfl;rw[bQ];unfold ore;rw[if_pos h0,List.drop_succ_cons,List.drop_succ_cons]
        exact ih k (by simpa using hk) (by simpa using hk') fun j h1 h2 h3=>by
          have:=h (j+1) (by simpa using h1) (by simpa using h2) (by omega);simpa using this
theorem sf (A B:Option Addr)(c d:Nat)(a b:List ByteArray)(w:World)(S:Nat→Prop)(h:au w S A a)(k:au w S B b)(hn:a.length≤140737488351232)(hm:b.length≤140737488351232):
    Calls Tryz.prog 156 #[.slice A a.length c,.slice B b.length d] w fun e w'=>e= .returned (.int .i64 (bQ a b))∧w=w':=by
  have HA:=hid h;have HB:=hid k;clear h k;obtain⟨n,hn'⟩: ∃n,n=a.length:=⟨_,rfl⟩;obtain⟨m,hm'⟩: ∃m,m=b.length:=⟨_,rfl⟩;have HN:=hid hn';have HM:=hid hm';rw[←hn']at hn ⊢;rw[←hm']at hm ⊢;clear hn' hm';go_enter Tryz.func156,Tryz.ntmps156;go_wp2_with fail
  go_loopw [11] (fun i wr=> ∃k:Nat,i= .int .i64 k∧k≤n∧wr=w∧Hid (k≤m∧ ∀j (h:j<a.length) (h':j<b.length),j<k→a[j]=b[j])) (fun i _=>n - (intOf i).toNat)
  case atStart=>exact⟨0,rfl,by omega,rfl,hid ⟨by omega,fun j _ _ h=>absurd h (by omega)⟩⟩
  case round=>
    obtain⟨k,rfl,hk,rfl,HE⟩:=hrel;by_cases hlt:k<n
    · have d1:decide ((k:Int)<(n:Int))=true:=decide_eq_true (by omega)
      obtain⟨p,o,rfl,-,hc⟩:=HA.out (by have:=HN.out;omega);have hka:k<a.length:=by have:=HN.out;omega
      have hck:=(hc k hka).1;obtain⟨x,hx⟩: ∃x,x=a[k]:=⟨_,rfl⟩;rw[←hx]at hck;have HX:=hid hx;clear hc hx;by_cases hlb:k<m
      · have d2:decide ((k:Int)≥(m:Int))=false:=decide_eq_false (by omega)
        obtain⟨p',o',rfl,-,hc'⟩:=HB.out (by have:=HM.out;omega);have hkb:k<b.length:=by have:=HM.out;omega
        have hck':=(hc' k hkb).1;obtain⟨y,hy⟩: ∃y,y=b[k]:=⟨_,rfl⟩;rw[←hy]at hck';have HY:=hid hy;clear hc' hy;go_wp2_with fail;refine(iO x y _).mono ?_;rintro e u ⟨rfl,rfl⟩;by_cases h0:b8 x.toList y.toList=0
        · have d3:(b8 x.toList y.toList != 0)=false:=by rw[h0];rfl
          have HEQ:Hid (a[k]=b[k]):=hid (by rw[←HX.out,←HY.out];exact toList_inj ((dw _ _).1 h0));clear h0;go_wp2_with fail
          go_roundw
          case rel=>exact⟨k+1,by go_num,by omega,trivial,hid ⟨by omega,fun j h h' hjk=>by
            by_cases e:j=k
            · subst e;exact HEQ.out
            · exact HE.out.2 j h h' (by omega)⟩⟩
          case measure=>simp[intOf];omega
        · have d3:(b8 x.toList y.toList != 0)=true:=bne_iff_ne.2 h0
          have HF:Hid (bQ a b=b8 x.toList y.toList):=hid (by
            rw[gz k (by omega) (by omega) HE.out.2,List.drop_eq_getElem_cons hka,List.drop_eq_getElem_cons hkb,bQ,←HX.out,←HY.out];unfold ore
            rw[if_neg h0])
          clear h0;go_wp2_with fail;go_ret;exact⟨by rw[HF.out];rfl,rfl⟩
      · have d2:decide ((k:Int)≥(m:Int))=true:=decide_eq_true (by omega)
        have HF:Hid (bQ a b=1):=hid (by
          have hkm:k=b.length:=by have:=HE.out.1;have:=HM.out;omega
          have e2:b.drop k= []:=List.drop_eq_nil_of_le (by omega);rw[gz k (by omega) (by omega) HE.out.2,List.drop_eq_getElem_cons hka,e2]
          rfl)
        go_wp2_with fail;go_ret;exact⟨by rw[HF.out];rfl,rfl⟩
    · have hkn:k=n:=by omega
      have d1:decide ((k:Int)<(n:Int))=false:=decide_eq_false (by omega);by_cases hnm:n<m
      · have d2:decide ((n:Int)<(m:Int))=true:=decide_eq_true (by omega)
        have HF:Hid (bQ a b= -1):=hid (by
          have hkb:k<b.length:=by have:=HM.out;omega
          have q3:=HN.out;have e1:a.drop k= []:=List.drop_eq_nil_of_le (by omega);rw[gz k (by omega) (by omega) HE.out.2,e1,List.drop_eq_getElem_cons hkb]
          rfl)
        clear hkn;go_wp2_with fail;go_ret;exact⟨by rw[HF.out];rfl,rfl⟩
      · have d2:decide ((n:Int)<(m:Int))=false:=decide_eq_false (by omega)
        have HF:Hid (bQ a b=0):=hid (by
          have q1:=HE.out.1;have q2:=HM.out;have q3:=HN.out;have e1:a.drop k= []:=List.drop_eq_nil_of_le (by omega);have e2:b.drop k= []:=List.drop_eq_nil_of_le (by omega);rw[gz k (by omega) (by omega) HE.out.2,e1,e2]
          rfl)
        clear hkn;go_wp2_with fail;go_ret;exact⟨by rw[HF.out];rfl,rfl⟩
end Go.Proofs.YtgfidiocmiolpaaGreat
/- Layer 13, plain: the program's ways to say which entries may be. -/
namespace Go.Proofs.YtgfidiocmiolpaaGreat
theorem jF {k i:Int}{s:ByteArray}{n:Nat}{ns:List ByteArray}(h:aL k i s n ns=true)(hk:k≠7):ns= []:=by
 unfold aL at h
 have hz:ns.length=0:=by
  split at h
  ·simp only[Bool.and_eq_true,beq_iff_eq]at h;exact h.2.2
  split at h
  ·simp only[Bool.and_eq_true,beq_iff_eq]at h;exact h.2.2
  split at h
  ·simp only[Bool.and_eq_true,beq_iff_eq]at h;exact h.2.2
  split at h
  ·simp only[Bool.and_eq_true,beq_iff_eq]at h;exact h.2.2
  split at h
  ·simp only[Bool.and_eq_true,beq_iff_eq]at h;exact h.2
  ·simp[hk]at h
 exact List.eq_nil_of_length_eq_zero hz
theorem ek {t:VT}(h:aX t=0):ba t=true:=by
 unfold aX at h
 split at h
 ·next hm=>exact hm
 ·exact absurd h (by decide)
theorem tT (v id:VT):cH v id=(decide (0≤nmI 0 v.names idN) && decide (aX v=0) && (match v.items[(nmI 0 v.names idN).toNat]? with
  |some x=>decide (eA x id=0)
  |none=>false)):=by
 unfold cH;by_cases hc:aX v=0
 ·by_cases hk:v.kind=7
  ·rw[uW hk,←gY,decide_eq_true hk,decide_eq_true hc];by_cases hn:nmI 0 v.names idN<0
   ·rw[if_pos hn,decide_eq_false (by omega)];rfl
   ·rw[if_neg hn,decide_eq_true (Int.not_lt.1 hn)];all_goals rfl
  ·have hn:v.names= []:=by
    have:=((oC v).1 (ek hc)).1;exact jF this hk
   rw[hn,decide_eq_false hk];unfold nmI;rfl
 ·rw[decide_eq_false hc,Bool.and_false,Bool.and_false];rfl
theorem p8 {l:List aR}(h: ∀d∈l,ga d.path=true):iV l [idN]=l.any fun d=>decide (d.path.head? =some idN):=by
 unfold iV
 induction l with
 |nil=>rfl
 |cons d l ih=>
  rw[List.any_cons,List.any_cons,ih fun x hx=>h x (List.mem_cons_of_mem _ hx)]
  congr 1
  have hp:=h d List.mem_cons_self
  cases hd:d.path with
  |nil=>rw[hd]at hp;exact absurd hp (by decide)
  |cons s r=>
   have e:bO (s::r) [idN]=true↔s=idN:=by
    unfold bO;rw[Bool.or_eq_true,fL,fL];constructor
    ·rintro(h|h)
     ·exact(List.cons_prefix_cons.1 h).1
     ·exact(List.cons_prefix_cons.1 h).1.symm
    ·rintro rfl;exact .inr (List.cons_prefix_cons.2 ⟨rfl,List.nil_prefix⟩)
   by_cases hs:s=idN
   ·rw[e.2 hs,hs];simp
   ·have:bO (s::r) [idN]=false:=by
     cases hm:bO (s::r) [idN]with
     |false=>rfl
     |true=>exact absurd (e.1 hm) hs
    rw[this];simp[hs]
end Go.Proofs.YtgfidiocmiolpaaGreat
/- Changes that came in. -/
namespace Go.Proofs.YtgfidiocmiolpaaGreat
open Go.ChangeShapes Go.WideShapes Go.RowKit Go.Joins Go.Deep
theorem oO :Tryz.prog.cellsOf 114=8:=by kernel_rfl
theorem pr :Tryz.prog.cellsOf 44=1:=by kernel_rfl
theorem vo :Tryz.prog.bytesOf 114=120:=by kernel_rfl
theorem cA (b o j:Nat):(Addr.add ⟨b,o,none⟩ j:Addr)=⟨b,o+j,none⟩:=by cases j<;>simp[Addr.add]
theorem sm : ∃f0 f1 f2 f3:Field,Tryz.prog.underlying 114=some (.struct #[f0,f1,f2,f3])∧f0.type=3∧f1.type=41∧f2.type=43∧f3.type=3∧f0.offset=0∧f1.offset=1∧f2.offset=2∧f3.offset=7:=
 ⟨_,_,_,_,Tryz.underlying114,rfl,rfl,rfl,rfl,rfl,rfl,rfl,rfl⟩
def wX (w:World)(A:Option Addr)(l:List aR):Prop:= ∀k,k<l.length→ ∀b off,A=some ⟨b,off,none⟩→ ∀PA n pc,w.cell? ⟨b,off+k * 8+1,none⟩=some (.slice PA n pc)→pc≤9223372036854775807
section
variable {H :Type} {enc:TypeId×Value→H} {W:World} {sp:Nat→Bool}
theorem oK {fuel:Nat}{cs:List Value}{x:DataW H×List MemPlace}(h:DataW.trod enc Tryz.prog W 0 sp true fuel 41 cs=some x)(hw: ∀n∈x.1.weights Tryz.prog 41,n≤reachBytes):
  ∃A c,∃ns:List ByteArray,cs= [.slice A ns.length c]∧ns.length≤c∧(A=none→c=0)∧c≤9223372036854775807∧ns.length≤8796093021952∧au W (fun b=>b<W.heap.size) A ns:=by
 obtain⟨A,c,ns,hcs,h1,h2,h3,h4⟩:=ju h hw;refine⟨A,c,ns,hcs,h1,h2,?_,h3,h4⟩;rcases open_strings Tryz.underlying41 Tryz.underlying9 fN h with ⟨h0,_⟩|⟨a,len,cap,ss,h0,-,hl,hm,-⟩
 ·rw[hcs]at h0;injection h0 with h0
  injection h0 with e1 e2 e3
  omega
 ·rw[hcs]at h0;injection h0 with h0
  injection h0 with e1 e2 e3
  unfold maxLen at hm;omega
theorem uZ {fuel:Nat}{cs:List Value}{x:DataW H×List MemPlace}(h:DataW.trod enc Tryz.prog W 0 sp true fuel 114 cs=some x)(hw: ∀n∈x.1.weights Tryz.prog 114,n≤reachBytes):
  ∃d:aR,eb W (fun b=>b<W.heap.size) d cs.toArray∧ ∀PA n pc,cs.toArray[1]? =some (.slice PA n pc)→pc≤9223372036854775807:=by
 obtain⟨f0,f1,f2,f3,hu,t0,t1,t2,t3,o0,o1,o2,o3⟩:=sm;obtain⟨xs,n,hfu,hx,hlen,hxl,hg⟩:=DataW.trod_struct hu h;rw[oO]at hlen
 match cs,hlen with
 | [c0,c1,c2,c3,c4,c5,c6,c7],_=>
  match xs,hxl with
  | [y0,y1,y2,y3],_=>
   have g0:=hg 0 f0 rfl;have g1:=hg 1 f1 rfl;have g2:=hg 2 f2 rfl;have g3:=hg 3 f3 rfl;rw[t0,o0,cX]at g0;rw[t1,o1,mV]at g1;rw[t2,o2,gh]at g2;rw[t3,o3,cX]at g3;have hws:=hw;rw[hx]at hws;simp only[DataW.weights,hu,List.map_cons,List.map_nil,t0,t1,t2,t3]at hws;obtain⟨k,e0,-,w0⟩:=DataW.trod_int Tryz.underlying3 g0;obtain⟨m,e3,-,w3⟩:=DataW.trod_int Tryz.underlying3 g3;simp at e0 e3;subst e0 e3;have hw1: ∀n∈y1.1.weights Tryz.prog 41,n≤reachBytes:=fun n hn=>hws n (by rw[DataW.weightsEach,DataW.weightsEach];exact List.mem_append_right _ (List.mem_append_left _ hn));have hw2: ∀n∈y2.1.weights Tryz.prog 43,n≤reachBytes:=fun n hn=>hws n (by rw[DataW.weightsEach,DataW.weightsEach,DataW.weightsEach];exact List.mem_append_right _ (List.mem_append_right _ (List.mem_append_left _ hn)));obtain⟨PA,pc,ps,e1,hpc,hpo,h63,hpn,hps⟩:=oK g1 hw1;obtain⟨t,ht⟩:=ky _ _ _ g2 hw2;simp at e1;subst e1;obtain⟨VA,vc,VA',vc',hvs,-⟩:=ht.shape;simp at hvs;obtain⟨rfl,rfl,rfl,rfl,rfl⟩:=hvs;refine⟨⟨k,ps,t,m⟩,⟨PA,pc,VA,vc,VA',vc',rfl,ht,hps,hpc,hpo,in64_of_wf w0,in64_of_wf w3,hpn⟩,fun PA' n' pc' e=> ?_⟩;injection e with e
   injection e with _ _ e
   omega
theorem s7 {fuel:Nat}{cs:List Value}{x:DataW H×List MemPlace}(h:DataW.trod enc Tryz.prog W 0 sp true fuel 44 cs=some x)(hw: ∀n∈x.1.weights Tryz.prog 44,n≤reachBytes):
  ∃A c,∃os:List aR,cs= [.slice A os.length c]∧(A=none→c=0∧os= [])∧os.length≤c∧os.length≤1172812402961∧bk W (fun b=>b<W.heap.size) A os∧wX W A os:=by
 rcases DataW.trod_slice Tryz.underlying44 h with ⟨e3,-⟩|⟨a,len,cap,elems,rest,m,hm,e3,x3,-,hlc,-,hel,hat,-,-⟩
 ·exact⟨none,0,[],e3,fun _=>⟨rfl,rfl⟩,by simp,by simp,fun h=>absurd h (by simp),fun k h=>absurd h (by simp)⟩
 ·have hws:=hw;rw[x3]at hws;simp only[DataW.weights,Tryz.underlying44]at hws
  have hl:len≤1172812402961:=by
   have h1:=hws _ (List.mem_cons_self ..);rw[vo]at h1;simp only[List.length_map,hel,reachBytes]at h1;omega
  have hT: ∀j,∃o:aR,j<len→ ∃cs:Array Value,(∀i v,cs[i]? =some v→W.cell? ((a.add (j * 8)).add i)=some v)∧eb W (fun b=>b<W.heap.size) o cs∧(∀PA n pc,cs[1]? =some (.slice PA n pc)→pc≤9223372036854775807):=by
   intro j;by_cases hj:j<len
   ·have h1:=hat j hj;rw[oO,List.getElem?_eq_getElem (by omega)]at h1;obtain⟨cs',hc,ht⟩:=Option.bind_eq_some_iff.1 h1;obtain⟨-,hcl,hcat⟩:=World.cells?_some hc;obtain⟨o,ho,hoc⟩:=uZ ht (fun n hn=>hws n (List.mem_cons_of_mem _ (List.mem_append_left _ (cO (List.mem_map.2 ⟨_,List.getElem_mem (by omega),rfl⟩) n hn))));refine⟨o,fun _=>⟨cs'.toArray,fun i v hv=> ?_,ho,hoc⟩⟩;have hi:=(Array.getElem?_eq_some_iff.1 hv).1;have hi':i<cs'.length:=by simpa using hi
    rw[hcat i (by omega)];simpa using hv
   ·exact⟨⟨0,[],.mk 0 0 ⟨#[]⟩ [] [],0⟩,fun h=>absurd h hj⟩
  obtain⟨T,hT⟩:=Classical.skolem.1 hT;have hlm:((List.range len).map T).length=len:=by simp
  by_cases hp0:0<len
  ·obtain⟨b,off,spot⟩:=a;obtain⟨cs0,h0,hok0,-⟩:=hT 0 hp0;obtain⟨PA0,pc0,VA0,vc0,VA1,vc1,hcs0,-⟩:=hok0;have h00:=h0 0 (.int .i64 (T 0).kind) (by rw[hcs0];rfl);obtain rfl:spot=none:=by simpa[Addr.add]using World.cell?_spot h00
   refine⟨some ⟨b,off,none⟩,cap,(List.range len).map T,by rw[hlm];exact e3,(fun h=>by cases h),by omega,by omega,fun hp=> ?_,fun k hk b2 off2 hA PA n pc hc=> ?_⟩
   ·refine⟨b,off,rfl,?_,fun j hj=> ?_⟩
    ·rw[cA,cA]at h00;exact World.block_lt_of_cell? W _ h00
    ·rw[hlm]at hj;obtain⟨cs,h0,h1,-⟩:=hT j hj;refine⟨cs,fun i v hv=> ?_,by simpa using h1⟩;have:=h0 i v hv;rw[cA,cA]at this;exact this
   ·rw[hlm]at hk;injection hA with hA
    injection hA with e1 e2
    subst e1 e2;obtain⟨cs,h0,h1,h2⟩:=hT k hk;obtain⟨PA1,pc1,VA2,vc2,VA3,vc3,hcs1,-⟩:=h1;have h3:=h0 1 (.slice PA1 (T k).path.length pc1) (by rw[hcs1];rfl);rw[cA,cA]at h3;rw[h3]at hc;injection hc with hc
    injection hc with _ _ hc
    have:=h2 PA1 (T k).path.length pc1 (by rw[hcs1];rfl);omega
  ·have hl0:len=0:=by omega
   subst hl0;exact⟨some a,cap,[],by simpa using e3,(fun h=>by cases h),by simp,by simp,fun h=>absurd h (by simp),fun k h=>absurd h (by simp)⟩
end
end Go.Proofs.YtgfidiocmiolpaaGreat
