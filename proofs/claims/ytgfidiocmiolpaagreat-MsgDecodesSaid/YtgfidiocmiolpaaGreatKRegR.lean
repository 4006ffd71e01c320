/- Statements whose order Go leaves open, where two operations that do more than yield may come in either order: a walk along a tree of orders, with a relation of one's choice for what must stay while something that only yields is waited for. -/
import Derived.Test.YtgfidiocmiolpaaGreatKMath
import Derived.Test.YtgfidiocmiolpaaGreatKValO
import Derived.Test.YtgfidiocmiolpaaGreatKValB
import Derived.Test.YtgfidiocmiolpaaGreatKCodM
import Derived.Test.YtgfidiocmiolpaaGreatKVr
import Derived.Deep.OwnRows
import Derived.Laws.AppendOwnNone
import Derived.Deep.Slices
import Derived.SliceStrings
import Derived.SizedLaws
import Derived.Lib.SmallJoins
import Derived.Laws.OwnMore
import Derived.Laws.AppendOwn
import Derived.Laws.ResultCell
import Derived.Outline
set_option maxHeartbeats 64000000
set_option maxRecDepth 100000
set_option linter.unusedVariables false
set_option linter.unusedSimpArgs false
namespace Go.Proofs.YtgfidiocmiolpaaGreat
open Go.RowKit Go.Sort
structure bW (R:World→World→Prop)(w:World) where
 u:World
 h:R w u
abbrev CRR (R:World→World→Prop)(w:World):World→Prop:=fun u=> ∃p:bW R w,u=p.u
inductive OT where
 |tail (l:List Nat):OT
 |pure (l:List Nat) (t:OT):OT
 |free (l:List Nat) (t:OT):OT
 |step (i:Nat) (t:OT):OT
 |fork (i:Nat) (a:OT) (j:Nat) (b:OT):OT
section
variable {P :Program} {ops:Array Oper} {Q:Exit→Act→World→Prop} {md:Region.Mode} {R:World→World→Prop} {T:List Nat}
def kB (R:World→World→Prop)(T:List Nat)(P:Program)(md:Region.Mode)(ops:Array Oper)(Q:Exit→Act→World→Prop):Nat→Array Bool→Act→World→Prop
 |0,listed,a,w=>Region.ready md ops listed= []∧Q .normal a w
 |f+1,listed,a,w=>(Region.ready md ops listed= []→Q .normal a w)∧
   ∀i∈Region.ready md ops listed,wpOp P ops Q i (fun a' w'=>(i∈T∨R w w')∧kB R T P md ops Q f (listed.setIfInBounds i true) a' w') a w
theorem iO : ∀(f:Nat) (listed:Array Bool) (a:Act) (w:World),kB R T P md ops Q f listed a w→wpAny P md ops Q f listed a w
 |0,_,_,_,h=>h
 |f+1,_,_,_,h=>⟨h.1,fun i hi=>wpOp_mono (fun a' w' h'=>iO f _ a' w' h'.2) (h.2 i hi)⟩
def iU (md:Region.Mode)(ops:Array Oper)(T:List Nat)(i:Nat):Bool:=T.all fun j=>match ops[j]? with
 |none=>true
 |some o=>o.after.toList.any fun e=>Region.binds md e && Nat.beq e.on i
theorem iG (hrr: ∀w,R w w)(R2:World→World→Prop)(hrr2: ∀w,R2 w w)(htr: ∀a b c,R2 a b→R2 b c→R2 a c){i:Nat}{oi:Oper}{v:Value}(hi:ops[i]? =some oi)(hT0:(iU md ops T i=true∧ ∀a b,R a b→R2 a b)∨ ∀a b,R2 a b)(hsel:Region.noSelect ops=true)(hQ: ∀c d v a w,Q (.panic c) (Act.put a d v) w→Q (.panic c) a w):
  ∀(f:Nat) (listed:Array Bool) (a:Act) (w:World),
   (∀j oj,ops[j]? =some oj→j≠i→listed.getD j true=false→(∀e∈oj.after,Region.binds md e=true→e.on≠i)→oi.apart ops oj=true)→
   i∈Region.ready md ops listed→YieldsIf P ops (fun u=>R2 w u) oi v a→
   kB R T P md ops Q f (listed.setIfInBounds i true) (a.put oi.dst v) w→kB R T P md ops Q (f+1) listed a w:=by
 intro f
 induction f with
 |zero=>
  intro listed a w _ hr hy H;refine⟨fun h=>absurd hr (by rw[h];exact List.not_mem_nil),fun j hj=> ?_⟩;by_cases hji:j=i
  ·subst hji;exact hy.wpOp hi (hrr2 _) ⟨.inr (hrr _),H⟩
  ·exact absurd (ready_mono hj hji) (by rw[H.1];exact List.not_mem_nil)
 |succ f ih=>
  intro listed a w hfree hr hy H;refine⟨fun h=>absurd hr (by rw[h];exact List.not_mem_nil),fun j hj=> ?_⟩;by_cases hji:j=i
  ·subst hji;exact hy.wpOp hi (hrr2 _) ⟨.inr (hrr _),H⟩
  ·obtain⟨hjun,oj,hoj,hall⟩:=mem_ready.1 hj
   have hnot: ∀e∈oj.after,Region.binds md e=true→e.on≠i:=by
    intro e he hb heq;have h1:=hall e he hb;have h0:=(mem_ready.1 hr).1;rw[heq]at h1;rcases Nat.lt_or_ge i listed.size with h'|h'
    ·simp[h']at h0 h1;rw[h0]at h1;cases h1
    ·simp[Array.getElem?_eq_none h']at h1
   have hjT:iU md ops T i=true→j∉T:=by
    intro hT hm;have h1:=List.all_eq_true.1 hT j hm;rw[hoj]at h1;obtain⟨e,he,hb⟩:=List.any_eq_true.1 h1;simp only[Bool.and_eq_true]at hb;exact hnot e (by simpa using he) hb.1 (Nat.eq_of_beq_eq_true hb.2)
   have h2:=wpOp_putIf (S:=fun u=>R2 w u) hoj (hfree j oj hoj hji hjun hnot) (fun cs b=>Region.noSelect_spec hsel i oi cs b hi) (fun cs b=>Region.noSelect_spec hsel j oj cs b hoj)
    (fun c a w=>hQ c oi.dst v a w) hy (H.2 j (ready_mono hj hji))
   refine wpOp_mono (fun a' w' h3=> ?_) h2
   have hR:R2 w w':=by
    rcases hT0 with ⟨hT,himp⟩|hall
    ·exact himp _ _ (h3.2.1.resolve_left (hjT hT))
    ·exact hall _ _
   refine⟨h3.2.1,ih (listed.setIfInBounds j true) a' w' ?_ (ready_mono hr (Ne.symm hji)) (h3.1.imp (fun⟨h1,h2⟩=>⟨h1,fun u hu=>h2 u (htr _ _ _ hR hu)⟩) id) ?_⟩
   ·intro k ok hk hki hun hno;refine hfree k ok hk hki ?_ hno;by_cases hjk:j=k
    ·subst hjk;exact hjun
    ·rw[getD_set_ne true hjk]at hun;exact hun
   ·rw[Array.setIfInBounds_comm _ _ hji];exact h3.2.2
/-! ### the tree, checked -/
def jR (md:Region.Mode)(ops:Array Oper)(T:List Nat):Nat→List Nat→Array Bool→Bool
 |0,[],listed=>(Region.ready md ops listed).isEmpty
 |f+1,i::r,listed=>(ops[i]?).isSome && Region.ready md ops listed == [i] && T.contains i && jR md ops T f r (listed.setIfInBounds i true)
 |_,_,_=>false
def mv (all:Bool)(md:Region.Mode)(ops:Array Oper)(T:List Nat):List Nat→Array Bool→Bool
 | [],_=>true
 |i::r,listed=>match ops[i]? with
  |none=>false
  |some o=>ao o && (Region.ready md ops listed).contains i && Region.free md ops listed i && (all || iU md ops T i) && mv all md ops T r (listed.setIfInBounds i true)
def mZ (l:List Nat)(listed:Array Bool):Array Bool:=l.foldl (fun x i=>x.setIfInBounds i true) listed
def mx (md:Region.Mode)(ops:Array Oper)(T:List Nat):Nat→OT→Array Bool→Bool
 |f,.tail l,listed=>jR md ops T f l listed
 |f,.pure l t,listed=>l.length≤f && mv false md ops T l listed && mx md ops T (f - l.length) t (mZ l listed)
 |f,.free l t,listed=>l.length≤f && mv true md ops T l listed && mx md ops T (f - l.length) t (mZ l listed)
 |f,.step i t,listed=>1≤f && (ops[i]?).isSome && Region.ready md ops listed == [i] && mx md ops T (f - 1) t (listed.setIfInBounds i true)
 |f,.fork i a j b,listed=>1≤f && (ops[i]?).isSome && (ops[j]?).isSome && Region.ready md ops listed == [i,j] && mx md ops T (f - 1) a (listed.setIfInBounds i true) && mx md ops T (f - 1) b (listed.setIfInBounds j true)
/-! ### the walk -/
def eN (P:Program)(ops:Array Oper)(Q:Exit→Act→World→Prop)(o:Oper)(K:Act→World→Prop)(a:Act)(w:World):Prop:=
 if Region.wanted o (yielded ops a.tmps)then o.wp P a w K Q else K (a.put o.dst undef) w
def o4 (P:Program)(ops:Array Oper)(Q:Exit→Act→World→Prop):List Oper→Act→World→Prop
 | [],a,w=>Q .normal a w
 |o::r,a,w=>eN P ops Q o (o4 P ops Q r) a w
abbrev mS :World→World→Prop:=fun _ _=>True
instance (w :World):Inhabited (bW mS w):=⟨⟨w,trivial⟩⟩
def gx (R:World→World→Prop)(T:List Nat)(P:Program)(ops:Array Oper)(Q:Exit→Act→World→Prop):OT→Act→World→Prop
 | .tail l,a,w=>o4 P ops Q (dI ops l) a w
 | .pure l t,a,w=>wpQuiet P ops (CRR R w) (fun a'=>gx R T P ops Q t a' w) (dI ops l) a
 | .free l t,a,w=>wpQuiet P ops (CRR mS w) (fun a'=>gx R T P ops Q t a' w) (dI ops l) a
 | .step i t,a,w=> ∀o,ops[i]? =some o→eN P ops Q o (fun a' w'=>(i∈T∨R w w')∧gx R T P ops Q t a' w') a w
 | .fork i x j y,a,w=>(∀o,ops[i]? =some o→eN P ops Q o (fun a' w'=>(i∈T∨R w w')∧gx R T P ops Q x a' w') a w)∧(∀o,ops[j]? =some o→eN P ops Q o (fun a' w'=>(j∈T∨R w w')∧gx R T P ops Q y a' w') a w)
theorem iE {i:Nat}{o:Oper}{K:Act→World→Prop}{a:Act}{w:World}(ho:ops[i]? =some o)(h:eN P ops Q o K a w):wpOp P ops Q i K a w:=by
 unfold wpOp eN at *;simp only[ho]
 split
 ·next hw=>rw[if_pos hw]at h;exact .inl h
 ·next hw=>rw[if_neg hw]at h;exact h
theorem jk {o:Oper}{K K':Act→World→Prop}{a:Act}{w:World}(hk: ∀a w,K a w→K' a w)(h:eN P ops Q o K a w):eN P ops Q o K' a w:=by
 unfold eN at *
 split
 ·next hw=>rw[if_pos hw]at h;exact Oper.wp_mono hk h
 ·next hw=>rw[if_neg hw]at h;exact hk _ _ h
theorem iT {i:Nat}{r:List Nat}{o:Oper}(h:ops[i]? =some o):dI ops (i::r)=o::dI ops r:=by simp[dI,h]
theorem oH {i:Nat}{o:Oper}{f:Nat}{listed:Array Bool}{a:Act}{w:World}(ho:ops[i]? =some o)(hr:Region.ready md ops listed= [i])
  (h:eN P ops Q o (fun a' w'=>(i∈T∨R w w')∧kB R T P md ops Q f (listed.setIfInBounds i true) a' w') a w):kB R T P md ops Q (f+1) listed a w:=
 ⟨(fun h0=>by rw[hr]at h0;cases h0),fun j hj=>by
  rw[hr]at hj;obtain rfl:j=i:=by simpa using hj
  exact iE ho h⟩
theorem og : ∀(f:Nat) (l:List Nat) (listed:Array Bool) (a:Act) (w:World),jR md ops T f l listed=true→o4 P ops Q (dI ops l) a w→kB R T P md ops Q f listed a w
 |0,[],listed,a,w,hB,h=>⟨by unfold jR at hB;simpa using hB,h⟩
 |0,i::r,listed,a,w,hB,h=>by unfold jR at hB;cases hB
 |f+1,[],listed,a,w,hB,h=>by unfold jR at hB;cases hB
 |f+1,i::r,listed,a,w,hB,h=>by
  unfold jR at hB;simp only[Bool.and_eq_true,beq_iff_eq]at hB;obtain⟨⟨⟨h1,h2⟩,h3⟩,h4⟩:=hB;obtain⟨o,ho⟩:=Option.isSome_iff_exists.1 h1;rw[iT ho]at h;exact oH ho h2 (jk (fun a' w' h'=>⟨.inl (by simpa using h3),og f r _ a' w' h4 h'⟩) h)
theorem pR {o:Oper}{v:Value}{a:Act}{w:World}(hp:ao o=true)(hw:Region.wanted o (yielded ops a.tmps)=true)(h: ∀u,CRR R w u→o.quietAt P a (CRR R w) u v):
  YieldsIf P ops (fun u=>R w u) o v a:=by
 refine .inl ⟨hw,fun u hu=> ?_⟩;have h1:=h u ⟨⟨u,hu⟩,rfl⟩;unfold Oper.quietAt at h1
 cases hr:(execOp a.eval o).run P u with
 |halt x u'=>rw[hr]at h1;exact absurd h1 (by simp[Oper.quietUpon])
 |ok n u'=>
  obtain⟨x,rfl⟩:=mK hp hr;rw[hr]at h1;obtain⟨rfl,rfl⟩:=h1;rfl
theorem jA (hrr: ∀w,R w w)(R2:World→World→Prop)(all:Bool)(hrr2: ∀w,R2 w w)(htr: ∀a b c,R2 a b→R2 b c→R2 a c)(h2:if all then ∀a b,R2 a b else ∀a b,R a b→R2 a b)(hsel:Region.noSelect ops=true)(hQ: ∀c d v a w,Q (.panic c) (Act.put a d v) w→Q (.panic c) a w)(f:Nat){w:World}{K:Act→Prop}:
  ∀(l:List Nat) (listed:Array Bool) (a:Act),mv all md ops T l listed=true→(∀a',K a'→kB R T P md ops Q f (mZ l listed) a' w)→wpQuiet P ops (CRR R2 w) K (dI ops l) a→kB R T P md ops Q (l.length+f) listed a w
 | [],listed,a,_,hK,h=>by
  have h1:=hK a h
  simpa[mZ]using h1
 |i::r,listed,a,hB,hK,h=>by
  unfold mv at hB
  cases ho:ops[i]? with
  |none=>rw[ho]at hB;cases hB
  |some o=>
   rw[ho]at hB;simp only[Bool.and_eq_true]at hB;obtain⟨⟨⟨⟨hp,hr⟩,hk⟩,hT⟩,hB'⟩:=hB;rw[iT ho]at h
   have hT':(iU md ops T i=true∧ ∀a b,R a b→R2 a b)∨ ∀a b,R2 a b:=by
    cases all with
    |true=>exact .inr (by simpa using h2)
    |false=>exact .inl ⟨by simpa using hT,by simpa using h2⟩
   have e:(i::r).length+f=(r.length+f)+1:=by simp;omega
   rw[e];unfold wpQuiet at h;have hK': ∀a',K a'→kB R T P md ops Q f (mZ r (listed.setIfInBounds i true)) a' w:=fun a' h'=>hK a' h';by_cases hw:Region.wanted o (yielded ops a.tmps)=true
   ·rw[if_pos hw]at h;obtain⟨v,h1,h3⟩:=h;exact iG hrr R2 hrr2 htr ho hT' hsel hQ _ listed a w (Region.free_spec ho hk) (by simpa using hr) (pR hp hw h1) (jA hrr R2 all hrr2 htr h2 hsel hQ f r _ _ hB' hK' h3)
   ·rw[if_neg hw]at h;exact iG hrr R2 hrr2 htr ho hT' hsel hQ _ listed a w (Region.free_spec ho hk) (by simpa using hr) (.inr ⟨by simpa using hw,rfl⟩) (jA hrr R2 all hrr2 htr h2 hsel hQ f r _ _ hB' hK' h)
theorem fy (hrr: ∀w,R w w)(htr: ∀a b c,R a b→R b c→R a c)(hsel:Region.noSelect ops=true)(hQ: ∀c d v a w,Q (.panic c) (Act.put a d v) w→Q (.panic c) a w):
  ∀(t:OT) (f:Nat) (listed:Array Bool) (a:Act) (w:World),mx md ops T f t listed=true→gx R T P ops Q t a w→kB R T P md ops Q f listed a w
 | .tail l,f,listed,a,w,hB,h=>og f l listed a w hB h
 | .pure l t,f,listed,a,w,hB,h=>by
  unfold mx at hB;simp only[Bool.and_eq_true,decide_eq_true_eq]at hB;obtain⟨⟨h1,h2⟩,h3⟩:=hB;have e:f=l.length+(f - l.length):=by omega
  rw[e]
  exact jA hrr R false hrr htr (by simp) hsel hQ _ l listed a h2 (fun a' h'=>fy hrr htr hsel hQ t _ _ a' w h3 h') h
 | .free l t,f,listed,a,w,hB,h=>by
  unfold mx at hB;simp only[Bool.and_eq_true,decide_eq_true_eq]at hB;obtain⟨⟨h1,h2⟩,h3⟩:=hB;have e:f=l.length+(f - l.length):=by omega
  rw[e]
  exact jA hrr mS true (fun _=>trivial) (fun _ _ _ _ _=>trivial) (by simp[mS]) hsel hQ _ l listed a h2 (fun a' h'=>fy hrr htr hsel hQ t _ _ a' w h3 h') h
 | .step i t,f,listed,a,w,hB,h=>by
  unfold mx at hB;simp only[Bool.and_eq_true,decide_eq_true_eq,beq_iff_eq]at hB;obtain⟨⟨⟨h1,h2⟩,h3⟩,h4⟩:=hB;obtain⟨o,ho⟩:=Option.isSome_iff_exists.1 h2;have e:f=(f - 1)+1:=by omega
  rw[e]
  exact oH ho h3 (jk (fun a' w' h'=>⟨h'.1,fy hrr htr hsel hQ t _ _ a' w' h4 h'.2⟩) (h o ho))
 | .fork i x j y,f,listed,a,w,hB,h=>by
  unfold mx at hB;simp only[Bool.and_eq_true,decide_eq_true_eq,beq_iff_eq]at hB;obtain⟨⟨⟨⟨⟨h1,h2⟩,h3⟩,h4⟩,h5⟩,h6⟩:=hB;obtain⟨o,ho⟩:=Option.isSome_iff_exists.1 h2;obtain⟨o',ho'⟩:=Option.isSome_iff_exists.1 h3;have e:f=(f - 1)+1:=by omega
  rw[e];refine⟨(fun h0=>by rw[h4]at h0;cases h0),fun k hk=> ?_⟩;rw[h4]at hk;rcases List.mem_cons.1 hk with rfl|hk
  ·exact iE ho (jk (fun a' w' h'=>⟨h'.1,fy hrr htr hsel hQ x _ _ a' w' h5 h'.2⟩) (h.1 o ho))
  ·obtain rfl:k=j:=by simpa using hk
   exact iE ho' (jk (fun a' w' h'=>⟨h'.1,fy hrr htr hsel hQ y _ _ a' w' h6 h'.2⟩) (h.2 o' ho'))
def yr (ops:Array Oper)(T:List Nat)(t:OT):Bool:=Region.noSelect ops && mx .any ops T ops.size t (Array.replicate ops.size false)
theorem bm (R:World→World→Prop)(hrr: ∀w,R w w)(htr: ∀a b c,R a b→R b c→R a c)(T:List Nat)(t:OT){id:Nat}{a:Act}{w:World}(hm:P.follows .mixedOrders=true)(hB:yr ops T t=true)
  (hQ: ∀c d v a w,Q (.panic c) (Act.put a d v) w→Q (.panic c) a w) (h:gx R T P ops Q t a w.drew):(Code.region id ops true).wp P Q a w:=by
 unfold yr at hB;simp only[Bool.and_eq_true]at hB;exact wp_region_any hm (iO (R:=R) (T:=T) _ _ _ _ (fy hrr htr hB.1 hQ t _ _ a w.drew hB.2 h))
/-! ### nodes, one at a time -/
theorem dg {l:List Nat}{t:OT}{a:Act}{w:World}(h:wpQuiet P ops (CRR R w) (fun a'=>gx R T P ops Q t a' w) (dI ops l) a):gx R T P ops Q (.pure l t) a w:=h
theorem dK {l:List Nat}{t:OT}{a:Act}{w:World}(h:wpQuiet P ops (CRR mS w) (fun a'=>gx R T P ops Q t a' w) (dI ops l) a):gx R T P ops Q (.free l t) a w:=h
theorem yt {i:Nat}{o:Oper}{t:OT}{a:Act}{w:World}
  (h: ∀K:Act→World→Prop,(∀a' w',(i∈T∨R w w')→gx R T P ops Q t a' w'→K a' w')→if Region.wanted o (yielded ops a.tmps)=true then o.wp P a w K Q else K (a.put o.dst undef) w):
  eN P ops Q o (fun a' w'=>(i∈T∨R w w')∧gx R T P ops Q t a' w') a w:=h _ fun _ _ h1 h2=>⟨h1,h2⟩
theorem aT {i:Nat}{o:Oper}{t:OT}{a:Act}{w:World}(ho:ops[i]? =some o)
  (h: ∀K:Act→World→Prop,(∀a' w',(i∈T∨R w w')→gx R T P ops Q t a' w'→K a' w')→if Region.wanted o (yielded ops a.tmps)=true then o.wp P a w K Q else K (a.put o.dst undef) w):
  gx R T P ops Q (.step i t) a w:=fun o' ho'=>by
 rw[ho]at ho';injection ho' with e
 subst e;exact yt h
theorem jo {i j:Nat}{o o':Oper}{x y:OT}{a:Act}{w:World}(ho:ops[i]? =some o)(ho':ops[j]? =some o')
  (h: ∀K:Act→World→Prop,(∀a' w',(i∈T∨R w w')→gx R T P ops Q x a' w'→K a' w')→if Region.wanted o (yielded ops a.tmps)=true then o.wp P a w K Q else K (a.put o.dst undef) w)
  (h': ∀K:Act→World→Prop,(∀a' w',(j∈T∨R w w')→gx R T P ops Q y a' w'→K a' w')→if Region.wanted o' (yielded ops a.tmps)=true then o'.wp P a w K Q else K (a.put o'.dst undef) w):
  gx R T P ops Q (.fork i x j y) a w:=⟨aT (t:=x) ho h,aT (t:=y) ho' h'⟩
theorem eJ {o:Oper}{f:Nat→Option Bool}(hg:o.guard=none):Region.wanted o f=true:=by unfold Region.wanted;rw[hg]
theorem fB {i:Nat}{o:Oper}{t:OT}{a:Act}{w:World}(ho:ops[i]? =some o)(hg:o.guard=none)
  (h: ∀K:Act→World→Prop,(∀a' w',(i∈T∨R w w')→gx R T P ops Q t a' w'→K a' w')→o.wp P a w K Q):
  gx R T P ops Q (.step i t) a w:=aT ho fun K hK=>by rw[if_pos (eJ hg)];exact h K hK
theorem dJ {i:Nat}{o:Oper}{l:List Nat}{a:Act}{w:World}(ho:ops[i]? =some o)
  (h: ∀K:Act→World→Prop,(∀a' w',gx R T P ops Q (.tail l) a' w'→K a' w')→if Region.wanted o (yielded ops a.tmps)=true then o.wp P a w K Q else K (a.put o.dst undef) w):
  gx R T P ops Q (.tail (i::l)) a w:=by
 show o4 P ops Q (dI ops (i::l)) a w;rw[iT ho];exact h _ fun _ _ h1=>h1
theorem dt {a:Act}{w:World}(h:Q .normal a w):gx R T P ops Q (.tail []) a w:=h
end
end Go.Proofs.YtgfidiocmiolpaaGreat
/- Values made, and copied. -/
namespace Go.Proofs.YtgfidiocmiolpaaGreat
open Lib (hid)
open Go.RowKit
theorem Tryz.infoStr :(Tryz.prog.info? 9).map (fun i=>(i.zero,i.size,i.bytes))=some (some (.string ⟨#[]⟩),1,16):=by kernel_rfl
theorem Tryz.infoVal :(Tryz.prog.info? 43).map (fun i=>(i.zero,i.size,i.bytes))=some (some (.agg #[.int .i64 0,.int .i64 0,.string ⟨#[]⟩,.slice none 0 0,.slice none 0 0]),5,80):=by kernel_rfl
theorem cO (w:World)(S:Nat→Prop)(A:Option Addr):aD w S A []:=fun h=>absurd h (by simp)
theorem dM (w:World)(S:Nat→Prop)(A:Option Addr):LVA w S A []:=fun h=>absurd h (by simp)
theorem eU (w:World)(S:Nat→Prop)(k i:Int)(s:ByteArray)(hk:Rng k)(hi:Rng i)(hs:s.size≤140737488351232):
  LV w S (.mk k i s [] []) (.agg #[.int .i64 k,.int .i64 i,.string s,.slice none 0 0,.slice none 0 0]):=LV.mk hk hi hs (by simp) (by simp) (cO _ _ _) (dM _ _ _)
section
set_option maxHeartbeats 400000
variable (w :World)
end
/-! ### names copied -/
def New (B:Nat)(w:World):Nat→Prop:=fun b=>B≤b∧b<w.heap.size
theorem tr (b off i:Nat):((⟨b,off,none⟩:Addr).add i)=⟨b,off+i,none⟩:=by
 unfold Addr.add
 split
 ·next h=>simp[h]
 ·rfl
theorem eK {w:World}{B:Nat}{v:Value}{ns:List ByteArray}(h:w.ownsRow B 9 1 v ns.length (ns.map Value.string))(hs: ∀s∈ns,s.size≤140737488351232): ∃A c,v= .slice A ns.length c∧aD w (New B w) A ns:=by
 rcases h.2 with ⟨rfl,h2⟩|⟨g,cap,cur,rfl,hg,hh,r⟩
 ·exact⟨none,0,by rw[h2],fun hp=>absurd hp (by omega)⟩
 ·refine⟨_,_,rfl,fun hp=>⟨g,0,rfl,⟨hg,(Array.getElem?_eq_some_iff.1 hh).1⟩,fun i hi=>⟨?_,hs _ (List.getElem_mem hi)⟩⟩⟩;have h':w.ownsRow B 9 1 (.slice (some ⟨g,0,none⟩) ns.length cap) ns.length (ns.map Value.string):=h;have:=h'.cells (g:=g) rfl i (.string ns[i]) (by simp[List.getElem?_map,List.getElem?_eq_getElem hi]);rw[tr]at this;exact this
def set5 (w:World)(G p:Nat)(v0 v1 v2 v3 v4:Value):World:=((((w.setCell ⟨G,p,none⟩ v0).setCell ⟨G,p+1,none⟩ v1).setCell ⟨G,p+2,none⟩ v2).setCell ⟨G,p+3,none⟩ v3).setCell ⟨G,p+4,none⟩ v4
theorem Box.set0 {w:World}{g:Nat}{a b c d e:Value}(h:Box w g a b c d e)(u:Value):Box (w.setCell ⟨g,0,none⟩ u) g u b c d e:=Go.Joins.block_setCell (i:=0) h u
theorem Box.set1 {w:World}{g:Nat}{a b c d e:Value}(h:Box w g a b c d e)(u:Value):Box (w.setCell ⟨g,1,none⟩ u) g a u c d e:=Go.Joins.block_setCell (i:=1) h u
theorem Box.set2 {w:World}{g:Nat}{a b c d e:Value}(h:Box w g a b c d e)(u:Value):Box (w.setCell ⟨g,2,none⟩ u) g a b u d e:=Go.Joins.block_setCell (i:=2) h u
theorem Box.set3 {w:World}{g:Nat}{a b c d e:Value}(h:Box w g a b c d e)(u:Value):Box (w.setCell ⟨g,3,none⟩ u) g a b c u e:=Go.Joins.block_setCell (i:=3) h u
theorem Box.set4 {w:World}{g:Nat}{a b c d e:Value}(h:Box w g a b c d e)(u:Value):Box (w.setCell ⟨g,4,none⟩ u) g a b c d u:=Go.Joins.block_setCell (i:=4) h u
end Go.Proofs.YtgfidiocmiolpaaGreat
/- A value that came in reads as a tree: of the row's reading. -/
namespace Go.Proofs.YtgfidiocmiolpaaGreat
open Go.ChangeShapes Go.WideShapes Go.RowKit Go.Joins Go.Deep
theorem LVs.intro {w:World}{S:Nat→Prop}{b:Nat}: ∀ {l:List VT} {off:Nat},(∀j (h:j<l.length),∃c0 c1 c2 c3 c4,w.cell? ⟨b,off+j * 5,none⟩=some c0∧w.cell? ⟨b,off+j * 5+1,none⟩=some c1∧w.cell? ⟨b,off+j * 5+2,none⟩=some c2∧
  w.cell? ⟨b,off+j * 5+3,none⟩=some c3∧w.cell? ⟨b,off+j * 5+4,none⟩=some c4∧LV w S l[j] (.agg #[c0,c1,c2,c3,c4]))→LVs w S b off l
 | [],_,_=>by unfold LVs;trivial
 |t::r,off,h=>by
  unfold LVs;have h0:=h 0 (by simp);simp only[Nat.zero_mul,Nat.add_zero]at h0;refine⟨h0,LVs.intro fun j hj=> ?_⟩;have:=h (j+1) (by simpa using hj);have e:off+(j+1) * 5=off+5+j * 5:=by omega
  rw[e]at this;simpa using this
section
variable {H :Type} {enc:TypeId×Value→H} {W:World} {sp:Nat→Bool}
end
end Go.Proofs.YtgfidiocmiolpaaGreat
/- append, and where the new row lies. -/
namespace Go.Proofs.YtgfidiocmiolpaaGreat
open Go
variable {P :Program} (w:World)
def jd (w:World)(v v':Value):Prop:=v'.ownBlock=v.ownBlock∨ ∃q,w.heap.size≤q∧v'.ownBlock=some q
theorem kT (base:Nat)(t ty e:TypeId)(i:TypeInfo)(z:Value)(size bytes:Nat)(ht:P.underlying t=some (.slice e))(hi:P.info? e=some i)(hz:i.zero=some z)
  (hsize:i.size=size) (hby:i.bytes=bytes) (hzs:z.cells.size=size) (hsz:0<size)
  (v:Value) (n:Nat) (xs:List Value) (hown:w.ownsRow base e size v n xs)
  (a:Addr) (m c:Nat) (news:List Value) (hl:news.length=m * size) (hnews: ∀j u,news[j]? =some u→w.cell? (a.add j)=some u) (h1: ∀u∈news,u.oneCell'=true)
  (h63:n+m≤maxLen) (hbytes:(n+m) * bytes≤140737488355328) (hbase:base≤w.heap.size):
  ∃v' w',(Builtin.append_ #[t,t] ty #[v,.slice (some a) m c]).run P w= .ok v' w'∧w'.ownsRow base e size v' (n+m) (xs++news)∧w.grownBy w' v.ownBlock∧jd w v v':=by
 obtain⟨v',w',hr,h2,h3,h4⟩:=run_append_own (P:=P) w base t ty e i z size bytes ht hi hz hsize hby hzs hsz v n xs hown a m c news hl hnews h1 h63 hbytes hbase;refine⟨v',w',hr,h2,h3,?_⟩;subst hsize
 subst hby
 have hsmall:n+m≤9223372036854775807:=by simp only[maxLen]at h63;omega
 rcases hown.2 with ⟨rfl,rfl⟩|⟨g,cap,cur,rfl,hbg,hg,hnc,hcm,hcs,htake⟩
 ·by_cases hm:m=0
  ·exact .inl (by rw[h4.2 ⟨rfl,hm⟩])
  ·have hr2:=run_append_nil (P:=P) w t ty e i z ht hi hz a m c news hl hnews (by omega) (by omega) (by have hb:=hbytes;simp only[Nat.zero_add]at hb;omega);rw[hr]at hr2;simp only[Result.ok.injEq]at hr2;exact .inr ⟨w.heap.size,Nat.le_refl _,by rw[hr2.1];rfl⟩
 ·by_cases hroom:n+m≤cap
  ·obtain⟨w2,hr2,-⟩:=run_append_fits (P:=P) w base t ty e i i.size ht hi rfl g n cap xs hown a m c news hl hnews h1 hroom;rw[hr]at hr2;simp only[Result.ok.injEq]at hr2;exact .inl (by rw[hr2.1];rfl)
  ·have holds: ∀j u,xs[j]? =some u→w.cell? ((⟨g,0,none⟩:Addr).add j)=some u:=hown.cells (g:=g) rfl;have hr2:=run_append_grow (P:=P) w t ty e i z ht hi hz ⟨g,0,none⟩ n cap xs hown.1 holds a m c news hl hnews (by omega) (by omega) (growslice_fits (by omega) hbytes);rw[hr]at hr2;simp only[Result.ok.injEq]at hr2;exact .inr ⟨w.heap.size,Nat.le_refl _,by rw[hr2.1];rfl⟩
theorem bo {o:Oper}{a:Act}{K:Act→World→Prop}{Q:Exit→Act→World→Prop}(s x:Operand)(t:TypeId)
  (ho:o.op= .call { callee:= .builtin .append,args:= #[s,x],argTypes:= #[t,t] })
  (base:Nat) (e:TypeId) (i:TypeInfo) (z:Value) (size bytes:Nat) (ht:P.underlying t=some (.slice e)) (hi:P.info? e=some i) (hz:i.zero=some z)
  (hsize:i.size=size) (hby:i.bytes=bytes) (hzs:z.cells.size=size) (hsz:0<size)
  (v:Value) (n:Nat) (xs:List Value) (hs:a.eval s=v) (hown:w.ownsRow base e size v n xs)
  (ad:Addr) (m c:Nat) (news:List Value) (hx:a.eval x= .slice (some ad) m c) (hl:news.length=m * size) (hnews: ∀j u,news[j]? =some u→w.cell? (ad.add j)=some u) (h1: ∀u∈news,u.oneCell'=true)
  (h63:n+m≤maxLen) (hbytes:(n+m) * bytes≤140737488355328) (hbase:base≤w.heap.size)
  (h: ∀v' w',w'.ownsRow base e size v' (n+m) (xs++news)→w.grownBy w' v.ownBlock→jd w v v'→K (a.put o.dst v') w'):o.wp P a w K Q:=by
 obtain⟨v',w',hr,h2,h3,h4⟩:=kT (P:=P) w base t o.type e i z size bytes ht hi hz hsize hby hzs hsz v n xs hown ad m c news hl hnews h1 h63 hbytes hbase;unfold Oper.wp execOp;simp only[ho,resolve,invoke,builtin,Sem.run_bind,Sem.run_pure,Result.andThen_ok,List.map_toArray,List.map_cons,List.map_nil,hs,hx,hr];exact h v' w' h2 h3 h4
end Go.Proofs.YtgfidiocmiolpaaGreat
/- Five cells behind one another: a value that is stored in a variable. -/
namespace Go.Proofs.YtgfidiocmiolpaaGreat
open Go.RowKit
def cX (w:World)(p o:Nat)(c0 c1 c2 c3 c4:Value):World:=((((w.setCell ⟨p,o,none⟩ c0).setCell ⟨p,o+1,none⟩ c1).setCell ⟨p,o+2,none⟩ c2).setCell ⟨p,o+3,none⟩ c3).setCell ⟨p,o+4,none⟩ c4
theorem bi (w:World)(p o:Nat)(c0 c1 c2 c3 c4:Value)(b:Nat)(h:b≠p):(cX w p o c0 c1 c2 c3 c4).heap[b]? =w.heap[b]? :=by
 unfold cX;rw[heap_setCell_other _ ⟨p,_,none⟩ b _ h,heap_setCell_other _ ⟨p,_,none⟩ b _ h,heap_setCell_other _ ⟨p,_,none⟩ b _ h,heap_setCell_other _ ⟨p,_,none⟩ b _ h,heap_setCell_other _ ⟨p,_,none⟩ b _ h]
theorem cK (w:World)(p o:Nat)(c0 c1 c2 c3 c4:Value):(cX w p o c0 c1 c2 c3 c4).heap.size=w.heap.size:=by simp[cX]
theorem eE (w:World)(p o:Nat)(c0 c1 c2 c3 c4:Value):(cX w p o c0 c1 c2 c3 c4).os=w.os∧(cX w p o c0 c1 c2 c3 c4).tape=w.tape∧(cX w p o c0 c1 c2 c3 c4).output=w.output:=by
 have h: ∀(w:World) (a:Addr) (u:Value),(w.setCell a u).os=w.os∧(w.setCell a u).tape=w.tape∧(w.setCell a u).output=w.output:=fun _ _ _=>⟨rfl,rfl,rfl⟩;unfold cX;refine⟨?_,?_,?_⟩
 ·rw[(h _ _ _).1,(h _ _ _).1,(h _ _ _).1,(h _ _ _).1,(h _ _ _).1]
 ·rw[(h _ _ _).2.1,(h _ _ _).2.1,(h _ _ _).2.1,(h _ _ _).2.1,(h _ _ _).2.1]
 ·rw[(h _ _ _).2.2,(h _ _ _).2.2,(h _ _ _).2.2,(h _ _ _).2.2,(h _ _ _).2.2]
theorem bd {w:World}{p:Nat}{a0 a1 a2 a3 a4 c0 c1 c2 c3 c4:Value}(h:Box w p a0 a1 a2 a3 a4):Box (cX w p 0 c0 c1 c2 c3 c4) p c0 c1 c2 c3 c4:=by
 have h1:=(((h.set0 c0).set1 c1).set2 c2).set3 c3;exact Go.Joins.block_setCell (i:=4) h1 c4
theorem Box.other {w:World}{p:Nat}{a0 a1 a2 a3 a4:Value}(h:Box w p a0 a1 a2 a3 a4)(D i:Nat)(u:Value)(hne:p≠D):Box (w.setCell ⟨D,i,none⟩ u) p a0 a1 a2 a3 a4:=(heap_setCell_other _ ⟨D,i,none⟩ p _ hne).trans h
theorem cR {w w':World}{p g:Nat}{a0 a1 a2 a3 a4:Value}(h:Box w p a0 a1 a2 a3 a4)(ho:au w w' g)(hne:p≠g):Box w' p a0 a1 a2 a3 a4:=(ho.block p h.lt (by rintro⟨⟩;exact hne rfl)).trans h
theorem gW {fn:Func}{p u:Tmp}(h:fn.results= #[.cell p 43,.tmp u])(tmps:Array Value)(w:World)(g:Nat)(t:TypeId)(cs:Array Value)(fr:Nat×Nat)
  (hp:tmps.getD p undef= .pointer (some ⟨g,0,none⟩)) (hg:w.heap[g]? =some (.cells cs t fr)) (hi:(Tryz.prog.info? 43).map (·.size)=some cs.size):
  (results fn tmps).run Tryz.prog w= .ok (.tuple #[.agg cs,tmps.getD u undef]) w:=by
 rw[results_cell_tmp h,hp];have e:(asAddr (.pointer (some ⟨g,0,none⟩))).run Tryz.prog w= .ok ⟨g,0,none⟩ w:=by simp[asAddr]
 rw[e];simp only[Result.andThen];rw[run_loadVar_row w g t 43 cs fr _ hg Tryz.underlying43 rfl hi]
def Dec (w:World)(D g:Nat)(least lv:Int):Prop:=w.heap[D]? =some (.cells #[.pointer (some ⟨g,0,none⟩),.int .i64 least,.int .i64 lv] 162 (0,0))
def PB (w:World)(bb D:Nat):Prop:=w.heap[bb]? =some (.cells #[.pointer (some ⟨D,0,none⟩)] 176 (0,0))
theorem Dec.lt {w:World}{D g:Nat}{least lv:Int}(h:Dec w D g least lv):D<w.heap.size:=(Array.getElem?_eq_some_iff.1 h).1
theorem PB.lt {w:World}{bb D:Nat}(h:PB w bb D):bb<w.heap.size:=(Array.getElem?_eq_some_iff.1 h).1
structure Far (B g:Nat)(w w':World):Prop where
 os:w'.os=w.os
 tape:w'.tape=w.tape
 output:w'.output=w.output
 size:w.heap.size≤w'.heap.size
 block: ∀k,k<B→k≠g→w'.heap[k]? =w.heap[k]?
theorem Far.trans {B g:Nat}{a b c:World}(h:Far B g a b)(k:Far B g b c):Far B g a c:=
 ⟨k.os.trans h.os,k.tape.trans h.tape,k.output.trans h.output,Nat.le_trans h.size k.size,fun i hi hg=>(k.block i hi hg).trans (h.block i hi hg)⟩
theorem Far.ofOnly {B g:Nat}{w w':World}(h:au w w' g)(hB:B≤w.heap.size):Far B g w w':=⟨h.os,h.tape,h.output,h.size,fun k hk hg=>h.block k (by omega) (by rintro⟨⟩;exact hg rfl)⟩
theorem Far.drew {B g:Nat}{a w:World}(h:Far B g a w):Far B g a w.drew:=⟨h.os,h.tape,h.output,h.size,h.block⟩
def Rel (d:Nat)(least:Int)(st:Option (List UInt8))(t:VT):Option (List UInt8)→Prop
 |some r'=> ∃l,st=some l∧rdW d l=some (t,r')
 |none=> ∀l u r,st=some l→rdW d l=some (u,r)→bE u=false∨(r.length:Int)<least
def dB (B:Nat)(w:World):Nat→Prop:=fun b=>B≤b∧b<w.heap.size
def pC (w:World)(B:Nat)(S:Nat→Prop)(v:Value)(ts:List VT):Prop:=
 ∃xs,w.ownsRow B 43 5 v ts.length xs∧ ∀j (h:j<ts.length),∃c0 c1 c2 c3 c4,(xs.drop (j * 5)).take 5= [c0,c1,c2,c3,c4]∧LV w S ts[j] (.agg #[c0,c1,c2,c3,c4])
theorem aM {w w':World}{B sz n:Nat}{e:TypeId}{v:Value}{xs:List Value}(h:w.ownsRow B e sz v n xs)(hk: ∀g,v.ownBlock=some g→w'.heap[g]? =w.heap[g]?):w'.ownsRow B e sz v n xs:=by
 refine⟨h.1,?_⟩;rcases h.2 with h0|⟨g,cap,cur,h1,h2,h3,h4⟩
 ·exact .inl h0
 ·exact .inr ⟨g,cap,cur,h1,h2,(hk g (by rw[h1];rfl)).trans h3,h4⟩
theorem pC.keep {w w':World}{B:Nat}{S:Nat→Prop}{v:Value}{ts:List VT}(h:pC w B S v ts)(hv: ∀g,v.ownBlock=some g→w'.heap[g]? =w.heap[g]?)(hS: ∀b,S b→w'.heap[b]? =w.heap[b]?):pC w' B S v ts:=by
 obtain⟨xs,h1,h2⟩:=h;refine⟨xs,aM h1 hv,fun j hj=> ?_⟩;obtain⟨c0,c1,c2,c3,c4,e,hx⟩:=h2 j hj;exact⟨c0,c1,c2,c3,c4,e,hx.keep hS⟩
theorem pC.more {w w':World}{B:Nat}{S S':Nat→Prop}{v v':Value}{ts:List VT}{t:VT}{xs:List Value}{c0 c1 c2 c3 c4:Value}(h1:w.ownsRow B 43 5 v ts.length xs)
  (h2: ∀j (h:j<ts.length),∃c0 c1 c2 c3 c4,(xs.drop (j * 5)).take 5= [c0,c1,c2,c3,c4]∧LV w S ts[j] (.agg #[c0,c1,c2,c3,c4]))
  (hk: ∀b,S b→w'.heap[b]? =w.heap[b]?) (hS: ∀b,S b→S' b) (ho:w'.ownsRow B 43 5 v' (ts.length+1) (xs++[c0,c1,c2,c3,c4])) (ht:LV w' S' t (.agg #[c0,c1,c2,c3,c4])):pC w' B S' v' (ts++[t]):=by
 have hx:xs.length=ts.length * 5:=h1.1;refine⟨xs++[c0,c1,c2,c3,c4],by rw[List.length_append];exact ho,fun j hj=> ?_⟩;by_cases hjl:j<ts.length
 ·obtain⟨d0,d1,d2,d3,d4,e,hx'⟩:=h2 j hjl;refine⟨d0,d1,d2,d3,d4,?_,?_⟩
  ·rw[List.drop_append_of_le_length (by omega),List.take_append_of_le_length (by rw[List.length_drop];omega)];exact e
  ·rw[List.getElem_append_left hjl];exact(hx'.keep hk).imp hS
 ·obtain rfl:j=ts.length:=by simp at hj;omega
  refine⟨c0,c1,c2,c3,c4,?_,?_⟩
  ·rw[←hx,List.drop_left];rfl
  ·rw[List.getElem_append_right (Nat.le_refl _)];simpa using ht
theorem wy (xs:List Value)(z0 z1 z2 z3 z4 c0 c1 c2 c3 c4:Value)(n:Nat)(hn:n=xs.length):
  (((((xs++[z0,z1,z2,z3,z4]).set n c0).set (n+1) c1).set (n+2) c2).set (n+3) c3).set (n+4) c4=xs++[c0,c1,c2,c3,c4]:=by
 subst hn;rw[List.set_append_right _ _ (by omega),List.set_append_right _ _ (by omega),List.set_append_right _ _ (by omega),List.set_append_right _ _ (by omega),List.set_append_right _ _ (by omega)];simp
theorem ir {w:World}{B q cap n:Nat}{xs:List Value}{z0 z1 z2 z3 z4:Value}(c0 c1 c2 c3 c4:Value)(h:w.ownsRow B 43 5 (.slice (some ⟨q,0,none⟩) (n+1) cap) (n+1) (xs++[z0,z1,z2,z3,z4]))(hx:xs.length=n * 5):
  (((((w.setCell ⟨q,n * 5,none⟩ c0).setCell ⟨q,n * 5+1,none⟩ c1).setCell ⟨q,n * 5+2,none⟩ c2).setCell ⟨q,n * 5+3,none⟩ c3).setCell ⟨q,n * 5+4,none⟩ c4).ownsRow B 43 5 (.slice (some ⟨q,0,none⟩) (n+1) cap) (n+1) (xs++[c0,c1,c2,c3,c4]):=by
 have h0:=(World.ownsRow.stored h (n * 5) c0).1;have h1:=(World.ownsRow.stored h0 (n * 5+1) c1).1;have h2:=(World.ownsRow.stored h1 (n * 5+2) c2).1;have h3:=(World.ownsRow.stored h2 (n * 5+3) c3).1;have h4:=(World.ownsRow.stored h3 (n * 5+4) c4).1;rw[wy _ _ _ _ _ _ _ _ _ _ _ _ hx.symm]at h4;exact h4
structure PV (w:World)(B vb:Nat)(k:Int)(ts:List VT)(ns:List ByteArray)(VI VN:Value)(S:Nat→Prop):Prop where
 box:Box w vb (.int .i64 k) (.int .i64 0) (.string eS) VI VN
 items:pC w B S VI ts
 names:w.ownsRow B 9 1 VN ns.length (ns.map Value.string)
 small: ∀s∈ns,s.size≤140737488351232
 new: ∀b,S b→B≤b∧b<w.heap.size∧some b≠VI.ownBlock∧some b≠VN.ownBlock
 vb:vb<B
def zh (d g:Nat)(least:Int)(st:Option (List UInt8))(w:World)(e:Ending)(w':World):Prop:=
 ∃v t st',e= .returned v∧aN w' g st'∧au w w' g∧LV w' (dB w.heap.size w') t v∧Rel d least st t st'
def oZ (d:Nat):Prop:= ∀(D g:Nat) (least:Int) (st:Option (List UInt8)) (w:World),Dec w D g least (8 - (d:Int))→aN w g st→D≠g→
 Calls Tryz.prog 163 #[.pointer (some ⟨D,0,none⟩)] w (zh d g least st w)
def du (vb bb:Nat)(w w':World):Prop:=w'.heap[vb]? =w.heap[vb]? ∧w'.heap[bb]? =w.heap[bb]?
theorem du.refl (vb bb:Nat)(w:World):du vb bb w w:=⟨rfl,rfl⟩
theorem du.trans {vb bb:Nat}{a b c:World}(h:du vb bb a b)(k:du vb bb b c):du vb bb a c:=⟨k.1.trans h.1,k.2.trans h.2⟩
instance (vb bb:Nat) (w:World):Inhabited (bW (du vb bb) w):=⟨⟨w,du.refl vb bb w⟩⟩
theorem eC {vb bb:Nat}{w:World}:(∀p:bW (du vb bb) w,∀o,p.u.cell? ⟨vb,o,none⟩=w.cell? ⟨vb,o,none⟩)∧(∀p:bW (du vb bb) w,∀o,p.u.cell? ⟨bb,o,none⟩=w.cell? ⟨bb,o,none⟩):=
 ⟨fun p o=>World.cell?_of_block (a:=⟨vb,o,none⟩) p.h.1,fun p o=>World.cell?_of_block (a:=⟨bb,o,none⟩) p.h.2⟩
def kC (d g vb B:Nat)(k:Int)(least:Int)(st:Option (List UInt8))(ts:List VT)(ns:List ByteArray)(w:World)(e:Ending)(w':World):Prop:=
 ∃t st' VI VN S,e= .returned (.tuple #[])∧PV w' B vb k (ts++[t]) ns VI VN S∧aN w' g st'∧Far vb g w w'∧Rel d least st t st'
theorem qz {d g vb B:Nat}{k least:Int}{st st':Option (List UInt8)}{ts:List VT}{ns:List ByteArray}{VI VN:Value}{S:Nat→Prop}{w w4:World}{xs:List Value}{p cap:Nat}{t:VT}{c0 c1 c2 c3 c4:Value}
  (hpv:PV w B vb k ts ns VI VN S) (hown:w.ownsRow B 43 5 VI ts.length xs)
  (hitems: ∀j (h:j<ts.length),∃c0 c1 c2 c3 c4,(xs.drop (j * 5)).take 5= [c0,c1,c2,c3,c4]∧LV w S ts[j] (.agg #[c0,c1,c2,c3,c4]))
  (hg:g<vb) (ho:w4.os=w.os) (htp:w4.tape=w.tape) (hot:w4.output=w.output) (hsz:w.heap.size≤w4.heap.size)
  (hold: ∀b,b<w.heap.size→b≠g→b≠vb→some b≠VI.ownBlock→w4.heap[b]? =w.heap[b]?)
  (hp:VI.ownBlock=some p∨w.heap.size≤p)
  (hown4:w4.ownsRow B 43 5 (.slice (some ⟨p,0,none⟩) (ts.length+1) cap) (ts.length+1) (xs++[c0,c1,c2,c3,c4]))
  (hbox:Box w4 vb (.int .i64 k) (.int .i64 0) (.string eS) (.slice (some ⟨p,0,none⟩) (ts.length+1) cap) VN)
  (ht:LV w4 (fun b=>w.heap.size≤b∧b<w4.heap.size∧b≠p) t (.agg #[c0,c1,c2,c3,c4])) (hs:aN w4 g st') (hrel:Rel d least st t st') (hB:B≤w.heap.size):
  kC d g vb B k least st ts ns w (.returned (.tuple #[])) w4:=by
 have hvb:=hpv.vb;have hVI: ∀q,VI.ownBlock=some q→B≤q∧q<w.heap.size:=fun q hq=>World.ownsRow.lt hown q hq;have hVN: ∀q,VN.ownBlock=some q→B≤q∧q<w.heap.size:=fun q hq=>World.ownsRow.lt hpv.names q hq
 have hap: ∀q,VN.ownBlock=some q→VI.ownBlock≠some q:=by
  intro q hq hq';rcases hown.2 with ⟨rfl,-⟩|⟨g1,cap1,cur1,rfl,-,h1,-⟩
  ·simp[Value.ownBlock]at hq'
  ·rcases hpv.names.2 with ⟨rfl,-⟩|⟨g2,cap2,cur2,rfl,-,h2,-⟩
   ·simp[Value.ownBlock]at hq
   ·simp only[Value.ownBlock,Option.some.injEq]at hq hq';subst hq hq';rw[h1]at h2;simp at h2
 have hSk: ∀b,S b→w4.heap[b]? =w.heap[b]? :=fun b hb=>by
  obtain⟨h1,h2,h3,h4⟩:=hpv.new b hb;exact hold b h2 (by omega) (by omega) h3
 refine⟨t,st',.slice (some ⟨p,0,none⟩) (ts.length+1) cap,VN,fun b=>S b∨(w.heap.size≤b∧b<w4.heap.size∧b≠p),rfl,⟨hbox,?_,?_,hpv.small,?_,hvb⟩,hs,⟨ho,htp,hot,hsz,fun b hb hbg=> ?_⟩,hrel⟩
 ·exact pC.more hown hitems hSk (fun _ h=> .inl h) hown4 (ht.imp fun _ h=> .inr h)
 ·refine aM hpv.names fun q hq=> ?_;have:=hVN q hq;exact hold q this.2 (by omega) (by omega) (fun e=>hap q hq e.symm)
 ·rintro b (hb|⟨h1,h2,h3⟩)
  ·obtain⟨h1,h2,h3,h4⟩:=hpv.new b hb;refine⟨h1,by omega,fun e=> ?_,h4⟩;obtain rfl:b=p:=by simpa[Value.ownBlock]using e
   rcases hp with hp|hp
   ·exact h3 hp.symm
   ·omega
  ·refine⟨by omega,h2,fun e=>h3 (by cases e;rfl),fun e=> ?_⟩;have:=hVN b e.symm;omega
 ·refine hold b (by omega) hbg (by omega) fun e=> ?_;have:=hVI b e.symm;omega
end Go.Proofs.YtgfidiocmiolpaaGreat
