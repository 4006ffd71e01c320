/- Plain facts, without conditions on the program: a count as groups of 7 bits, such groups read back, and the zigzag of a number of 64 bits. -/
import Derived.Below
import Derived.OrdersHeld
import Derived.Lib.QuietBelow
import Derived.BigQuiet
import Derived.Test.YtgbopnlpaabelaaGreatDoorRows
import Derived.WalkKit
import Derived.WalkSpells
import Derived.WalkLawsBesides
import Derived.Lib.Hide
import Derived.Lib.AppendStr
import Derived.Lib.SmallJoins
import Derived.Laws.BitsAllLaws
import Derived.Laws.BytesArg
import Derived.Laws.DeepNot64
import Derived.Maps.OwnSet
import Derived.StringKeys
set_option maxHeartbeats 64000000
set_option maxRecDepth 100000
set_option linter.unusedVariables false
set_option linter.unusedSimpArgs false
namespace Go.Proofs.YtgbopnlpaabelaaGreatDoor
def ik :Nat→Nat→List UInt8
  |0,n=>[UInt8.ofNat n]
  |f+1,n=>if n<128 then [UInt8.ofNat n]else UInt8.ofNat (n % 128+128)::ik f (n / 128)
def grp (n:Nat):List UInt8:=ik 10 n
theorem oQ : ∀(f n:Nat),n<128 ^ (f+1)→ik (f+1) n=ik f n
  |0,n,h=>by
    have h':n<128:=by simpa using h
    simp[ik,h']
  |f+1,n,h=>by
    have h2:n / 128<128 ^ (f+1):=by
      rw[Nat.pow_succ]at h;exact Nat.div_lt_of_lt_mul (by omega)
    rw[ik]
    conv=>rhs;rw[ik]
    rw[oQ f (n / 128) h2]
theorem pf (n:Nat)(h:n<128):grp n= [UInt8.ofNat n]:=by
  unfold grp;rw[ik,if_pos h]
theorem oU (n:Nat)(h:128≤n)(hn:n<18446744073709551616):grp n=UInt8.ofNat (n % 128+128)::grp (n / 128):=by
  unfold grp;rw[ik,if_neg (by omega),oQ 9 (n / 128)];have:(128:Nat) ^ 10=1180591620717411303424:=by decide
  omega
theorem lx : ∀f n,(ik f n).length≤f+1∧1≤(ik f n).length
  |0,n=>by simp[ik]
  |f+1,n=>by
    rw[ik]
    split
    · simp
    · have:=lx f (n / 128)
      simp only[List.length_cons];omega
theorem bA (n:Nat):(grp n).length≤11∧1≤(grp n).length:=lx 10 n
def dg (l:List UInt8):List Value:=l.map fun b=>Value.int .u8 b.toNat
theorem jf (a b:List UInt8):dg (a++b)=dg a++dg b:=by simp[dg]
theorem tW (b:UInt8):dg [b]= [Value.int .u8 b.toNat]:=rfl
theorem nq (l:List UInt8): ∀u∈dg l,u.oneCell'=true:=by
  intro u hu;simp only[dg,List.mem_map]at hu;obtain⟨b,_,rfl⟩:=hu;rfl
def zig (x:Int):Nat:=if x<0 then(-2 * x - 1).toNat else(2 * x).toNat
theorem zk (x:Int)(h1: -9223372036854775808≤x)(h2:x≤9223372036854775807):zig x<18446744073709551616:=by
  unfold zig;split<;>omega
theorem il (n:Nat)(h:n<256):(UInt8.ofNat n).toNat=n:=by
  simp[UInt8.toNat_ofNat',Nat.mod_eq_of_lt h]
end Go.Proofs.YtgbopnlpaabelaaGreatDoor
/- Statements whose order Go leaves open, and that hold calls which lay new memory: one walk in an order of one's choice serves all. -/
namespace Go.Proofs.YtgbopnlpaabelaaGreatDoor
open Go.RowKit Go.Sort
def aF (o:Oper):Bool:=
  match o.op with
  | .move _| .assign _| .pick .. | .load .. | .binOp .. | .unOp .. | .slice .. | .fieldAddr .. | .field .. | .indexAddr .. | .index .. | .extract .. | .nilCheck _| .makeFunc .. =>true
  | .convert s d _=>s != d
  | .call c=>match c.callee with
    | .builtin .len| .builtin .cap| .builtin .min| .builtin .max=>true
    |_=>false
  |_=>false
theorem ga {α:Type}{P:Program}{w w':World}{s:Sem α}{f:α→Value}{n:Next}(h:(do pure (Next.value (f (←s))):Sem Next).run P w= .ok n w'): ∃v,n= .value v:=by
  simp only[Sem.run_bind]at h
  cases hs:s.run P w with
  |ok x w1=>rw[hs]at h;simp[Result.andThen,Sem.run_pure]at h;exact⟨_,h.1.symm⟩
  |halt x w1=>rw[hs]at h;simp[Result.andThen]at h
def VO (s:Sem Next):Prop:= ∀(P:Program) (w:World) (n:Next) (w':World),s.run P w= .ok n w'→ ∃v,n= .value v
theorem pC (v:Value):VO (pure (.value v)):=fun P w n w' h=>by simp only[Sem.run_pure,Result.ok.injEq]at h;exact⟨v,h.1.symm⟩
theorem lZ {α:Type}{s:Sem α}{f:α→Sem Next}(h: ∀a,VO (f a)):VO (s >>= f):=fun P w n w' hr=>by
  rw[Sem.run_bind]at hr
  cases hs:s.run P w with
  |ok x w1=>rw[hs]at hr;exact h x P w1 n w' hr
  |halt x w1=>rw[hs]at hr;simp[Result.andThen]at hr
theorem AM :VO (runtimePanic .nilDeref):=lZ fun p P w n w' h=>by cases h
theorem nb {P:Program}{ρ:Operand→Value}{o:Oper}{w w':World}{n:Next}(hp:aF o=true)(h:(execOp ρ o).run P w= .ok n w'): ∃v,n= .value v:=by
  obtain⟨dst,op,ty,pos,after,guard⟩:=o;unfold aF at hp;unfold execOp at h;cases op<;>simp only[Bool.false_eq_true]at hp<;>simp only[]at h
  case call c=>
    cases hc:c.callee with
    |value f=>simp[hc]at hp
    |invoke r m=>simp[hc]at hp
    |builtin b=>
      cases b<;>simp[hc]at hp
      all_goals
        simp only[resolve,hc,Sem.run_bind,Sem.run_pure,Result.andThen_ok,invoke,builtin]at h;exact ga (f:=fun x=>x) (by simpa only[Sem.run_bind,Sem.run_pure]using h)
  case pick c a b=>exact ga (f:=fun t:Bool=>if t then ρ a else ρ b) h
  case makeFunc fn first captured=>simp[Instr.makeFunc,Sem.run_pure,Sem.run_bind]at h;exact⟨_,h.1.symm⟩
  case move x=>simp[Sem.run_pure]at h;exact⟨_,h.1.symm⟩
  case assign x=>simp[Sem.run_pure]at h;exact⟨_,h.1.symm⟩
  case nilCheck x=> 
    have hv:VO (execOp ρ ⟨dst,.nilCheck x,ty,pos,after,guard⟩):=by
      unfold execOp;simp only[]
      repeat' split
      all_goals first
        |exact AM
        |exact pC _
        |skip
      refine lZ fun p=>lZ fun q=> ?_
      split
      · exact lZ fun _=>pC _
      · exact pC _
    exact hv P w n w' (by unfold execOp;exact h)
  all_goals exact ga (f:=fun x=>x) h
structure xU (B:Nat)(w:World) where
  u:World
  h:Below B w u
instance (B :Nat) (w:World):Inhabited (xU B w):=⟨⟨w,Below.refl B w⟩⟩
abbrev CR (B:Nat)(w:World):World→Prop:=fun u=> ∃p:xU B w,u=p.u
theorem se {B:Nat}{w u:World}(h:Below B w u):CR B w u:=⟨⟨u,h⟩,rfl⟩
theorem nL {a b c:World}(h:Below a.heap.size a b)(k:Below b.heap.size b c):Below a.heap.size a c:=h.trans (k.mono h.size)
def lC (β:World→Nat):Prop:= ∀w w',Below (β w) w w'→β w≤β w'
theorem nk :lC fun w=>w.heap.size:=fun _ _ h=>h.size
theorem tP {β:World→Nat}(hβ:lC β){a b c:World}(h:Below (β a) a b)(k:Below (β b) b c):Below (β a) a c:=h.trans (k.mono (hβ a b h))
section
variable {P :Program} {ops:Array Oper} {Q:Exit→Act→World→Prop} {md:Region.Mode} {β:World→Nat}
def qI (β:World→Nat)(P:Program)(md:Region.Mode)(ops:Array Oper)(Q:Exit→Act→World→Prop):Nat→Array Bool→Act→World→Prop
  |0,listed,a,w=>Region.ready md ops listed= []∧Q .normal a w
  |f+1,listed,a,w=>(Region.ready md ops listed= []→Q .normal a w)∧
    ∀i∈Region.ready md ops listed,wpOp P ops Q i (fun a' w'=>Below (β w) w w'∧qI β P md ops Q f (listed.setIfInBounds i true) a' w') a w
theorem io : ∀(f:Nat) (listed:Array Bool) (a:Act) (w:World),qI β P md ops Q f listed a w→wpAny P md ops Q f listed a w
  |0,_,_,_,h=>h
  |f+1,_,_,_,h=>⟨h.1,fun i hi=>wpOp_mono (fun a' w' h'=>io f _ a' w' h'.2) (h.2 i hi)⟩
theorem pR (hβ:lC β){o:Oper}{v:Value}{a:Act}{w w':World}(hb:Below (β w) w w')(h:YieldsIf P ops (fun u=>Below (β w) w u) o v a):
    YieldsIf P ops (fun u=>Below (β w') w' u) o v a:=
  h.imp (fun⟨h1,h2⟩=>⟨h1,fun u hu=>h2 u (tP hβ hb hu)⟩) id
theorem gq (hβ:lC β){i:Nat}{oi:Oper}{v:Value}(hi:ops[i]? =some oi)(hsel:Region.noSelect ops=true)(hQ: ∀c d v a w,Q (.panic c) (Act.put a d v) w→Q (.panic c) a w):
    ∀(f:Nat) (listed:Array Bool) (a:Act) (w:World),
      (∀j oj,ops[j]? =some oj→j≠i→listed.getD j true=false→(∀e∈oj.after,Region.binds md e=true→e.on≠i)→oi.apart ops oj=true)→
      i∈Region.ready md ops listed→YieldsIf P ops (fun u=>Below (β w) w u) oi v a→
      qI β P md ops Q f (listed.setIfInBounds i true) (a.put oi.dst v) w→qI β P md ops Q (f+1) listed a w:=by
  intro f
  induction f with
  |zero=>
    intro listed a w _ hr hy H;refine⟨fun h=>absurd hr (by rw[h];exact List.not_mem_nil),fun j hj=> ?_⟩;by_cases hji:j=i
    · subst hji;exact hy.wpOp hi (Below.refl _ _) ⟨Below.refl _ _,H⟩
    · exact absurd (ready_mono hj hji) (by rw[H.1];exact List.not_mem_nil)
  |succ f ih=>
    intro listed a w hfree hr hy H;refine⟨fun h=>absurd hr (by rw[h];exact List.not_mem_nil),fun j hj=> ?_⟩;by_cases hji:j=i
    · subst hji;exact hy.wpOp hi (Below.refl _ _) ⟨Below.refl _ _,H⟩
    · obtain⟨hjun,oj,hoj,hall⟩:=mem_ready.1 hj
      have hnot: ∀e∈oj.after,Region.binds md e=true→e.on≠i:=by
        intro e he hb heq;have h1:=hall e he hb;have h0:=(mem_ready.1 hr).1;rw[heq]at h1;rcases Nat.lt_or_ge i listed.size with h'|h'
        · simp[h']at h0 h1;rw[h0]at h1;cases h1
        · simp[Array.getElem?_eq_none h']at h1
      have h2:=wpOp_putIf (S:=fun u=>Below (β w) w u) hoj (hfree j oj hoj hji hjun hnot) (fun cs b=>Region.noSelect_spec hsel i oi cs b hi) (fun cs b=>Region.noSelect_spec hsel j oj cs b hoj)
        (fun c a w=>hQ c oi.dst v a w) hy (H.2 j (ready_mono hj hji))
      refine wpOp_mono (fun a' w' h3=>⟨h3.2.1,ih (listed.setIfInBounds j true) a' w' ?_ (ready_mono hr (Ne.symm hji)) (pR hβ h3.2.1 h3.1) ?_⟩) h2
      · intro k ok hk hki hun hno
        refine hfree k ok hk hki ?_ hno;by_cases hjk:j=k
        · subst hjk;exact hjun
        · rw[getD_set_ne true hjk]at hun;exact hun
      · rw[Array.setIfInBounds_comm _ _ hji]
        exact h3.2.2
def nw (md:Region.Mode)(ops:Array Oper):List Nat→Array Bool→Bool
  | [],listed=>(Region.ready md ops listed).isEmpty
  |i::r,listed=>
    match ops[i]? with
    |none=>false
    |some o=>(Region.ready md ops listed).contains i && (if aF o then Region.free md ops listed i else Region.ready md ops listed == [i]) && nw md ops r (listed.setIfInBounds i true)
def yY (ops:Array Oper)(ord:List Nat):Bool:=Region.noSelect ops && ord.length == ops.size && nw .any ops ord (Array.replicate ops.size false)
def br (β:World→Nat)(P:Program)(ops:Array Oper)(Q:Exit→Act→World→Prop):List Oper→Act→World→Prop
  | [],a,w=>Q .normal a w
  |o::rest,a,w=>
    if Region.wanted o (yielded ops a.tmps)then
      (if aF o then o.quiet P a (CR (β w) w) (fun a'=>br β P ops Q rest a' w)
       else o.wp P a w (fun a' w'=>Below (β w) w w'∧br β P ops Q rest a' w') Q)
    else br β P ops Q rest (a.put o.dst undef) w
def cJ (ops:Array Oper)(ord:List Nat):List Oper:=ord.filterMap fun i=>ops[i]?
theorem atR :(∀(ops:Array Oper) (ord:List Nat),cJ ops ord=ord.filterMap fun i=>ops[i]?)∧(∀(α:Type) (f:Nat→Option α) (a:Nat) (l:List Nat),List.filterMap f (a::l)=match f a with|none=>List.filterMap f l|some b=>b::List.filterMap f l)∧(∀(α:Type) (f:Nat→Option α),List.filterMap f []= [])∧(∀(α:Type) (l:List α) (i:Nat),l.toArray[i]? =l[i]?)∧(∀(α:Type) (o:α) (l:List α) (i:Nat),(o::l)[i+1]? =l[i]?)∧ ∀(α:Type) (o:α) (l:List α),(o::l)[0]? =some o:=⟨fun _ _=>rfl,fun _ f a l=>by rw[List.filterMap_cons];cases f a<;>rfl,fun _ _=>rfl,fun _ _ _=>List.getElem?_toArray,fun _ _ _ _=>List.getElem?_cons_succ,fun _ _ _=>List.getElem?_cons_zero⟩
theorem acR :(∀(α:Type) (l:List α) (i:Nat) (h:i<l.toArray.size),l.toArray[i]=l[i]'(by simpa using h))∧(∀(α:Type) (v:α) (l:List α) (i:Nat) (h:i+1<(v::l).length),(v::l)[i+1]=l[i]'(Nat.lt_of_succ_lt_succ h))∧(∀(α:Type) (v:α) (l:List α) (h:0<(v::l).length),(v::l)[0]=v)∧(∀(α:Type) (l:List α) (i:Nat) (v:α),l.toArray.setIfInBounds i v=(l.set i v).toArray)∧(∀(α:Type) (x:α) (l:List α) (i:Nat) (v:α),(x::l).set (i+1) v=x::l.set i v)∧ ∀(α:Type) (x:α) (l:List α) (v:α),(x::l).set 0 v=v::l:=⟨fun _ _ _ _=>rfl,fun _ _ _ _ _=>rfl,fun _ _ _ _=>rfl,fun _ _ _ _=>by simp,fun _ _ _ _ _=>rfl,fun _ _ _ _=>rfl⟩
theorem eY {o:Oper}{v:Value}{a:Act}{w:World}(hp:aF o=true)(hw:Region.wanted o (yielded ops a.tmps)=true)(h: ∀u,CR (β w) w u→o.quietAt P a (CR (β w) w) u v):
    YieldsIf P ops (fun u=>Below (β w) w u) o v a:=by
  refine .inl ⟨hw,fun u hu=> ?_⟩;have h1:=h u (se hu);unfold Oper.quietAt at h1
  cases hr:(execOp a.eval o).run P u with
  |halt x u'=>rw[hr]at h1;exact absurd h1 (by simp[Oper.quietUpon])
  |ok n u'=>
    obtain⟨x,rfl⟩:=nb hp hr;rw[hr]at h1;obtain⟨rfl,rfl⟩:=h1;rfl
theorem eX (hβ:lC β)(hsel:Region.noSelect ops=true)(hQ: ∀c d v a w,Q (.panic c) (Act.put a d v) w→Q (.panic c) a w):
    ∀(ord:List Nat) (listed:Array Bool) (a:Act) (w:World),nw md ops ord listed=true→br β P ops Q (cJ ops ord) a w→qI β P md ops Q ord.length listed a w
  | [],listed,a,w,hB,h=>⟨by simpa[nw]using hB,h⟩
  |i::r,listed,a,w,hB,h=>by
    unfold nw at hB
    cases ho:ops[i]? with
    |none=>rw[ho]at hB;simp at hB
    |some o=>
      rw[ho]at hB;simp only[Bool.and_eq_true]at hB;obtain⟨⟨hr,hk⟩,hB'⟩:=hB;have hr':i∈Region.ready md ops listed:=by simpa using hr
      have e:cJ ops (i::r)=o::cJ ops r:=by simp[cJ,ho]
      rw[e]at h;unfold br at h;by_cases hp:aF o=true
      · rw[if_pos hp]at hk
        by_cases hw:Region.wanted o (yielded ops a.tmps)=true
        · rw[if_pos hw,if_pos hp]at h
          obtain⟨v,h1,h2⟩:=h;exact gq hβ ho hsel hQ _ listed a w (Region.free_spec ho hk) hr' (eY hp hw h1) (eX hβ hsel hQ r _ _ w hB' h2)
        · rw[if_neg hw]at h
          exact gq hβ ho hsel hQ _ listed a w (Region.free_spec ho hk) hr' (.inr ⟨by simpa using hw,rfl⟩) (eX hβ hsel hQ r _ _ w hB' h)
      · rw[if_neg hp]at hk
        have hk':Region.ready md ops listed= [i]:=by simpa using hk
        refine⟨fun h0=>absurd hr' (by rw[h0];exact List.not_mem_nil),fun j hj=> ?_⟩;rw[hk']at hj;obtain rfl:j=i:=by simpa using hj
        unfold wpOp;simp only[ho];by_cases hw:Region.wanted o (yielded ops a.tmps)=true
        · rw[if_pos hw,if_neg hp]at h
          rw[if_pos hw];exact .inl (Oper.wp_mono (fun a' w' h'=>⟨h'.1,eX hβ hsel hQ r _ a' w' hB' h'.2⟩) h)
        · rw[if_neg hw]at h
          rw[if_neg hw];exact⟨Below.refl _ _,eX hβ hsel hQ r _ _ w hB' h⟩
theorem tv (hβ:lC β){id:Nat}{a:Act}{w:World}(ord:List Nat)(hm:P.follows .mixedOrders=true)(hB:yY ops ord=true)(hQ: ∀c d v a w,Q (.panic c) (Act.put a d v) w→Q (.panic c) a w)
    (h:br β P ops Q (cJ ops ord) a w.drew):(Code.region id ops true).wp P Q a w:=by
  unfold yY at hB;simp only[Bool.and_eq_true,beq_iff_eq]at hB;refine wp_region_any hm (io (β:=β) _ _ _ _ ?_);have:=eX (md:= .any) hβ hB.1.1 hQ ord _ a w.drew hB.2 h;rw[hB.1.2]at this;exact this
theorem bq {id:Nat}{a:Act}{w:World}(ord:List Nat)(hm:P.follows .mixedOrders=true)(hB:yY ops ord=true)(hQ: ∀c d v a w,Q (.panic c) (Act.put a d v) w→Q (.panic c) a w)
    (h:br (fun w=>w.heap.size) P ops Q (cJ ops ord) a w.drew):(Code.region id ops true).wp P Q a w:=tv nk ord hm hB hQ h
theorem pA {a:Act}{w:World}: ∀(seg rest:List Oper) (a:Act),seg.all aF=true→wpQuiet P ops (CR (β w) w) (fun a'=>br β P ops Q rest a' w) seg a→br β P ops Q (seg++rest) a w
  | [],rest,a,_,h=>h
  |o::seg,rest,a,hp,h=>by
    simp only[List.all_cons,Bool.and_eq_true]at hp;rw[List.cons_append];unfold br;unfold wpQuiet at h;by_cases hw:Region.wanted o (yielded ops a.tmps)=true
    · rw[if_pos hw]at h
      rw[if_pos hw,if_pos hp.1];obtain⟨v,h1,h2⟩:=h;exact⟨v,h1,pA (a:=a) seg rest _ hp.2 h2⟩
    · rw[if_neg hw]at h
      rw[if_neg hw];exact pA (a:=a) seg rest _ hp.2 h
theorem oe (l:List Oper):(l.takeWhile aF).all aF=true:=by
  induction l with
  |nil=>rfl
  |cons o l ih=>
    rw[List.takeWhile_cons]
    split
    · next h=>simp only[List.all_cons,Bool.and_eq_true];exact⟨h,ih⟩
    · rfl
theorem lL {l:List Oper}{a:Act}{w:World}(h:wpQuiet P ops (CR (β w) w) (fun a'=>br β P ops Q (l.dropWhile aF) a' w) (l.takeWhile aF) a):br β P ops Q l a w:=by
  have:=pA (a:=a) _ (l.dropWhile aF) a (oe l) h;rwa[List.takeWhile_append_dropWhile]at this
theorem ak {l:List Oper}{a:Act}{w:World}(h:wpQuiet P ops (CR w.heap.size w) (fun a'=>br (fun w=>w.heap.size) P ops Q (l.dropWhile aF) a' w) (l.takeWhile aF) a):br (fun w=>w.heap.size) P ops Q l a w:=lL h
theorem ag {B:Nat}{l:List Oper}{a:Act}{w:World}(h:wpQuiet P ops (CR B w) (fun a'=>br (fun _=>B) P ops Q (l.dropWhile aF) a' w) (l.takeWhile aF) a):br (fun _=>B) P ops Q l a w:=lL h
theorem lE {o:Oper}{rest:List Oper}{a:Act}{w:World}(hp:aF o=false)
    (h: ∀K:Act→World→Prop,(∀a' w',Below (β w) w w'→br β P ops Q rest a' w'→K a' w')→if Region.wanted o (yielded ops a.tmps)=true then o.wp P a w K Q else K (a.put o.dst undef) w):br β P ops Q (o::rest) a w:=by
  have h1:=h (fun a' w'=>Below (β w) w w'∧br β P ops Q rest a' w') (fun a' w' h1 h2=>⟨h1,h2⟩);unfold br;by_cases hw:Region.wanted o (yielded ops a.tmps)=true
  · rw[if_pos hw]at h1
    rw[if_pos hw,if_neg (by rw[hp];exact Bool.false_ne_true)];exact h1
  · rw[if_neg hw]at h1
    rw[if_neg hw];exact h1.2
theorem aL {o:Oper}{rest:List Oper}{a:Act}{w:World}(hp:aF o=false)
    (h: ∀K:Act→World→Prop,(∀a' w',Below w.heap.size w w'→br (fun w=>w.heap.size) P ops Q rest a' w'→K a' w')→if Region.wanted o (yielded ops a.tmps)=true then o.wp P a w K Q else K (a.put o.dst undef) w):br (fun w=>w.heap.size) P ops Q (o::rest) a w:=lE hp h
theorem aC {B:Nat}{o:Oper}{rest:List Oper}{a:Act}{w:World}(hp:aF o=false)
    (h: ∀K:Act→World→Prop,(∀a' w',Below B w w'→br (fun _=>B) P ops Q rest a' w'→K a' w')→if Region.wanted o (yielded ops a.tmps)=true then o.wp P a w K Q else K (a.put o.dst undef) w):br (fun _=>B) P ops Q (o::rest) a w:=lE hp h
end
theorem aO {w w':World}(h:Below w.drew.heap.size w.drew w'):Below w.heap.size w w':=⟨h.os,h.tape,h.output,h.size,h.block⟩
theorem aa {B:Nat}{w:World}{a:Addr}{v:Value}(h:w.cell? a=some v)(hB:a.block<B): ∀p:xU B w,p.u.cell? a=some v:=fun p=>(p.h.cell hB).trans h
end Go.Proofs.YtgbopnlpaabelaaGreatDoor
/- Lists of texts that lie in memory, and which texts may be names. -/
namespace Go.Proofs.YtgbopnlpaabelaaGreatDoor
open Lib (hid)
open Go.RowKit
theorem cq (b off i:Nat):((⟨b,off,none⟩:Addr).add i)=⟨b,off+i,none⟩:=by
 unfold Addr.add
 split
 ·next h=>simp[h]
 ·rfl
theorem kM (s:ByteArray)(k:Nat)(h:k<s.size):s.data.toList.drop k=s[k]::s.data.toList.drop (k+1):=List.drop_eq_getElem_cons (by simpa using h)
/-! ### names -/
def bH (l:List UInt8):Bool:=decide (1≤l.length∧l.length≤32) && l.head? != some 36 && !(l.contains 46)
def ai (w:World)(S:Nat→Prop)(A:Option Addr)(ns:List ByteArray):Prop:=
 0<ns.length→ ∃b off,A=some ⟨b,off,none⟩∧S b∧ ∀i (h:i<ns.length),w.cell? ⟨b,off+i,none⟩=some (.string ns[i])∧ns[i].size≤140737488351232
theorem ai.keep {w w':World}{S:Nat→Prop}{A:Option Addr}{ns:List ByteArray}(h:ai w S A ns)(hk: ∀b,S b→w'.heap[b]? =w.heap[b]?):ai w' S A ns:=by
 intro hp;obtain⟨b,off,hA,hS,hc⟩:=h hp;exact⟨b,off,hA,hS,fun i hi=>⟨(World.cell?_of_block (a:=⟨b,off+i,none⟩) (hk b hS)).trans (hc i hi).1,(hc i hi).2⟩⟩
theorem ai.imp {w:World}{S S':Nat→Prop}{A:Option Addr}{ns:List ByteArray}(h:ai w S A ns)(hS: ∀b,S b→S' b):ai w S' A ns:=by
 intro hp;obtain⟨b,off,hA,hb,hc⟩:=h hp;exact⟨b,off,hA,hS b hb,hc⟩
theorem ai.nil {w:World}{S:Nat→Prop}{A:Option Addr}:ai w S A []:=fun h=>absurd h (by simp)
theorem ai.take {w:World}{S:Nat→Prop}{A:Option Addr}{ns:List ByteArray}(h:ai w S A ns)(k:Nat):ai w S A (ns.take k):=by
 intro hp;obtain⟨b,off,hA,hS,hc⟩:=h (by simp at hp;omega)
 exact⟨b,off,hA,hS,fun i hi=>by
  have:=hc i (by simp at hi;omega)
  simpa using this⟩
theorem kU (s:ByteArray):bH s.data.toList=true↔1≤s.size∧s.size≤32∧(∀h:0<s.size,s[0].toNat≠36)∧ ∀i (h:i<s.size),s[i].toNat≠46:=by
 have hl:s.data.toList.length=s.size:=rfl;have hg: ∀i (h:i<s.size),s[i]=s.data.toList[i]'(by rw[hl];exact h):=fun i h=>rfl;have hu: ∀(b c:UInt8),b.toNat=c.toNat↔b=c:=fun b c=>⟨fun h=>UInt8.toNat_inj.1 h,fun h=>by rw[h]⟩;unfold bH;simp only[Bool.and_eq_true,decide_eq_true_eq,Bool.not_eq_true',bne_iff_ne,ne_eq,hl]
 have h1:(s.data.toList.contains 46=false)↔ ∀i (h:i<s.size),s[i].toNat≠46:=by
  rw[←Bool.not_eq_true,List.contains_iff_mem,List.mem_iff_getElem];constructor
  ·intro h i hi he;exact h ⟨i,by rw[hl];exact hi,by rw[←hg i hi];exact(hu _ 46).1 he⟩
  ·rintro h ⟨i,hi,he⟩;exact h i (by rw[←hl];exact hi) (by rw[hg i (by rw[←hl];exact hi),he];rfl)
 have h2:(¬s.data.toList.head? =some 36)↔ ∀h:0<s.size,s[0].toNat≠36:=by
  rw[List.head?_eq_getElem?];constructor
  ·intro h hp he;apply h;rw[List.getElem?_eq_getElem (by rw[hl];exact hp),←hg 0 hp];exact congrArg some ((hu _ 36).1 he)
  ·intro h he;obtain⟨hp,he⟩:=List.getElem?_eq_some_iff.1 he;exact h (by rw[←hl];exact hp) (by rw[hg 0 (by rw[←hl];exact hp),he];rfl)
 rw[h1,h2];constructor
 ·rintro⟨⟨⟨a,b⟩,c⟩,d⟩;exact⟨a,b,c,d⟩
 ·rintro⟨a,b,c,d⟩;exact⟨⟨⟨a,b⟩,c⟩,d⟩
theorem aM {a b:Bool}(h:a=b):Ending.returned (.bool a)= .returned (.bool b):=by rw[h]
theorem dr {s:ByteArray}(h: ¬(1≤s.size∧s.size≤32∧(∀h:0<s.size,s[0].toNat≠36)∧ ∀i (h:i<s.size),s[i].toNat≠46)):false=bH s.data.toList:=by
 rw[←kU]at h;simpa using h
theorem oJ {s:ByteArray}(h:1≤s.size∧s.size≤32∧(∀h:0<s.size,s[0].toNat≠36)∧ ∀i (h:i<s.size),s[i].toNat≠46):true=bH s.data.toList:=((kU s).2 h).symm
theorem fA {s:ByteArray}:s.toList= []↔s.size=0:=by
 rw[ByteArray.toList_eq];show s.data.toList= []↔s.data.toList.length=0;exact List.length_eq_zero_iff.symm
theorem kg {s:ByteArray}:s.toList.isEmpty=true↔s.size=0:=by rw[List.isEmpty_iff,fA]
theorem qS (s:ByteArray)(w:World)(hs:s.size≤9223372036854775807):Calls Tryz.prog 159 #[.string s] w fun e w'=>e= .returned (.bool (bH s.data.toList))∧w=w':=by
 have HS:=hid hs;clear hs;go_enter Tryz.func159,Tryz.ntmps159;go_wp2
 ·have h0:=fA.1 (by assumption:s.toList= []);go_ret;exact⟨aM (dr fun h=>by omega),rfl⟩
 ·rename_i h0 h1 h2 h3;go_ret;refine⟨aM (dr fun h=> ?_),rfl⟩;rcases h3 with (h3|h3)|h3
  ·rw[kg]at h3;omega
  ·omega
  ·exact h.2.2.1 h2 (by have h4:((s[0].toNat:Int))=36:=eq_of_beq h3;omega)
 ·have h2:0<s.size:=by assumption
  have h3:(s.toList.isEmpty=false∧(s.size:Int)≤32)∧(((s[0]'h2).toNat:Int) == 36)=false:=by assumption
  have H0:=hid (show 1≤s.size∧s.size≤32∧(∀h:0<s.size,s[0].toNat≠36) from⟨h2,by omega,fun h he=>by have:=h3.2;rw[he]at this;simp at this⟩)
  go_loopw [18] (fun i wr=> ∃k:Nat,i= .int .i64 k∧k≤s.size∧wr=w∧ ∀j (h:j<s.size),j<k→s[j].toNat≠46) (fun i _=>s.size - (intOf i).toNat)
  case atStart=>exact⟨0,rfl,by omega,rfl,fun j _ h=>absurd h (by omega)⟩
  case round=>
   obtain⟨k,rfl,hk,rfl,hj⟩:=hrel;have HJ:=hid hj;clear hj;by_cases hlt:k<s.size
   ·by_cases hb:s[k].toNat=46
    ·go_wp2;go_ret;exact⟨aM (dr fun h=>h.2.2.2 k hlt hb),rfl⟩
    ·go_wp2
     go_roundw
     case rel=>exact⟨k+1,by go_num,by omega,trivial,fun j h hjk=>by
      by_cases e:j=k
      ·subst e;exact hb
      ·exact HJ.out j h (by omega)⟩
     case measure=>simp[intOf];omega
   ·go_wp2;go_ret;exact⟨aM (oJ ⟨H0.out.1,H0.out.2.1,H0.out.2.2,fun i h=>HJ.out i h (by omega)⟩),rfl⟩
 ·have h0:=mt fA.2 (by assumption: ¬s.toList= []);omega
 ·go_ret;exact⟨aM (dr fun h=>by omega),rfl⟩
end Go.Proofs.YtgbopnlpaabelaaGreatDoor
/- Values within values, as trees: what the order, the depth, the size and the looks of a tree are. -/
namespace Go.Proofs.YtgbopnlpaabelaaGreatDoor
inductive VT where
 |mk (k i:Int) (s:ByteArray) (l:List VT) (ns:List ByteArray):VT
namespace VT
def kind :VT→Int|mk k _ _ _ _=>k
def num :VT→Int|mk _ i _ _ _=>i
def text :VT→ByteArray|mk _ _ s _ _=>s
def items :VT→List VT|mk _ _ _ l _=>l
def names :VT→List ByteArray|mk _ _ _ _ ns=>ns
end VT
/-! ### how many, up to a bound -/
mutual
def bG :Nat→VT→Nat
 |d,.mk _ _ _ l ns=>if 40<d then 1048576 else cG d (1+ns.length) l
def cG :Nat→Nat→List VT→Nat
 |_,n,[]=>n
 |d,n,t::r=>if n<65536 then cG d (n+bG (d+1) t) r else n
end
def di (t:VT):Bool:=decide (3000<bG 0 t)
/-! ### how deep -/
mutual
def ac :VT→Nat
 | .mk _ _ _ l _=>aK l+1
def aK :List VT→Nat
 | []=>0
 |t::r=>max (ac t) (aK r)
end
/-! ### a walk from above: a state, and whether it goes on -/
mutual
def dG {σ:Type}(f:VT→Nat→σ→σ×Bool):VT→Nat→σ→σ×Bool
 | .mk k i s l ns,d,st=>if(f (.mk k i s l ns) d st).2 then eq f l (d+1) (f (.mk k i s l ns) d st).1 else((f (.mk k i s l ns) d st).1,false)
def eq {σ:Type}(f:VT→Nat→σ→σ×Bool):List VT→Nat→σ→σ×Bool
 | [],_,st=>(st,true)
 |t::r,d,st=>if(dG f t d st).2 then eq f r d (dG f t d st).1 else((dG f t d st).1,false)
end
/-! ### names -/
def bu :List ByteArray→Bool
 | []=>true
 |s::r=>bH s.data.toList && !((r.map fun x=>x.data.toList).contains s.data.toList) && bu r
/-! ### may it be -/
def aU (k i:Int)(s:ByteArray)(n:Nat)(ns:List ByteArray):Bool:=
 if k=1 then decide (i=0) && decide (s.toList= []) && (n == 0 && ns.length == 0)
 else if k=2 then(decide (i=0) || decide (i=1)) && decide (s.toList= []) && (n == 0 && ns.length == 0)
 else if k=3 then decide (s.toList= []) && (n == 0 && ns.length == 0)
 else if k=4∨k=5 then decide (i=0) && (n == 0 && ns.length == 0)
 else if k=6 then decide (i=0) && decide (s.toList= []) && ns.length == 0
 else if k=7 then decide (i=0) && decide (s.toList= []) && ns.length == n && bu ns
 else false
def nB :VT→Bool
 | .mk k i s l ns=>aU k i s l.length ns
mutual
def ao :VT→Bool
 | .mk k i s l ns=>nB (.mk k i s l ns) && gk l
def gk :List VT→Bool
 | []=>true
 |t::r=>ao t && gk r
end
end Go.Proofs.YtgbopnlpaabelaaGreatDoor
/- What each function of the package that lays numbers, counts and texts as bytes does, call by call. -/
namespace Go.Proofs.YtgbopnlpaabelaaGreatDoor
open Lib (hid)
open Go.RowKit
theorem Tryz.infoU8 :(Tryz.prog.info? 5).map (fun i=>(i.zero,i.size,i.bytes))=some (some (.int .u8 0),1,1):=by kernel_rfl
theorem Ai :IntKind.u64.max=18446744073709551615:=by decide
theorem Al (a:Nat)(ha:a<18446744073709551616):18446744073709551615 ^^^ a=18446744073709551615 - a:=by
 have h:(BitVec.allOnes 64 ^^^ BitVec.ofNat 64 a)= ~~~ (BitVec.ofNat 64 a):=by
  rw[BitVec.allOnes_xor]
 have h2:=congrArg BitVec.toNat h;rw[BitVec.toNat_xor,BitVec.toNat_allOnes,BitVec.toNat_not,BitVec.toNat_ofNat,Nat.mod_eq_of_lt ha]at h2;exact h2
theorem yv (x:Int)(h1: -9223372036854775808≤x)(h2:x<0):
  bits .xor .u64 IntKind.u64.max (IntKind.u64.wrap (IntKind.u64.wrap x * 2))=(zig x:Int):=by
 have e:IntKind.u64.wrap (IntKind.u64.wrap x * 2)=((2 * x+18446744073709551616).toNat:Int):=by
  rw[IntKind.wrap_u64,IntKind.wrap_u64];omega
 have hm:IntKind.u64.max=((18446744073709551615:Nat):Int):=Ai;rw[e,hm,u64_xor_nat _ _ (by omega) (by omega),Al _ (by omega)];unfold zig;rw[if_pos h2];omega
theorem xZ (x:Int)(h1:0≤x)(h2:x≤9223372036854775807):
  IntKind.u64.wrap (IntKind.u64.wrap x * 2)=(zig x:Int):=by
 rw[IntKind.wrap_u64,IntKind.wrap_u64];unfold zig;rw[if_neg (by omega)];omega
theorem me {a b:Int}(h:a=b):Ending.returned (.int .u64 a)= .returned (.int .u64 b):=by rw[h]
theorem aH {a b:Int}(h:a=b):Ending.returned (.int .i64 a)= .returned (.int .i64 b):=by rw[h]
theorem xq (x:Int)(w:World)(h1: -9223372036854775808≤x)(h2:x≤9223372036854775807):
  Calls Tryz.prog 166 #[.int .i64 x] w fun e w'=>e= .returned (.int .u64 (zig x))∧w=w':=by
 have H1:=hid h1;have H2:=hid h2;clear h1 h2;go_enter Tryz.func166,Tryz.ntmps166;go_wp2
 ·have hx:x<0:=by assumption
  go_ret;exact⟨me (yv x H1.out hx),rfl⟩
 ·have hx:0≤x:=by assumption
  go_ret;exact⟨me (xZ x hx H2.out),rfl⟩
def iX (w:World)(B:Nat)(v:Value)(l:List UInt8):Prop:=w.ownsRow B 5 1 v l.length (dg l)
theorem zB (n:Nat):bits .or .u8 ((n:Int) % 128) 128=((UInt8.ofNat (n % 128+128)).toNat:Int):=by
 rw[il _ (by omega)];have e:((n:Int) % 128)=((n % 128:Nat):Int):=by omega
 rw[e];have h2:(128:Int)=((128:Nat):Int):=rfl;rw[h2,u8_or_nat _ _ (by omega) (by omega),Nat.or_comm,nat_join 7 128 (n % 128) (by decide) (by simp;omega)];omega
theorem iT {w1:World}{B:Nat}{v':Value}{l:List UInt8}{b:UInt8}{u:Int}(hu:u=(b.toNat:Int))
  (h:w1.ownsRow B 5 1 v' (l.length+1) (dg l++[Value.int .u8 u])):iX w1 B v' (l++[b]):=by
 subst hu;unfold iX;rw[jf,tW,List.length_append];exact h
theorem iV {B:Nat}{w wr w1:World}{v:Value}{l:List UInt8}{o:Obj}(hb:Below B w wr)(hB:B≤w.heap.size)(hown:iX wr B v l)(hg:(wr.alloc o).grownBy w1 v.ownBlock):Below B w w1:=
 (hb.alloc (Nat.le_trans hB hb.size) o).grown hg (by have:=hb.size;simp;omega) (fun k hk=>(hown.lt k hk).1)
theorem us (m:Nat)(h:m<128):(m:Int)=((UInt8.ofNat m).toNat:Int):=by
 rw[il _ (by omega)]
set_option maxRecDepth 1000000 in
theorem qx (B:Nat)(v:Value)(xs:List UInt8)(n:Nat)(w:World)(hn:n<18446744073709551616)(hown:iX w B v xs)(hB:B≤w.heap.size)(hx:xs.length≤140737488355300):
  Calls Tryz.prog 165 #[v,.int .u64 n] w fun e w'=> ∃v',e= .returned v'∧iX w' B v' (xs++grp n)∧Below B w w':=by
 obtain⟨i0,hi,hz0,hz1,hz2⟩:=info_parts Tryz.infoU8;have HN:=hid hn;have HX:=hid hx;clear hn hx;go_enter Tryz.func165,Tryz.ntmps165;go_wp2
 go_loopw [0,1] (fun v1 n1 wr=> ∃(m:Nat) (acc:List UInt8),n1= .int .u64 m∧Hid (m<18446744073709551616∧acc++grp m=grp n)∧iX wr B v1 (xs++acc)∧Below B w wr) (fun _ n1 _=>(intOf n1).toNat)
 case atStart=>exact⟨n,[],rfl,⟨HN.out,rfl⟩,by simpa using hown,Below.refl _ _⟩
 case round=>
  obtain⟨m,acc,rfl,HM,hown1,hbel⟩:=hrel
  have hal:acc.length≤11:=by
   have h1:=congrArg List.length HM.out.2;have:=(bA n).1;simp at h1;omega
  have hsz:=hbel.size;by_cases hm:128≤m
  ·have hown2:wr.ownsRow B 5 1 _ (xs++acc).length (dg (xs++acc)):=hown1;go_wp2_with(at_builtin;go_must (refine wpList_append_own _ rfl _ _ 101 rfl B 5 i0 (.int .u8 0) 1 1 Tryz.underlying101 hi hz0 hz1 hz2 rfl (by decide) _ _ _ rfl (hown2.alloc _) ⟨wr.heap.size,0,none⟩ 1 1 [.int .u8 (bits .or .u8 ((m:Int) % 128) 128)] rfl rfl ?c1 ?c2 ?c3 ?c4 ?c5 ?_));case c1=>exact cell_one_new _ _ _
   case c2=>intro u hu;simp at hu;subst hu;rfl
   case c3=>have:=HX.out;rw[List.length_append];unfold maxLen;omega
   case c4=>have:=HX.out;rw[List.length_append];omega
   case c5=>simp;omega
   intro v2 w2 hown3 hg _;have hb2:=iV hbel hB hown1 hg;have hs2:=iT (l:=xs++acc) (zB m) (by rw[List.length_append];exact hown3);clear hown3 hg hown2 hown1;go_wp2
   go_roundw
   case rel=>exact⟨m / 128,acc++[UInt8.ofNat (m % 128+128)],by go_num,⟨by have:=HM.out.1;omega,by
    rw[List.append_assoc,List.singleton_append,←oU m hm HM.out.1];exact HM.out.2⟩,by rw[←List.append_assoc];exact hs2,hb2⟩
   case measure=>simp[intOf];omega
  ·have hown2:wr.ownsRow B 5 1 _ (xs++acc).length (dg (xs++acc)):=hown1;have hm':m<128:=by omega
   go_wp2_with(at_builtin;go_must (refine wpList_append_own _ rfl _ _ 101 rfl B 5 i0 (.int .u8 0) 1 1 Tryz.underlying101 hi hz0 hz1 hz2 rfl (by decide) _ _ _ rfl (hown2.alloc _) ⟨wr.heap.size,0,none⟩ 1 1 [.int .u8 (m:Int)] rfl rfl ?d1 ?d2 ?d3 ?d4 ?d5 ?_));case d1=>exact cell_one_new _ _ _
   case d2=>intro u hu;simp at hu;subst hu;rfl
   case d3=>have:=HX.out;rw[List.length_append];unfold maxLen;omega
   case d4=>have:=HX.out;rw[List.length_append];omega
   case d5=>simp;omega
   intro v2 w2 hown3 hg _;have hb2:=iV hbel hB hown1 hg;have hs2:=iT (l:=xs++acc) (us m hm') (by rw[List.length_append];exact hown3);clear hown3 hg hown2 hown1;go_wp2;go_ret;exact⟨_,rfl,by rw[←HM.out.2,pf m hm',←List.append_assoc];exact hs2,hb2⟩
theorem iX.below {w w':World}{B:Nat}{v:Value}{l:List UInt8}(h:iX w B v l)(hb:Below w.heap.size w w'):iX w' B v l:=by
 obtain⟨h1,h2⟩:=h;refine⟨h1,?_⟩;rcases h2 with h2|⟨g,cap,cur,hv,hg,hh,r⟩
 ·exact Or.inl h2
 ·refine Or.inr ⟨g,cap,cur,hv,hg,?_,r⟩;have hlt:g<w.heap.size:=(Array.getElem?_eq_some_iff.1 hh).1;rw[hb.block g hlt];exact hh
def rW (l:List UInt8)(w:World)(e:Ending)(w':World):Prop:= ∃v,e= .returned v∧iX w' w.heap.size v l∧Below w.heap.size w w'
theorem AE (x:Int)(w:World)(h1: -9223372036854775808≤x)(h2:x≤9223372036854775807):
  Calls Tryz.prog 137 #[.int .i64 x] w (rW (grp (zig x)) w):=by
 have HZ:=hid (zk x h1 h2);have H1:=hid h1;have H2:=hid h2;clear h1 h2;go_enter Tryz.func137,Tryz.ntmps137;go_wp2_with fail;refine(xq x _ H1.out H2.out).mono ?_;rintro e w' ⟨rfl,rfl⟩;go_wp2_with fail;refine(qx w.heap.size _ [] _ _ HZ.out (World.ownsRow_nil _ _ _ _) (Nat.le_refl _) (by simp)).mono ?_;rintro e w1 ⟨v,rfl,hv,hb⟩;go_wp2_with fail;go_ret;exact⟨_,rfl,by simpa using hv,hb⟩
def AT (n:Int)(w:World)(e:Ending)(w':World):Prop:=
 (0≤n∧n≤4611686018427387904∧ ∃v,e= .returned (.tuple #[v,.int .i64 0])∧iX w' w.heap.size v (grp n.toNat)∧Below w.heap.size w w')∨
 ((n<0∨4611686018427387904<n)∧e= .returned (.tuple #[.slice none 0 0,.int .i64 1])∧w=w')
theorem wY (n:Int)(w:World)(h2:n≤9223372036854775807):Calls Tryz.prog 167 #[.int .i64 n] w (AT n w):=by
 have H2:=hid h2;clear h2;by_cases h0:n<0
 ·go_enter Tryz.func167,Tryz.ntmps167;go_wp2_with fail
  go_ret2
  exact .inr ⟨.inl h0,rfl,rfl⟩
 ·by_cases h3:4611686018427387904<n
  ·go_enter Tryz.func167,Tryz.ntmps167;go_wp2_with fail
   go_ret2
   exact .inr ⟨.inr h3,rfl,rfl⟩
  ·obtain⟨m,rfl⟩:=Int.eq_ofNat_of_zero_le (by omega:0≤n);have hb:m≤4611686018427387904:=by omega
   go_enter Tryz.func167,Tryz.ntmps167;go_wp2_with fail;refine(qx w.heap.size _ [] m _ (by omega) (World.ownsRow_nil _ _ _ _) (Nat.le_refl _) (by simp)).mono ?_;rintro e w1 ⟨v,rfl,hv,hb⟩;go_wp2_with fail
   go_ret2
   exact .inl ⟨by omega,by omega,v,rfl,by simpa using hv,hb⟩
def txt (s:ByteArray):List UInt8:=grp s.size++s.data.toList
theorem om {w w1 w2:World}(h:Below w.heap.size w w1)(h2:Below w1.heap.size w1 w2):Below w.heap.size w w2:=h.trans (h2.mono h.size)
theorem dD {B:Nat}{w w1:World}{row:Option Nat}(hg:w.grownBy w1 row)(hB:B≤w.heap.size)(hr: ∀k,row=some k→B≤k):Below B w w1:=(Below.refl _ _).grown hg hB hr
theorem rj (m:Nat)(h:m<18446744073709551616):IntKind.u64.wrap ((m:Int) / 128)=((m / 128:Nat):Int):=by rw[IntKind.wrap_u64];omega
set_option maxRecDepth 1000000 in
theorem lp (n:Nat)(w:World)(hn:n<18446744073709551616):
  Calls Tryz.prog 134 #[.int .u64 n] w (rW (grp n) w):=by
 obtain⟨i0,hi,hz0,hz1,hz2⟩:=info_parts Tryz.infoU8;have HN:=hid hn;clear hn;go_enter Tryz.func134,Tryz.ntmps134;go_wp2
 go_loopw [0,3] (fun n1 v1 wr=> ∃(m:Nat) (acc:List UInt8),n1= .int .u64 m∧Hid (m<18446744073709551616∧acc++grp m=grp n)∧iX wr w.heap.size v1 acc∧Below w.heap.size w wr) (fun n1 _ _=>(intOf n1).toNat)
 case atStart=>exact⟨n,[],rfl,⟨HN.out,rfl⟩,World.ownsRow_nil _ _ _ _,Below.refl _ _⟩
 case round=>
  obtain⟨m,acc,rfl,HM,hown1,hbel⟩:=hrel
  have hal:acc.length≤11:=by
   have h1:=congrArg List.length HM.out.2;have:=(bA n).1;simp at h1;omega
  have hsz:=hbel.size;have hown2:wr.ownsRow w.heap.size 5 1 _ acc.length (dg acc):=hown1;by_cases hm:128≤m
  ·go_wp2_with(at_builtin;go_must (refine wpList_append_own _ rfl _ _ 101 rfl w.heap.size 5 i0 (.int .u8 0) 1 1 Tryz.underlying101 hi hz0 hz1 hz2 rfl (by decide) _ _ _ rfl (hown2.alloc _) ⟨wr.heap.size,0,none⟩ 1 1 [.int .u8 ((m:Int) % 128+128)] rfl rfl ?c1 ?c2 ?c3 ?c4 ?c5 ?_));case c1=>exact cell_one_new _ _ _
   case c2=>intro u hu;simp at hu;subst hu;rfl
   case c3=>unfold maxLen;omega
   case c4=>omega
   case c5=>simp;omega
   intro v2 w2 hown3 hg _;have hb2:=iV hbel (Nat.le_refl _) hown1 hg;have hs2:=iT (l:=acc) (b:=UInt8.ofNat (m % 128+128)) (by rw[il _ (by omega)];omega) hown3;clear hown3 hg hown2 hown1;go_wp2
   go_roundw
   case rel=>exact⟨m / 128,acc++[UInt8.ofNat (m % 128+128)],by rw[rj m HM.out.1],⟨by have:=HM.out.1;omega,by
    rw[List.append_assoc,List.singleton_append,←oU m hm HM.out.1];exact HM.out.2⟩,hs2,hb2⟩
   case measure=>simp only[intOf,rj m HM.out.1];omega
  ·have hm':m<128:=by omega
   go_wp2_with(at_builtin;go_must (refine wpList_append_own _ rfl _ _ 101 rfl w.heap.size 5 i0 (.int .u8 0) 1 1 Tryz.underlying101 hi hz0 hz1 hz2 rfl (by decide) _ _ _ rfl (hown2.alloc _) ⟨wr.heap.size,0,none⟩ 1 1 [.int .u8 (m:Int)] rfl rfl ?d1 ?d2 ?d3 ?d4 ?d5 ?_));case d1=>exact cell_one_new _ _ _
   case d2=>intro u hu;simp at hu;subst hu;rfl
   case d3=>unfold maxLen;omega
   case d4=>omega
   case d5=>simp;omega
   intro v2 w2 hown3 hg _;have hb2:=iV hbel (Nat.le_refl _) hown1 hg;have hs2:=iT (l:=acc) (us m hm') hown3;clear hown3 hg hown2 hown1;go_wp2;go_ret;exact⟨_,rfl,by rw[←HM.out.2,pf m hm'];exact hs2,hb2⟩
theorem zC (x:Int)(w:World)(h1: -9223372036854775808≤x)(h2:x≤9223372036854775807):
  Calls Tryz.prog 135 #[.int .i64 x] w fun e w'=>e= .returned (.int .u64 (zig x))∧w=w':=by
 by_cases hx:0≤x
 ·go_enter Tryz.func135,Tryz.ntmps135;go_wp2;go_ret;exact⟨me (by unfold zig;split<;>omega),rfl⟩
 ·go_enter Tryz.func135,Tryz.ntmps135;go_wp2;go_ret;exact⟨me (by unfold zig;split<;>omega),rfl⟩
theorem yr (x:Int)(w:World)(h1: -9223372036854775808≤x)(h2:x≤9223372036854775807):
  Calls Tryz.prog 90 #[.int .i64 x] w (rW (grp (zig x)) w):=by
 have HZ:=hid (zk x h1 h2);have H1:=hid h1;have H2:=hid h2;clear h1 h2;go_enter Tryz.func90,Tryz.ntmps90;go_wp2_with fail;refine(zC x _ H1.out H2.out).mono ?_;rintro e w' ⟨rfl,rfl⟩;go_wp2_with fail;refine(lp _ _ HZ.out).mono ?_;rintro e w1 ⟨v,rfl,hv,hb⟩;go_wp2_with fail;go_ret;exact⟨_,rfl,hv,hb⟩
theorem jr (n:Nat)(w:World)(h:n≤9223372036854775807):
  Calls Tryz.prog 92 #[.int .i64 n] w (rW (grp n) w):=by
 go_enter Tryz.func92,Tryz.ntmps92;go_wp2_with fail;refine(lp _ _ (by omega)).mono ?_;rintro e w1 ⟨v,rfl,hv,hb⟩;go_wp2_with fail;go_ret;exact⟨_,rfl,hv,hb⟩
def Rng (x:Int):Prop:= -9223372036854775808≤x∧x≤9223372036854775807
mutual
def LV (w:World)(S:Nat→Prop):VT→Value→Prop
 | .mk k i s l ns,v=> ∃A c A' c',v= .agg #[.int .i64 k,.int .i64 i,.string s,.slice A l.length c,.slice A' ns.length c']∧Rng k∧Rng i∧s.size≤140737488351232∧
   l.length≤1759218604390∧ns.length≤8796093021952∧ai w S A' ns∧(0<l.length→ ∃b off,A=some ⟨b,off,none⟩∧S b∧LVs w S b off l)
def LVs (w:World)(S:Nat→Prop)(b:Nat):Nat→List VT→Prop
 |_,[]=>True
 |off,t::r=>(∃c0 c1 c2 c3 c4,w.cell? ⟨b,off,none⟩=some c0∧w.cell? ⟨b,off+1,none⟩=some c1∧w.cell? ⟨b,off+2,none⟩=some c2∧w.cell? ⟨b,off+3,none⟩=some c3∧w.cell? ⟨b,off+4,none⟩=some c4∧
   LV w S t (.agg #[c0,c1,c2,c3,c4]))∧LVs w S b (off+5) r
end
def LVA (w:World)(S:Nat→Prop)(A:Option Addr)(l:List VT):Prop:=0<l.length→ ∃b off,A=some ⟨b,off,none⟩∧S b∧LVs w S b off l
mutual
theorem LV.keep {w w':World}{S:Nat→Prop}(hk: ∀b,S b→w'.heap[b]? =w.heap[b]?): ∀ {t:VT} {v:Value},LV w S t v→LV w' S t v
 | .mk k i s l ns,v,h=>by
  unfold LV at h ⊢;obtain⟨A,c,A',c',hv,h1,h2,h3,h4,h5,h6,h7⟩:=h;refine⟨A,c,A',c',hv,h1,h2,h3,h4,h5,h6.keep hk,fun hp=> ?_⟩;obtain⟨b,off,hA,hS,hl⟩:=h7 hp;exact⟨b,off,hA,hS,LVs.keep hk hS hl⟩
theorem LVs.keep {w w':World}{S:Nat→Prop}(hk: ∀b,S b→w'.heap[b]? =w.heap[b]?){b:Nat}(hb:S b): ∀ {l:List VT} {off:Nat},LVs w S b off l→LVs w' S b off l
 | [],_,_=>by unfold LVs;trivial
 |t::r,off,h=>by
  unfold LVs at h ⊢;obtain⟨⟨c0,c1,c2,c3,c4,h0,h1,h2,h3,h4,hv⟩,hr⟩:=h;have e: ∀o,w'.cell? ⟨b,o,none⟩=w.cell? ⟨b,o,none⟩:=fun o=>World.cell?_of_block (a:=⟨b,o,none⟩) (hk b hb);exact⟨⟨c0,c1,c2,c3,c4,(e _).trans h0,(e _).trans h1,(e _).trans h2,(e _).trans h3,(e _).trans h4,LV.keep hk hv⟩,LVs.keep hk hb hr⟩
end
mutual
theorem LV.imp {w:World}{S S':Nat→Prop}(hS: ∀b,S b→S' b): ∀ {t:VT} {v:Value},LV w S t v→LV w S' t v
 | .mk k i s l ns,v,h=>by
  unfold LV at h ⊢;obtain⟨A,c,A',c',hv,h1,h2,h3,h4,h5,h6,h7⟩:=h;refine⟨A,c,A',c',hv,h1,h2,h3,h4,h5,h6.imp hS,fun hp=> ?_⟩;obtain⟨b,off,hA,hb,hl⟩:=h7 hp;exact⟨b,off,hA,hS b hb,LVs.imp hS hl⟩
theorem LVs.imp {w:World}{S S':Nat→Prop}(hS: ∀b,S b→S' b){b:Nat}: ∀ {l:List VT} {off:Nat},LVs w S b off l→LVs w S' b off l
 | [],_,_=>by unfold LVs;trivial
 |t::r,off,h=>by
  unfold LVs at h ⊢;obtain⟨⟨c0,c1,c2,c3,c4,h0,h1,h2,h3,h4,hv⟩,hr⟩:=h;exact⟨⟨c0,c1,c2,c3,c4,h0,h1,h2,h3,h4,LV.imp hS hv⟩,LVs.imp hS hr⟩
end
theorem LVA.keep {w w':World}{S:Nat→Prop}{A:Option Addr}{l:List VT}(h:LVA w S A l)(hk: ∀b,S b→w'.heap[b]? =w.heap[b]?):LVA w' S A l:=by
 intro hp;obtain⟨b,off,hA,hS,hl⟩:=h hp;exact⟨b,off,hA,hS,LVs.keep hk hS hl⟩
theorem LVA.imp {w:World}{S S':Nat→Prop}{A:Option Addr}{l:List VT}(h:LVA w S A l)(hS: ∀b,S b→S' b):LVA w S' A l:=by
 intro hp;obtain⟨b,off,hA,hb,hl⟩:=h hp;exact⟨b,off,hA,hS b hb,LVs.imp hS hl⟩
theorem LV.shape {w:World}{S:Nat→Prop}{t:VT}{v:Value}(h:LV w S t v): ∃A c A' c',v= .agg #[.int .i64 t.kind,.int .i64 t.num,.string t.text,.slice A t.items.length c,.slice A' t.names.length c']∧Rng t.kind∧Rng t.num∧t.text.size≤140737488351232∧
  t.items.length≤140737488351232∧t.names.length≤140737488351232∧ai w S A' t.names∧LVA w S A t.items:=by
 cases t with
 |mk k i s l ns=>
  unfold LV at h;obtain⟨A,c,A',c',hv,h1,h2,h3,h4,h5,h6,h7⟩:=h;exact⟨A,c,A',c',hv,h1,h2,h3,Nat.le_trans h4 (by decide),Nat.le_trans h5 (by decide),h6,h7⟩
theorem LV.lens {w:World}{S:Nat→Prop}{t:VT}{v:Value}(h:LV w S t v):t.items.length≤1759218604390∧t.names.length≤8796093021952:=by
 cases t with
 |mk k i s l ns=>
  unfold LV at h;obtain⟨A,c,A',c',hv,h1,h2,h3,h4,h5,h6,h7⟩:=h;exact⟨h4,h5⟩
theorem LV.mk {w:World}{S:Nat→Prop}{k i:Int}{s:ByteArray}{l:List VT}{ns:List ByteArray}{A A':Option Addr}{c c':Nat}(h1:Rng k)(h2:Rng i)(h3:s.size≤140737488351232)(h4:l.length≤1759218604390)(h5:ns.length≤8796093021952)
  (h6:ai w S A' ns) (h7:LVA w S A l):LV w S (.mk k i s l ns) (.agg #[.int .i64 k,.int .i64 i,.string s,.slice A l.length c,.slice A' ns.length c']):=by
 unfold LV;exact⟨A,c,A',c',rfl,h1,h2,h3,h4,h5,h6,h7⟩
theorem LVs.at {w:World}{S:Nat→Prop}{b:Nat}: ∀ {l:List VT} {off:Nat},LVs w S b off l→ ∀j (h:j<l.length),∃c0 c1 c2 c3 c4,w.cell? ⟨b,off+j * 5,none⟩=some c0∧w.cell? ⟨b,off+j * 5+1,none⟩=some c1∧w.cell? ⟨b,off+j * 5+2,none⟩=some c2∧w.cell? ⟨b,off+j * 5+3,none⟩=some c3∧w.cell? ⟨b,off+j * 5+4,none⟩=some c4∧LV w S l[j] (.agg #[c0,c1,c2,c3,c4])
 | [],_,_,j,h=>absurd h (by simp)
 |t::r,off,h,0,_=>by unfold LVs at h;simpa using h.1
 |t::r,off,h,j+1,hj=>by
  unfold LVs at h;have:=LVs.at h.2 j (by simpa using hj);have e:off+5+j * 5=off+(j+1) * 5:=by omega
  rw[e]at this;simpa using this
theorem bM (m n:Nat):((m:Int) == (n:Int))=(m == n):=by rw[Bool.eq_iff_iff];simp;omega
theorem bo (m:Nat):((m:Int) == 0)=(m == 0):=bM m 0
theorem ae {w:World}(o:Obj):Below w.heap.size w (w.alloc o):=(Below.refl _ _).alloc (Nat.le_refl _) o
theorem eK (a b d:Value)(A A':Option Addr)(n c m c':Nat)(w:World):Calls Tryz.prog 125 #[.agg #[a,b,d,.slice A n c,.slice A' m c']] w fun e w'=>e= .returned (.bool (n == 0 && m == 0))∧Below w.heap.size w w':=by
 go_enter Tryz.func125,Tryz.ntmps125;go_wp2
 all_goals
  go_ret;refine⟨?_,ae _⟩
  simp_all [bo]
end Go.Proofs.YtgbopnlpaabelaaGreatDoor
/- Whether each of a list of texts may be a name, and none is there twice. -/
namespace Go.Proofs.YtgbopnlpaabelaaGreatDoor
open Lib (hid)
open Go.RowKit Go.Maps
theorem mz {a b:ByteArray}(h:a.data.toList=b.data.toList):a=b:=by
 rw[←Go.Joins.bytes_eta a,←Go.Joins.bytes_eta b,h]
theorem ci : ∀ {l:List ByteArray},bu l=true↔(∀s∈l,bH s.data.toList=true)∧l.Nodup
 | []=>by simp[bu]
 |s::r=>by
  simp only[bu,Bool.and_eq_true,Bool.not_eq_true',ci (l:=r),List.mem_cons,forall_eq_or_imp,List.nodup_cons]
  have e:((r.map fun x=>x.data.toList).contains s.data.toList=false)↔s∉r:=by
   rw[←Bool.not_eq_true,List.contains_iff_mem,List.mem_map];constructor
   ·intro h hs;exact h ⟨s,hs,rfl⟩
   ·rintro h ⟨a,ha,he⟩;rw[mz he]at ha;exact h ha
  rw[e];constructor
  ·rintro⟨⟨a,b⟩,c,d⟩;exact⟨⟨a,c⟩,b,d⟩
  ·rintro⟨⟨a,c⟩,b,d⟩;exact⟨⟨a,b⟩,c,d⟩
def ov (s:ByteArray):Lit:= .string s.data.toList
def SdS (ns:List ByteArray)(k:Nat):DataW Unit:=setOf (.agg []) ((ns.take k).map ov)
theorem ya (ns:List ByteArray):SdS ns 0= .map []:=by simp[SdS,setOf]
theorem Ag (ns:List ByteArray)(k:Nat)(hk:k<ns.length):SdS ns (k+1)=(SdS ns k).put (ov ns[k]) (.agg []):=by
 unfold SdS;rw[List.take_add_one,List.getElem?_eq_getElem hk,List.map_append];exact setOf_snoc _ _ _
theorem AD (x:ByteArray)(l:List ByteArray):(l.map ov).any (fun y:Lit=>y.sameKey (ov x))=true↔x∈l:=by
 rw[List.any_map,List.any_eq_true];constructor
 ·rintro⟨y,hy,h⟩;have h2:y.data.toList=x.data.toList:=by simpa[ov,Lit.sameKey]using h
  rw[←mz h2];exact hy
 ·intro h;exact⟨x,h,by simp[ov,Lit.sameKey]⟩
theorem zX (ns:List ByteArray)(k:Nat)(x:ByteArray):Maps.has (SdS ns k) (ov x)=true↔x∈ns.take k:=by
 unfold SdS;rw[has_setOf _ _ _ (fun y hy=>by obtain⟨_,_,rfl⟩:=List.mem_map.1 hy;trivial),AD]
theorem Bv :Keyed Tryz.prog 9:=string_keyed Tryz.underlying9
theorem Bh (w:World):(zeroValue 144).run Tryz.prog w= .ok (.agg #[]) w:=by kernel_rfl
def uw (ns:List ByteArray)(k:Nat):Prop:=(∀i (h:i<ns.length),i<k→bH ns[i].data.toList=true)∧(ns.take k).Nodup
theorem yd {ns:List ByteArray}{k:Nat}(h:uw ns k)(hk:ns.length≤k):bu ns=true:=by
 rw[ci];refine⟨fun s hs=> ?_,by have:=h.2;rwa[List.take_of_length_le hk]at this⟩;obtain⟨i,hi,rfl⟩:=List.mem_iff_getElem.1 hs;exact h.1 i hi (by omega)
theorem vl {ns:List ByteArray}{k:Nat}(h:uw ns k)(hk:k<ns.length)(h1:bH ns[k].data.toList=true)(h2:ns[k]∉ns.take k):uw ns (k+1):=by
 refine⟨fun i hi hik=> ?_,?_⟩
 ·by_cases e:i=k
  ·subst e;exact h1
  ·exact h.1 i hi (by omega)
 ·rw[List.take_add_one,List.getElem?_eq_getElem hk,List.nodup_append];refine⟨h.2,by simp,fun a ha b hb e=> ?_⟩;simp at hb;subst e;subst hb;exact h2 ha
theorem zq {ns:List ByteArray}{k:Nat}(hk:k<ns.length)(h:bH ns[k].data.toList=false):false=bu ns:=by
 symm;rw[←Bool.not_eq_true,ci];intro hh;rw[hh.1 _ (List.getElem_mem hk)]at h;cases h
theorem vY {ns:List ByteArray}{k:Nat}(hk:k<ns.length)(h:ns[k]∈ns.take k):false=bu ns:=by
 symm;rw[←Bool.not_eq_true,ci];intro hh;obtain⟨i,hi,he⟩:=List.mem_iff_getElem.1 h;simp at hi;rw[List.getElem_take]at he;have:=(List.nodup_iff_pairwise_ne.1 hh.2);rw[List.pairwise_iff_getElem]at this;exact this i k (by omega) hk (by omega) he
theorem pU (S:Nat→Prop)(A:Option Addr)(c:Nat)(ns:List ByteArray)(w:World)(hS: ∀b,S b→b<w.heap.size)(h:ai w S A ns)(hl:ns.length≤140737488351232):
  Calls Tryz.prog 126 #[.slice A ns.length c] w fun e w'=>e= .returned (.bool (bu ns))∧Below w.heap.size w w':=by
 have hmm:= @run_makeMap Tryz.prog;have HH:=hid h;have HL:=hid hl;clear h hl;go_enter Tryz.func126,Tryz.ntmps126;go_wp2
 go_loopw [11] (fun i wr=> ∃k:Nat,k≤ns.length∧i= .int .i64 k∧wr.ownsMap Tryz.prog 9 unitElem w.heap.size k (SdS ns k)∧Hid (uw ns k∧Below w.heap.size w wr)) (fun i _=>ns.length - (intOf i).toNat)
 case atStart=>exact⟨0,Nat.zero_le _,rfl,by rw[ya];exact World.ownsMap_made _ _ _ _,⟨fun i _ h=>absurd h (by omega),by simp⟩,ae _⟩
 case round=>
  obtain⟨k,hk,rfl,hown,HI⟩:=hrel;by_cases hlt:k<ns.length
  ·obtain⟨b,off,rfl,hb,hcells⟩:=HH.out (by omega);obtain⟨hc0,hsz⟩:=hcells k hlt;have hcx:wr.cell? ⟨b,off+k,none⟩=some (.string ns[k]):=(HI.out.2.cell (p:=⟨b,off+k,none⟩) (hS b hb)).trans hc0;have hkey:keyOf Tryz.prog 9 (.string ns[k])=some (ov ns[k]):=Go.WideMaps.keyOf_string_mk Tryz.underlying9 (by unfold maxLen;omega);have HSZ:=hid hsz;have hHas:=zX ns k ns[k];have HBZ:=hid HI.out.2.size;clear hcells hc0 hsz;generalize hgs:ns[k]=s at *;have hlb:=HL.out
   go_wp2_with(first
    |(at_lookup;refine wpList_lookup_own_unit _ rfl _ _ 143 rfl 9 144 Bv Tryz.underlying143 (Bh _) w.heap.size k _ rfl hown _ _ rfl hkey ?_)
    |(go_at_call 159;refine(qS _ _ (by have:=HSZ.out;omega)).mono ?_;rintro e w' ⟨rfl,rfl⟩)
    |(at_mapUpdate;refine wpList_mapUpdate_own _ rfl _ _ _ 143 rfl 9 144 Bv Tryz.underlying143 (unitElem (H:=Unit)) w.heap.size k _ rfl (hown.alloc _) (by have:=HL.out;unfold maxLen;omega) _ _ _ rfl rfl hkey _ [] unitElem_mk ?_;intro w1 hown1 hgrow1)
    |fail)
   ·have ht:Maps.has (SdS ns k) (ov s)=true:=by assumption
    go_ret;exact⟨aM (vY hlt (by rw[hgs];exact hHas.1 ht)),HI.out.2.alloc HBZ.out _⟩
   ·have hn:(!bH s.data.toList)=true:=by assumption
    go_ret;exact⟨aM (zq hlt (by rw[hgs];simpa using hn)),HI.out.2.alloc HBZ.out _⟩
   ·have ht: ¬Maps.has (SdS ns k) (ov s)=true:=by assumption
    have hn:(!bH s.data.toList)=false:=by assumption
    have hb1:Below w.heap.size w w1:=(HI.out.2.alloc HBZ.out _).grown hgrow1 (by have:=HBZ.out;simp;omega) (fun j hj=>by cases hj;exact Nat.le_refl _);have hfin:=Ag ns k hlt;rw[hgs]at hfin
    go_roundw
    case rel=>exact⟨k+1,by omega,by go_num,by rw[hfin];exact hown1,vl HI.out.1 hlt (by rw[hgs];simpa using hn) (by rw[hgs];exact fun h=>ht (hHas.2 h)),hb1⟩
    case measure=>simp[intOf];omega
  ·go_wp2;go_ret;exact⟨aM (yd HI.out.1 (by omega)).symm,HI.out.2⟩
end Go.Proofs.YtgbopnlpaabelaaGreatDoor
