/- Statements whose order Go leaves open, and that hold calls which lay new memory: one walk in an order of one's choice serves all. -/
import Derived.OrdersHeld
import Derived.Lib.QuietBelow
import Derived.BigQuiet
namespace Go.Proofs.Ytipiplnhbecjeaa
set_option linter.unusedVariables false
set_option linter.unusedSimpArgs false
open Go.RowKit Go.Sort

/-- An operation that yields a value and does no more, if it ends. -/
def isPure (o : Oper) : Bool :=
  match o.op with
  | .move _ | .assign _ | .pick .. | .load .. | .binOp .. | .unOp .. | .slice .. | .fieldAddr .. | .field .. | .indexAddr .. | .index .. | .extract .. | .nilCheck _ | .makeFunc .. => true
  | .convert s d _ => s != d
  | .call c => match c.callee with
    | .builtin .len | .builtin .cap | .builtin .min | .builtin .max => true
    | _ => false
  | _ => false

theorem value_of_bind {α : Type} {P : Program} {w w' : World} {s : Sem α} {f : α → Value} {n : Next} (h : (do pure (Next.value (f (← s))) : Sem Next).run P w = .ok n w') : ∃ v, n = .value v := by
  simp only [Sem.run_bind] at h
  cases hs : s.run P w with
  | ok x w1 => rw [hs] at h; simp [Result.andThen, Sem.run_pure] at h; exact ⟨_, h.1.symm⟩
  | halt x w1 => rw [hs] at h; simp [Result.andThen] at h

/-- A computation that yields nothing but values. -/
def VO (s : Sem Next) : Prop := ∀ (P : Program) (w : World) (n : Next) (w' : World), s.run P w = .ok n w' → ∃ v, n = .value v
theorem vo_pure (v : Value) : VO (pure (.value v)) := fun P w n w' h => by simp only [Sem.run_pure, Result.ok.injEq] at h; exact ⟨v, h.1.symm⟩
theorem vo_bind {α : Type} {s : Sem α} {f : α → Sem Next} (h : ∀ a, VO (f a)) : VO (s >>= f) := fun P w n w' hr => by
  rw [Sem.run_bind] at hr
  cases hs : s.run P w with
  | ok x w1 => rw [hs] at hr; exact h x P w1 n w' hr
  | halt x w1 => rw [hs] at hr; simp [Result.andThen] at hr
theorem vo_nil : VO (runtimePanic .nilDeref) := vo_bind fun p P w n w' h => by cases h
theorem vo_unsupported (u : Unsupported) : VO (unsupported u) := fun P w n w' h => by cases h
theorem pure_value {P : Program} {ρ : Operand → Value} {o : Oper} {w w' : World} {n : Next} (hp : isPure o = true) (h : (execOp ρ o).run P w = .ok n w') : ∃ v, n = .value v := by
  obtain ⟨dst, op, ty, pos, after, guard⟩ := o
  unfold isPure at hp
  unfold execOp at h
  cases op <;> simp only [Bool.false_eq_true] at hp <;> simp only [] at h
  case call c =>
    cases hc : c.callee with
    | value f => simp [hc] at hp
    | invoke r m => simp [hc] at hp
    | builtin b =>
      cases b <;> simp [hc] at hp
      all_goals
        simp only [resolve, hc, Sem.run_bind, Sem.run_pure, Result.andThen_ok, invoke, builtin] at h
        exact value_of_bind (f := fun x => x) (by simpa only [Sem.run_bind, Sem.run_pure] using h)
  case pick c a b => exact value_of_bind (f := fun t : Bool => if t then ρ a else ρ b) h
  case makeFunc fn first captured => simp [Instr.makeFunc, Sem.run_pure, Sem.run_bind] at h; exact ⟨_, h.1.symm⟩
  case move x => simp [Sem.run_pure] at h; exact ⟨_, h.1.symm⟩
  case assign x => simp [Sem.run_pure] at h; exact ⟨_, h.1.symm⟩
  case nilCheck x => 
    have hv : VO (execOp ρ ⟨dst, .nilCheck x, ty, pos, after, guard⟩) := by
      unfold execOp
      simp only []
      repeat' split
      all_goals first
        | exact vo_nil
        | exact vo_pure _
        | skip
      refine vo_bind fun p => vo_bind fun q => ?_
      split
      · exact vo_bind fun _ => vo_pure _
      · exact vo_pure _
    exact hv P w n w' (by unfold execOp; exact h)
  all_goals exact value_of_bind (f := fun x => x) h

/-- A world behind w in which nothing below block B has turned. -/
structure Later (B : Nat) (w : World) where
  u : World
  h : Below B w u
instance (B : Nat) (w : World) : Inhabited (Later B w) := ⟨⟨w, Below.refl B w⟩⟩
abbrev CR (B : Nat) (w : World) : World → Prop := fun u => ∃ p : Later B w, u = p.u
theorem cr_of_below {B : Nat} {w u : World} (h : Below B w u) : CR B w u := ⟨⟨u, h⟩, rfl⟩
theorem grow_trans {a b c : World} (h : Below a.heap.size a b) (k : Below b.heap.size b c) : Below a.heap.size a c := h.trans (k.mono h.size)
/-- A bound that does not fall. -/
def Rises (β : World → Nat) : Prop := ∀ w w', Below (β w) w w' → β w ≤ β w'
theorem rises_size : Rises fun w => w.heap.size := fun _ _ h => h.size
theorem rises_const (B : Nat) : Rises fun _ => B := fun _ _ _ => Nat.le_refl _
theorem rise_trans {β : World → Nat} (hβ : Rises β) {a b c : World} (h : Below (β a) a b) (k : Below (β b) b c) : Below (β a) a c := h.trans (k.mono (hβ a b h))

section
variable {P : Program} {ops : Array Oper} {Q : Exit → Act → World → Prop} {md : Region.Mode} {β : World → Nat}

/-- Whatever order is picked from here on, and no step turns what is there. -/
def anyG (β : World → Nat) (P : Program) (md : Region.Mode) (ops : Array Oper) (Q : Exit → Act → World → Prop) : Nat → Array Bool → Act → World → Prop
  | 0, listed, a, w => Region.ready md ops listed = [] ∧ Q .normal a w
  | f + 1, listed, a, w => (Region.ready md ops listed = [] → Q .normal a w) ∧
      ∀ i ∈ Region.ready md ops listed, wpOp P ops Q i (fun a' w' => Below (β w) w w' ∧ anyG β P md ops Q f (listed.setIfInBounds i true) a' w') a w

theorem any_of_anyG : ∀ (f : Nat) (listed : Array Bool) (a : Act) (w : World), anyG β P md ops Q f listed a w → wpAny P md ops Q f listed a w
  | 0, _, _, _, h => h
  | f + 1, _, _, _, h => ⟨h.1, fun i hi => wpOp_mono (fun a' w' h' => any_of_anyG f _ a' w' h'.2) (h.2 i hi)⟩

theorem yields_later (hβ : Rises β) {o : Oper} {v : Value} {a : Act} {w w' : World} (hb : Below (β w) w w') (h : YieldsIf P ops (fun u => Below (β w) w u) o v a) :
    YieldsIf P ops (fun u => Below (β w') w' u) o v a :=
  h.imp (fun ⟨h1, h2⟩ => ⟨h1, fun u hu => h2 u (rise_trans hβ hb hu)⟩) id

/-- What yields one value from now on, whatever is laid, may be taken first. -/
theorem anyG_first (hβ : Rises β) {i : Nat} {oi : Oper} {v : Value} (hi : ops[i]? = some oi) (hsel : Region.noSelect ops = true) (hQ : ∀ c d v a w, Q (.panic c) (Act.put a d v) w → Q (.panic c) a w) :
    ∀ (f : Nat) (listed : Array Bool) (a : Act) (w : World),
      (∀ j oj, ops[j]? = some oj → j ≠ i → listed.getD j true = false → (∀ e ∈ oj.after, Region.binds md e = true → e.on ≠ i) → oi.apart ops oj = true) →
      i ∈ Region.ready md ops listed → YieldsIf P ops (fun u => Below (β w) w u) oi v a →
      anyG β P md ops Q f (listed.setIfInBounds i true) (a.put oi.dst v) w → anyG β P md ops Q (f + 1) listed a w := by
  intro f
  induction f with
  | zero =>
    intro listed a w _ hr hy H
    refine ⟨fun h => absurd hr (by rw [h]; exact List.not_mem_nil), fun j hj => ?_⟩
    by_cases hji : j = i
    · subst hji; exact hy.wpOp hi (Below.refl _ _) ⟨Below.refl _ _, H⟩
    · exact absurd (ready_mono hj hji) (by rw [H.1]; exact List.not_mem_nil)
  | succ f ih =>
    intro listed a w hfree hr hy H
    refine ⟨fun h => absurd hr (by rw [h]; exact List.not_mem_nil), fun j hj => ?_⟩
    by_cases hji : j = i
    · subst hji; exact hy.wpOp hi (Below.refl _ _) ⟨Below.refl _ _, H⟩
    · obtain ⟨hjun, oj, hoj, hall⟩ := mem_ready.1 hj
      have hnot : ∀ e ∈ oj.after, Region.binds md e = true → e.on ≠ i := by
        intro e he hb heq
        have h1 := hall e he hb
        have h0 := (mem_ready.1 hr).1
        rw [heq] at h1
        rcases Nat.lt_or_ge i listed.size with h' | h'
        · simp [h'] at h0 h1; rw [h0] at h1; cases h1
        · simp [Array.getElem?_eq_none h'] at h1
      have h2 := wpOp_putIf (S := fun u => Below (β w) w u) hoj (hfree j oj hoj hji hjun hnot) (fun cs b => Region.noSelect_spec hsel i oi cs b hi) (fun cs b => Region.noSelect_spec hsel j oj cs b hoj)
        (fun c a w => hQ c oi.dst v a w) hy (H.2 j (ready_mono hj hji))
      refine wpOp_mono (fun a' w' h3 => ⟨h3.2.1, ih (listed.setIfInBounds j true) a' w' ?_ (ready_mono hr (Ne.symm hji)) (yields_later hβ h3.2.1 h3.1) ?_⟩) h2
      · intro k ok hk hki hun hno
        refine hfree k ok hk hki ?_ hno
        by_cases hjk : j = k
        · subst hjk; exact hjun
        · rw [getD_set_ne true hjk] at hun; exact hun
      · rw [Array.setIfInBounds_comm _ _ hji]
        exact h3.2.2

/-- May the operations be walked in this order: each comes up; one that only yields may be taken first; any other one is the only one that can come up. -/
def okFrom (md : Region.Mode) (ops : Array Oper) : List Nat → Array Bool → Bool
  | [], listed => (Region.ready md ops listed).isEmpty
  | i :: r, listed =>
    match ops[i]? with
    | none => false
    | some o => (Region.ready md ops listed).contains i && (if isPure o then Region.free md ops listed i else Region.ready md ops listed == [i]) && okFrom md ops r (listed.setIfInBounds i true)

def okOrd (ops : Array Oper) (ord : List Nat) : Bool := Region.noSelect ops && ord.length == ops.size && okFrom .any ops ord (Array.replicate ops.size false)

/-- The walk in an order of one's choice. -/
def wpMix (β : World → Nat) (P : Program) (ops : Array Oper) (Q : Exit → Act → World → Prop) : List Oper → Act → World → Prop
  | [], a, w => Q .normal a w
  | o :: rest, a, w =>
    if Region.wanted o (yielded ops a.tmps) then
      (if isPure o then o.quiet P a (CR (β w) w) (fun a' => wpMix β P ops Q rest a' w)
       else o.wp P a w (fun a' w' => Below (β w) w w' ∧ wpMix β P ops Q rest a' w') Q)
    else wpMix β P ops Q rest (a.put o.dst undef) w

def atNats (ops : Array Oper) (ord : List Nat) : List Oper := ord.filterMap fun i => ops[i]?

theorem yields_of_quiet {o : Oper} {v : Value} {a : Act} {w : World} (hp : isPure o = true) (hw : Region.wanted o (yielded ops a.tmps) = true) (h : ∀ u, CR (β w) w u → o.quietAt P a (CR (β w) w) u v) :
    YieldsIf P ops (fun u => Below (β w) w u) o v a := by
  refine .inl ⟨hw, fun u hu => ?_⟩
  have h1 := h u (cr_of_below hu)
  unfold Oper.quietAt at h1
  cases hr : (execOp a.eval o).run P u with
  | halt x u' => rw [hr] at h1; exact absurd h1 (by simp [Oper.quietUpon])
  | ok n u' =>
    obtain ⟨x, rfl⟩ := pure_value hp hr
    rw [hr] at h1
    obtain ⟨rfl, rfl⟩ := h1
    rfl

theorem anyG_of_mix (hβ : Rises β) (hsel : Region.noSelect ops = true) (hQ : ∀ c d v a w, Q (.panic c) (Act.put a d v) w → Q (.panic c) a w) :
    ∀ (ord : List Nat) (listed : Array Bool) (a : Act) (w : World), okFrom md ops ord listed = true → wpMix β P ops Q (atNats ops ord) a w → anyG β P md ops Q ord.length listed a w
  | [], listed, a, w, hB, h => ⟨by simpa [okFrom] using hB, h⟩
  | i :: r, listed, a, w, hB, h => by
    unfold okFrom at hB
    cases ho : ops[i]? with
    | none => rw [ho] at hB; simp at hB
    | some o =>
      rw [ho] at hB
      simp only [Bool.and_eq_true] at hB
      obtain ⟨⟨hr, hk⟩, hB'⟩ := hB
      have hr' : i ∈ Region.ready md ops listed := by simpa using hr
      have e : atNats ops (i :: r) = o :: atNats ops r := by simp [atNats, ho]
      rw [e] at h
      unfold wpMix at h
      by_cases hp : isPure o = true
      · rw [if_pos hp] at hk
        by_cases hw : Region.wanted o (yielded ops a.tmps) = true
        · rw [if_pos hw, if_pos hp] at h
          obtain ⟨v, h1, h2⟩ := h
          exact anyG_first hβ ho hsel hQ _ listed a w (Region.free_spec ho hk) hr' (yields_of_quiet hp hw h1) (anyG_of_mix hβ hsel hQ r _ _ w hB' h2)
        · rw [if_neg hw] at h
          exact anyG_first hβ ho hsel hQ _ listed a w (Region.free_spec ho hk) hr' (.inr ⟨by simpa using hw, rfl⟩) (anyG_of_mix hβ hsel hQ r _ _ w hB' h)
      · rw [if_neg hp] at hk
        have hk' : Region.ready md ops listed = [i] := by simpa using hk
        refine ⟨fun h0 => absurd hr' (by rw [h0]; exact List.not_mem_nil), fun j hj => ?_⟩
        rw [hk'] at hj
        obtain rfl : j = i := by simpa using hj
        unfold wpOp
        simp only [ho]
        by_cases hw : Region.wanted o (yielded ops a.tmps) = true
        · rw [if_pos hw, if_neg hp] at h
          rw [if_pos hw]
          exact .inl (Oper.wp_mono (fun a' w' h' => ⟨h'.1, anyG_of_mix hβ hsel hQ r _ a' w' hB' h'.2⟩) h)
        · rw [if_neg hw] at h
          rw [if_neg hw]
          exact ⟨Below.refl _ _, anyG_of_mix hβ hsel hQ r _ _ w hB' h⟩

theorem region_mix (hβ : Rises β) {id : Nat} {a : Act} {w : World} (ord : List Nat) (hm : P.follows .mixedOrders = true) (hB : okOrd ops ord = true) (hQ : ∀ c d v a w, Q (.panic c) (Act.put a d v) w → Q (.panic c) a w)
    (h : wpMix β P ops Q (atNats ops ord) a w.drew) : (Code.region id ops true).wp P Q a w := by
  unfold okOrd at hB
  simp only [Bool.and_eq_true, beq_iff_eq] at hB
  refine wp_region_any hm (any_of_anyG (β := β) _ _ _ _ ?_)
  have := anyG_of_mix (md := .any) hβ hB.1.1 hQ ord _ a w.drew hB.2 h
  rw [hB.1.2] at this
  exact this
/-- One walk, in the order that is named, serves every order: nothing that is there may turn. -/
theorem wp_region_mix {id : Nat} {a : Act} {w : World} (ord : List Nat) (hm : P.follows .mixedOrders = true) (hB : okOrd ops ord = true) (hQ : ∀ c d v a w, Q (.panic c) (Act.put a d v) w → Q (.panic c) a w)
    (h : wpMix (fun w => w.heap.size) P ops Q (atNats ops ord) a w.drew) : (Code.region id ops true).wp P Q a w := region_mix rises_size ord hm hB hQ h
/-- The same: nothing below block B may turn. -/
theorem wp_region_mixB (B : Nat) {id : Nat} {a : Act} {w : World} (ord : List Nat) (hm : P.follows .mixedOrders = true) (hB : okOrd ops ord = true) (hQ : ∀ c d v a w, Q (.panic c) (Act.put a d v) w → Q (.panic c) a w)
    (h : wpMix (fun _ => B) P ops Q (atNats ops ord) a w.drew) : (Code.region id ops true).wp P Q a w := region_mix (rises_const B) ord hm hB hQ h

/-- The next operations that only yield, by the quiet walk. -/
theorem mix_seg {a : Act} {w : World} : ∀ (seg rest : List Oper) (a : Act), seg.all isPure = true → wpQuiet P ops (CR (β w) w) (fun a' => wpMix β P ops Q rest a' w) seg a → wpMix β P ops Q (seg ++ rest) a w
  | [], rest, a, _, h => h
  | o :: seg, rest, a, hp, h => by
    simp only [List.all_cons, Bool.and_eq_true] at hp
    rw [List.cons_append]
    unfold wpMix
    unfold wpQuiet at h
    by_cases hw : Region.wanted o (yielded ops a.tmps) = true
    · rw [if_pos hw] at h
      rw [if_pos hw, if_pos hp.1]
      obtain ⟨v, h1, h2⟩ := h
      exact ⟨v, h1, mix_seg (a := a) seg rest _ hp.2 h2⟩
    · rw [if_neg hw] at h
      rw [if_neg hw]
      exact mix_seg (a := a) seg rest _ hp.2 h
theorem all_takeWhile (l : List Oper) : (l.takeWhile isPure).all isPure = true := by
  induction l with
  | nil => rfl
  | cons o l ih =>
    rw [List.takeWhile_cons]
    split
    · next h => simp only [List.all_cons, Bool.and_eq_true]; exact ⟨h, ih⟩
    · rfl
theorem mix_pureAny {l : List Oper} {a : Act} {w : World} (h : wpQuiet P ops (CR (β w) w) (fun a' => wpMix β P ops Q (l.dropWhile isPure) a' w) (l.takeWhile isPure) a) : wpMix β P ops Q l a w := by
  have := mix_seg (a := a) _ (l.dropWhile isPure) a (all_takeWhile l) h
  rwa [List.takeWhile_append_dropWhile] at this
theorem mix_pure {l : List Oper} {a : Act} {w : World} (h : wpQuiet P ops (CR w.heap.size w) (fun a' => wpMix (fun w => w.heap.size) P ops Q (l.dropWhile isPure) a' w) (l.takeWhile isPure) a) : wpMix (fun w => w.heap.size) P ops Q l a w := mix_pureAny h
theorem mix_pureB {B : Nat} {l : List Oper} {a : Act} {w : World} (h : wpQuiet P ops (CR B w) (fun a' => wpMix (fun _ => B) P ops Q (l.dropWhile isPure) a' w) (l.takeWhile isPure) a) : wpMix (fun _ => B) P ops Q l a w := mix_pureAny h
/-- The next operation, a call. -/
theorem mix_callAny {o : Oper} {rest : List Oper} {a : Act} {w : World} (hp : isPure o = false)
    (h : ∀ K : Act → World → Prop, (∀ a' w', Below (β w) w w' → wpMix β P ops Q rest a' w' → K a' w') → if Region.wanted o (yielded ops a.tmps) = true then o.wp P a w K Q else K (a.put o.dst undef) w) : wpMix β P ops Q (o :: rest) a w := by
  have h1 := h (fun a' w' => Below (β w) w w' ∧ wpMix β P ops Q rest a' w') (fun a' w' h1 h2 => ⟨h1, h2⟩)
  unfold wpMix
  by_cases hw : Region.wanted o (yielded ops a.tmps) = true
  · rw [if_pos hw] at h1
    rw [if_pos hw, if_neg (by rw [hp]; exact Bool.false_ne_true)]
    exact h1
  · rw [if_neg hw] at h1
    rw [if_neg hw]
    exact h1.2
theorem mix_call {o : Oper} {rest : List Oper} {a : Act} {w : World} (hp : isPure o = false)
    (h : ∀ K : Act → World → Prop, (∀ a' w', Below w.heap.size w w' → wpMix (fun w => w.heap.size) P ops Q rest a' w' → K a' w') → if Region.wanted o (yielded ops a.tmps) = true then o.wp P a w K Q else K (a.put o.dst undef) w) : wpMix (fun w => w.heap.size) P ops Q (o :: rest) a w := mix_callAny hp h
theorem mix_callB {B : Nat} {o : Oper} {rest : List Oper} {a : Act} {w : World} (hp : isPure o = false)
    (h : ∀ K : Act → World → Prop, (∀ a' w', Below B w w' → wpMix (fun _ => B) P ops Q rest a' w' → K a' w') → if Region.wanted o (yielded ops a.tmps) = true then o.wp P a w K Q else K (a.put o.dst undef) w) : wpMix (fun _ => B) P ops Q (o :: rest) a w := mix_callAny hp h
end
/-- What runs to one result in every world in which nothing has turned, as a rule for the quiet walk. -/
theorem run_later {α : Type} {P : Program} {B : Nat} {w : World} {s : Sem α} {r : α} (h : ∀ u, Below B w u → s.run P u = .ok r u) : ∀ p : Later B w, s.run P p.u = .ok r p.u := fun p => h p.u p.h
theorem below_undrew {w w' : World} (h : Below w.drew.heap.size w.drew w') : Below w.heap.size w w' := ⟨h.os, h.tape, h.output, h.size, h.block⟩
theorem cell_later {B : Nat} {w : World} {a : Addr} {v : Value} (h : w.cell? a = some v) (hB : a.block < B) : ∀ p : Later B w, p.u.cell? a = some v := fun p => (p.h.cell hB).trans h
end Go.Proofs.Ytipiplnhbecjeaa

/- Statements whose order Go leaves open, walked as they stand in the text: the same rule with a check that is soon done for long ones. -/
namespace Go.Proofs.Ytipiplnhbecjeaa
set_option linter.unusedVariables false
set_option linter.unusedSimpArgs false
open Go.RowKit Go.Sort

/-- An operation that waits for one at i or behind it. -/
def late (md : Region.Mode) (i : Nat) (p : Oper) : Bool := p.after.toList.any fun e => Region.binds md e && Nat.ble i e.on
def lexFrom (md : Region.Mode) (ops : Array Oper) : Nat → List Oper → Bool
  | _, [] => true
  | i, o :: r => (o.after.toList.all fun e => !Region.binds md e || Nat.blt e.on i) && (r.all (late md i) || (isPure o && r.all fun p => (p.after.toList.any fun e => Region.binds md e && Nat.beq e.on i) || o.apart ops p)) && lexFrom md ops (i + 1) r

structure FirstN (listed : Array Bool) (n i : Nat) : Prop where
  sz : listed.size = n
  at_ : ∀ k, k < n → listed[k]? = some (decide (k < i))
theorem FirstN.step {listed : Array Bool} {n i : Nat} (h : FirstN listed n i) (hi : i < n) : FirstN (listed.setIfInBounds i true) n (i + 1) := by
  refine ⟨by simp [h.sz], fun k hk => ?_⟩
  by_cases hki : i = k
  · subst hki; simp [h.sz, hi]
  · rw [Array.getElem?_setIfInBounds_ne hki, h.at_ k hk]
    congr 1
    simp only [decide_eq_decide]; omega
theorem FirstN.getD {listed : Array Bool} {n i : Nat} (h : FirstN listed n i) (k : Nat) (x : Bool) : listed.getD k x = if k < n then decide (k < i) else x := by
  rw [Array.getD_eq_getD_getElem?]
  by_cases hk : k < n
  · rw [h.at_ k hk, if_pos hk]; rfl
  · rw [if_neg hk, Array.getElem?_eq_none (by rw [h.sz]; omega)]; rfl

section
variable {P : Program} {ops : Array Oper} {Q : Exit → Act → World → Prop} {md : Region.Mode} {β : World → Nat}
theorem anyG_one {i : Nat} {oi : Oper} {v : Value} (hi : ops[i]? = some oi) (f : Nat) (listed : Array Bool) (a : Act) (w : World) (hr : i ∈ Region.ready md ops listed) (ho : ∀ j ∈ Region.ready md ops listed, j = i)
    (hy : YieldsIf P ops (fun u => Below (β w) w u) oi v a) (H : anyG β P md ops Q f (listed.setIfInBounds i true) (a.put oi.dst v) w) : anyG β P md ops Q (f + 1) listed a w :=
  ⟨fun h => absurd hr (by rw [h]; exact List.not_mem_nil), fun j hj => by
    obtain rfl := ho j hj
    exact hy.wpOp hi (Below.refl _ _) ⟨Below.refl _ _, H⟩⟩

theorem anyG_of_lex (hβ : Rises β) (hsel : Region.noSelect ops = true) (hQ : ∀ c d v a w, Q (.panic c) (Act.put a d v) w → Q (.panic c) a w) :
    ∀ (r : List Oper) (i : Nat) (listed : Array Bool) (a : Act) (w : World), r = ops.toList.drop i → i ≤ ops.size → FirstN listed ops.size i → lexFrom md ops i r = true → wpMix β P ops Q r a w → anyG β P md ops Q r.length listed a w
  | [], i, listed, a, w, hr, hi, hf, hB, h => by
    have hlen : ops.size ≤ i := by
      have := congrArg List.length hr
      simp at this; omega
    refine ⟨?_, h⟩
    refine List.eq_nil_iff_forall_not_mem.2 fun j hj => ?_
    obtain ⟨h1, o, h2, -⟩ := mem_ready.1 hj
    have hjn := (Array.getElem?_eq_some_iff.1 h2).1
    rw [hf.getD, if_pos hjn] at h1
    simp at h1; omega
  | o :: r, i, listed, a, w, hr, hi, hf, hB, h => by
    have hin : i < ops.size := by
      have := congrArg List.length hr
      simp at this; omega
    have hoi : ops[i]? = some o := by
      have := congrArg (fun l => l[0]?) hr
      simp at this; exact this.symm
    have hr' : r = ops.toList.drop (i + 1) := by
      have := congrArg List.tail hr
      simpa using this
    have hat : ∀ j oj, ops[j]? = some oj → i < j → oj ∈ r := fun j oj hj hij => by
      rw [hr']
      refine List.mem_iff_getElem?.2 ⟨j - (i + 1), ?_⟩
      rw [List.getElem?_drop]
      have : i + 1 + (j - (i + 1)) = j := by omega
      rw [this]; simpa using hj
    unfold lexFrom at hB
    simp only [Bool.and_eq_true] at hB
    obtain ⟨⟨hE, hk⟩, hB'⟩ := hB
    have hrd : i ∈ Region.ready md ops listed := by
      refine mem_ready.2 ⟨by rw [hf.getD, if_pos hin]; simp, o, hoi, fun e he hb => ?_⟩
      have := List.all_eq_true.1 hE e (by simpa using he)
      rw [hb] at this
      simp at this
      have h3 : e.on < i := by simpa [Nat.blt_eq] using this
      rw [hf.getD, if_pos (by omega)]; simpa using h3
    have hun : ∀ j oj, ops[j]? = some oj → j ≠ i → listed.getD j true = false → i < j := fun j oj hj hne hu => by
      rw [hf.getD, if_pos (Array.getElem?_eq_some_iff.1 hj).1] at hu
      simp at hu; omega
    have hF := hf.step hin
    unfold wpMix at h
    simp only [Bool.or_eq_true] at hk
    rcases hk with hk | hk
    · have hone : ∀ j ∈ Region.ready md ops listed, j = i := fun j hj => by
        obtain ⟨h1, oj, h2, h3⟩ := mem_ready.1 hj
        refine Classical.byContradiction fun hne => ?_
        have hm := hat j oj h2 (hun j oj h2 hne h1)
        have hl := List.all_eq_true.1 hk oj hm
        unfold late at hl
        obtain ⟨e, he, hb⟩ := List.any_eq_true.1 hl
        simp only [Bool.and_eq_true, Nat.ble_eq] at hb
        have := h3 e (by simpa using he) hb.1
        rw [hf.getD] at this
        split at this
        · simp at this; omega
        · cases this
      by_cases hw : Region.wanted o (yielded ops a.tmps) = true
      · by_cases hp : isPure o = true
        · rw [if_pos hw, if_pos hp] at h
          obtain ⟨v, h1, h2⟩ := h
          exact anyG_one hoi _ listed a w hrd hone (yields_of_quiet hp hw h1) (anyG_of_lex hβ hsel hQ r (i + 1) _ _ w hr' (by omega) hF hB' h2)
        · rw [if_pos hw, if_neg hp] at h
          refine ⟨fun h0 => absurd hrd (by rw [h0]; exact List.not_mem_nil), fun j hj => ?_⟩
          obtain rfl := hone j hj
          unfold wpOp
          simp only [hoi]
          rw [if_pos hw]
          exact .inl (Oper.wp_mono (fun a' w' h' => ⟨h'.1, anyG_of_lex hβ hsel hQ r (j + 1) _ a' w' hr' (by omega) hF hB' h'.2⟩) h)
      · rw [if_neg hw] at h
        exact anyG_one hoi _ listed a w hrd hone (.inr ⟨by simpa using hw, rfl⟩) (anyG_of_lex hβ hsel hQ r (i + 1) _ _ w hr' (by omega) hF hB' h)
    · simp only [Bool.and_eq_true] at hk
      obtain ⟨hp, hk⟩ := hk
      have hfree : ∀ j oj, ops[j]? = some oj → j ≠ i → listed.getD j true = false → (∀ e ∈ oj.after, Region.binds md e = true → e.on ≠ i) → o.apart ops oj = true := fun j oj hj hne hu hno => by
        have hl := List.all_eq_true.1 hk oj (hat j oj hj (hun j oj hj hne hu))
        simp only [Bool.or_eq_true] at hl
        rcases hl with hl | hl
        · obtain ⟨e, he, hb⟩ := List.any_eq_true.1 hl
          simp only [Bool.and_eq_true] at hb
          exact absurd (Nat.eq_of_beq_eq_true hb.2) (hno e (by simpa using he) hb.1)
        · exact hl
      by_cases hw : Region.wanted o (yielded ops a.tmps) = true
      · rw [if_pos hw, if_pos hp] at h
        obtain ⟨v, h1, h2⟩ := h
        exact anyG_first hβ hoi hsel hQ _ listed a w hfree hrd (yields_of_quiet hp hw h1) (anyG_of_lex hβ hsel hQ r (i + 1) _ _ w hr' (by omega) hF hB' h2)
      · rw [if_neg hw] at h
        exact anyG_first hβ hoi hsel hQ _ listed a w hfree hrd (.inr ⟨by simpa using hw, rfl⟩) (anyG_of_lex hβ hsel hQ r (i + 1) _ _ w hr' (by omega) hF hB' h)

def okLex (ops : List Oper) : Bool := Region.noSelect ops.toArray && lexFrom .any ops.toArray 0 ops
theorem region_lex (hβ : Rises β) {l : List Oper} {id : Nat} {a : Act} {w : World} (hm : P.follows .mixedOrders = true) (hB : okLex l = true) (hQ : ∀ c d v a w, Q (.panic c) (Act.put a d v) w → Q (.panic c) a w)
    (h : wpMix β P l.toArray Q l a w.drew) : (Code.region id l.toArray true).wp P Q a w := by
  unfold okLex at hB
  simp only [Bool.and_eq_true] at hB
  refine wp_region_any hm (any_of_anyG (β := β) _ _ _ _ ?_)
  have := anyG_of_lex (md := .any) (ops := l.toArray) hβ hB.1 hQ l 0 (Array.replicate l.toArray.size false) a w.drew (by simp) (Nat.zero_le _) ⟨by simp, fun k hk => by simp at hk; simp [hk]⟩ hB.2 h
  simpa using this
/-- One walk, as the text stands, serves every order: nothing that is there may turn. -/
theorem wp_region_lex {l : List Oper} {id : Nat} {a : Act} {w : World} (hm : P.follows .mixedOrders = true) (hB : okLex l = true) (hQ : ∀ c d v a w, Q (.panic c) (Act.put a d v) w → Q (.panic c) a w)
    (h : wpMix (fun w => w.heap.size) P l.toArray Q l a w.drew) : (Code.region id l.toArray true).wp P Q a w := region_lex rises_size hm hB hQ h
/-- The same: nothing below block B may turn. -/
theorem wp_region_lexB (B : Nat) {l : List Oper} {id : Nat} {a : Act} {w : World} (hm : P.follows .mixedOrders = true) (hB : okLex l = true) (hQ : ∀ c d v a w, Q (.panic c) (Act.put a d v) w → Q (.panic c) a w)
    (h : wpMix (fun _ => B) P l.toArray Q l a w.drew) : (Code.region id l.toArray true).wp P Q a w := region_lex (rises_const B) hm hB hQ h
end
end Go.Proofs.Ytipiplnhbecjeaa

/- Statements whose order Go leaves open, where two operations that do more than yield may come in either order: a walk along a tree of orders, with a relation of one's choice for what must stay while something that only yields is waited for. -/
namespace Go.Proofs.Ytipiplnhbecjeaa
set_option linter.unusedVariables false
set_option linter.unusedSimpArgs false
open Go.RowKit Go.Sort

/-- A world behind w by the relation R. -/
structure LaterR (R : World → World → Prop) (w : World) where
  u : World
  h : R w u
abbrev CRR (R : World → World → Prop) (w : World) : World → Prop := fun u => ∃ p : LaterR R w, u = p.u

/-- A tree of orders: what only yields, as a list (what yields in every world: free); one that is the only one to come up; either of two; at the end those that nothing else is left beside. -/
inductive OT where
  | tail (l : List Nat) : OT
  | pure (l : List Nat) (t : OT) : OT
  | free (l : List Nat) (t : OT) : OT
  | step (i : Nat) (t : OT) : OT
  | fork (i : Nat) (a : OT) (j : Nat) (b : OT) : OT

section
variable {P : Program} {ops : Array Oper} {Q : Exit → Act → World → Prop} {md : Region.Mode} {R : World → World → Prop} {T : List Nat}

def anyR (R : World → World → Prop) (T : List Nat) (P : Program) (md : Region.Mode) (ops : Array Oper) (Q : Exit → Act → World → Prop) : Nat → Array Bool → Act → World → Prop
  | 0, listed, a, w => Region.ready md ops listed = [] ∧ Q .normal a w
  | f + 1, listed, a, w => (Region.ready md ops listed = [] → Q .normal a w) ∧
      ∀ i ∈ Region.ready md ops listed, wpOp P ops Q i (fun a' w' => (i ∈ T ∨ R w w') ∧ anyR R T P md ops Q f (listed.setIfInBounds i true) a' w') a w
theorem any_of_anyR : ∀ (f : Nat) (listed : Array Bool) (a : Act) (w : World), anyR R T P md ops Q f listed a w → wpAny P md ops Q f listed a w
  | 0, _, _, _, h => h
  | f + 1, _, _, _, h => ⟨h.1, fun i hi => wpOp_mono (fun a' w' h' => any_of_anyR f _ a' w' h'.2) (h.2 i hi)⟩

/-- Does each of the last ones wait for i. -/
def lastWait (md : Region.Mode) (ops : Array Oper) (T : List Nat) (i : Nat) : Bool := T.all fun j => match ops[j]? with
  | none => true
  | some o => o.after.toList.any fun e => Region.binds md e && Nat.beq e.on i

theorem anyR_first (hrr : ∀ w, R w w) (R2 : World → World → Prop) (hrr2 : ∀ w, R2 w w) (htr : ∀ a b c, R2 a b → R2 b c → R2 a c) {i : Nat} {oi : Oper} {v : Value} (hi : ops[i]? = some oi) (hT0 : (lastWait md ops T i = true ∧ ∀ a b, R a b → R2 a b) ∨ ∀ a b, R2 a b) (hsel : Region.noSelect ops = true) (hQ : ∀ c d v a w, Q (.panic c) (Act.put a d v) w → Q (.panic c) a w) :
    ∀ (f : Nat) (listed : Array Bool) (a : Act) (w : World),
      (∀ j oj, ops[j]? = some oj → j ≠ i → listed.getD j true = false → (∀ e ∈ oj.after, Region.binds md e = true → e.on ≠ i) → oi.apart ops oj = true) →
      i ∈ Region.ready md ops listed → YieldsIf P ops (fun u => R2 w u) oi v a →
      anyR R T P md ops Q f (listed.setIfInBounds i true) (a.put oi.dst v) w → anyR R T P md ops Q (f + 1) listed a w := by
  intro f
  induction f with
  | zero =>
    intro listed a w _ hr hy H
    refine ⟨fun h => absurd hr (by rw [h]; exact List.not_mem_nil), fun j hj => ?_⟩
    by_cases hji : j = i
    · subst hji; exact hy.wpOp hi (hrr2 _) ⟨.inr (hrr _), H⟩
    · exact absurd (ready_mono hj hji) (by rw [H.1]; exact List.not_mem_nil)
  | succ f ih =>
    intro listed a w hfree hr hy H
    refine ⟨fun h => absurd hr (by rw [h]; exact List.not_mem_nil), fun j hj => ?_⟩
    by_cases hji : j = i
    · subst hji; exact hy.wpOp hi (hrr2 _) ⟨.inr (hrr _), H⟩
    · obtain ⟨hjun, oj, hoj, hall⟩ := mem_ready.1 hj
      have hnot : ∀ e ∈ oj.after, Region.binds md e = true → e.on ≠ i := by
        intro e he hb heq
        have h1 := hall e he hb
        have h0 := (mem_ready.1 hr).1
        rw [heq] at h1
        rcases Nat.lt_or_ge i listed.size with h' | h'
        · simp [h'] at h0 h1; rw [h0] at h1; cases h1
        · simp [Array.getElem?_eq_none h'] at h1
      have hjT : lastWait md ops T i = true → j ∉ T := by
        intro hT hm
        have h1 := List.all_eq_true.1 hT j hm
        rw [hoj] at h1
        obtain ⟨e, he, hb⟩ := List.any_eq_true.1 h1
        simp only [Bool.and_eq_true] at hb
        exact hnot e (by simpa using he) hb.1 (Nat.eq_of_beq_eq_true hb.2)
      have h2 := wpOp_putIf (S := fun u => R2 w u) hoj (hfree j oj hoj hji hjun hnot) (fun cs b => Region.noSelect_spec hsel i oi cs b hi) (fun cs b => Region.noSelect_spec hsel j oj cs b hoj)
        (fun c a w => hQ c oi.dst v a w) hy (H.2 j (ready_mono hj hji))
      refine wpOp_mono (fun a' w' h3 => ?_) h2
      have hR : R2 w w' := by
        rcases hT0 with ⟨hT, himp⟩ | hall
        · exact himp _ _ (h3.2.1.resolve_left (hjT hT))
        · exact hall _ _
      refine ⟨h3.2.1, ih (listed.setIfInBounds j true) a' w' ?_ (ready_mono hr (Ne.symm hji)) (h3.1.imp (fun ⟨h1, h2⟩ => ⟨h1, fun u hu => h2 u (htr _ _ _ hR hu)⟩) id) ?_⟩
      · intro k ok hk hki hun hno
        refine hfree k ok hk hki ?_ hno
        by_cases hjk : j = k
        · subst hjk; exact hjun
        · rw [getD_set_ne true hjk] at hun; exact hun
      · rw [Array.setIfInBounds_comm _ _ hji]
        exact h3.2.2

/-! ### the tree, checked -/
def okTail (md : Region.Mode) (ops : Array Oper) (T : List Nat) : Nat → List Nat → Array Bool → Bool
  | 0, [], listed => (Region.ready md ops listed).isEmpty
  | f + 1, i :: r, listed => (ops[i]?).isSome && Region.ready md ops listed == [i] && T.contains i && okTail md ops T f r (listed.setIfInBounds i true)
  | _, _, _ => false
def okPure (all : Bool) (md : Region.Mode) (ops : Array Oper) (T : List Nat) : List Nat → Array Bool → Bool
  | [], _ => true
  | i :: r, listed => match ops[i]? with
    | none => false
    | some o => isPure o && (Region.ready md ops listed).contains i && Region.free md ops listed i && (all || lastWait md ops T i) && okPure all md ops T r (listed.setIfInBounds i true)
def setAll (l : List Nat) (listed : Array Bool) : Array Bool := l.foldl (fun x i => x.setIfInBounds i true) listed
def okOT (md : Region.Mode) (ops : Array Oper) (T : List Nat) : Nat → OT → Array Bool → Bool
  | f, .tail l, listed => okTail md ops T f l listed
  | f, .pure l t, listed => l.length ≤ f && okPure false md ops T l listed && okOT md ops T (f - l.length) t (setAll l listed)
  | f, .free l t, listed => l.length ≤ f && okPure true md ops T l listed && okOT md ops T (f - l.length) t (setAll l listed)
  | f, .step i t, listed => 1 ≤ f && (ops[i]?).isSome && Region.ready md ops listed == [i] && okOT md ops T (f - 1) t (listed.setIfInBounds i true)
  | f, .fork i a j b, listed => 1 ≤ f && (ops[i]?).isSome && (ops[j]?).isSome && Region.ready md ops listed == [i, j] && okOT md ops T (f - 1) a (listed.setIfInBounds i true) && okOT md ops T (f - 1) b (listed.setIfInBounds j true)

/-! ### the walk -/
def wpStepR (P : Program) (ops : Array Oper) (Q : Exit → Act → World → Prop) (o : Oper) (K : Act → World → Prop) (a : Act) (w : World) : Prop :=
  if Region.wanted o (yielded ops a.tmps) then o.wp P a w K Q else K (a.put o.dst undef) w
def wpTail (P : Program) (ops : Array Oper) (Q : Exit → Act → World → Prop) : List Oper → Act → World → Prop
  | [], a, w => Q .normal a w
  | o :: r, a, w => wpStepR P ops Q o (wpTail P ops Q r) a w
abbrev Always : World → World → Prop := fun _ _ => True
instance (w : World) : Inhabited (LaterR Always w) := ⟨⟨w, trivial⟩⟩
def wpOT (R : World → World → Prop) (T : List Nat) (P : Program) (ops : Array Oper) (Q : Exit → Act → World → Prop) : OT → Act → World → Prop
  | .tail l, a, w => wpTail P ops Q (atNats ops l) a w
  | .pure l t, a, w => wpQuiet P ops (CRR R w) (fun a' => wpOT R T P ops Q t a' w) (atNats ops l) a
  | .free l t, a, w => wpQuiet P ops (CRR Always w) (fun a' => wpOT R T P ops Q t a' w) (atNats ops l) a
  | .step i t, a, w => ∀ o, ops[i]? = some o → wpStepR P ops Q o (fun a' w' => (i ∈ T ∨ R w w') ∧ wpOT R T P ops Q t a' w') a w
  | .fork i x j y, a, w => (∀ o, ops[i]? = some o → wpStepR P ops Q o (fun a' w' => (i ∈ T ∨ R w w') ∧ wpOT R T P ops Q x a' w') a w) ∧ (∀ o, ops[j]? = some o → wpStepR P ops Q o (fun a' w' => (j ∈ T ∨ R w w') ∧ wpOT R T P ops Q y a' w') a w)

theorem wpOp_of_step {i : Nat} {o : Oper} {K : Act → World → Prop} {a : Act} {w : World} (ho : ops[i]? = some o) (h : wpStepR P ops Q o K a w) : wpOp P ops Q i K a w := by
  unfold wpOp wpStepR at *
  simp only [ho]
  split
  · next hw => rw [if_pos hw] at h; exact .inl h
  · next hw => rw [if_neg hw] at h; exact h
theorem step_mono {o : Oper} {K K' : Act → World → Prop} {a : Act} {w : World} (hk : ∀ a w, K a w → K' a w) (h : wpStepR P ops Q o K a w) : wpStepR P ops Q o K' a w := by
  unfold wpStepR at *
  split
  · next hw => rw [if_pos hw] at h; exact Oper.wp_mono hk h
  · next hw => rw [if_neg hw] at h; exact hk _ _ h
theorem atNats_cons {i : Nat} {r : List Nat} {o : Oper} (h : ops[i]? = some o) : atNats ops (i :: r) = o :: atNats ops r := by simp [atNats, h]
theorem anyR_only {i : Nat} {o : Oper} {f : Nat} {listed : Array Bool} {a : Act} {w : World} (ho : ops[i]? = some o) (hr : Region.ready md ops listed = [i])
    (h : wpStepR P ops Q o (fun a' w' => (i ∈ T ∨ R w w') ∧ anyR R T P md ops Q f (listed.setIfInBounds i true) a' w') a w) : anyR R T P md ops Q (f + 1) listed a w :=
  ⟨(fun h0 => by rw [hr] at h0; cases h0), fun j hj => by
    rw [hr] at hj
    obtain rfl : j = i := by simpa using hj
    exact wpOp_of_step ho h⟩
theorem anyR_tail : ∀ (f : Nat) (l : List Nat) (listed : Array Bool) (a : Act) (w : World), okTail md ops T f l listed = true → wpTail P ops Q (atNats ops l) a w → anyR R T P md ops Q f listed a w
  | 0, [], listed, a, w, hB, h => ⟨by unfold okTail at hB; simpa using hB, h⟩
  | 0, i :: r, listed, a, w, hB, h => by unfold okTail at hB; cases hB
  | f + 1, [], listed, a, w, hB, h => by unfold okTail at hB; cases hB
  | f + 1, i :: r, listed, a, w, hB, h => by
    unfold okTail at hB
    simp only [Bool.and_eq_true, beq_iff_eq] at hB
    obtain ⟨⟨⟨h1, h2⟩, h3⟩, h4⟩ := hB
    obtain ⟨o, ho⟩ := Option.isSome_iff_exists.1 h1
    rw [atNats_cons ho] at h
    exact anyR_only ho h2 (step_mono (fun a' w' h' => ⟨.inl (by simpa using h3), anyR_tail f r _ a' w' h4 h'⟩) h)
theorem yieldsR {o : Oper} {v : Value} {a : Act} {w : World} (hp : isPure o = true) (hw : Region.wanted o (yielded ops a.tmps) = true) (h : ∀ u, CRR R w u → o.quietAt P a (CRR R w) u v) :
    YieldsIf P ops (fun u => R w u) o v a := by
  refine .inl ⟨hw, fun u hu => ?_⟩
  have h1 := h u ⟨⟨u, hu⟩, rfl⟩
  unfold Oper.quietAt at h1
  cases hr : (execOp a.eval o).run P u with
  | halt x u' => rw [hr] at h1; exact absurd h1 (by simp [Oper.quietUpon])
  | ok n u' =>
    obtain ⟨x, rfl⟩ := pure_value hp hr
    rw [hr] at h1
    obtain ⟨rfl, rfl⟩ := h1
    rfl
theorem anyR_pure (hrr : ∀ w, R w w) (R2 : World → World → Prop) (all : Bool) (hrr2 : ∀ w, R2 w w) (htr : ∀ a b c, R2 a b → R2 b c → R2 a c) (h2 : if all then ∀ a b, R2 a b else ∀ a b, R a b → R2 a b) (hsel : Region.noSelect ops = true) (hQ : ∀ c d v a w, Q (.panic c) (Act.put a d v) w → Q (.panic c) a w) (f : Nat) {w : World} {K : Act → Prop} :
    ∀ (l : List Nat) (listed : Array Bool) (a : Act), okPure all md ops T l listed = true → (∀ a', K a' → anyR R T P md ops Q f (setAll l listed) a' w) → wpQuiet P ops (CRR R2 w) K (atNats ops l) a → anyR R T P md ops Q (l.length + f) listed a w
  | [], listed, a, _, hK, h => by
    have h1 := hK a h
    simpa [setAll] using h1
  | i :: r, listed, a, hB, hK, h => by
    unfold okPure at hB
    cases ho : ops[i]? with
    | none => rw [ho] at hB; cases hB
    | some o =>
      rw [ho] at hB
      simp only [Bool.and_eq_true] at hB
      obtain ⟨⟨⟨⟨hp, hr⟩, hk⟩, hT⟩, hB'⟩ := hB
      rw [atNats_cons ho] at h
      have hT' : (lastWait md ops T i = true ∧ ∀ a b, R a b → R2 a b) ∨ ∀ a b, R2 a b := by
        cases all with
        | true => exact .inr (by simpa using h2)
        | false => exact .inl ⟨by simpa using hT, by simpa using h2⟩
      have e : (i :: r).length + f = (r.length + f) + 1 := by simp; omega
      rw [e]
      unfold wpQuiet at h
      have hK' : ∀ a', K a' → anyR R T P md ops Q f (setAll r (listed.setIfInBounds i true)) a' w := fun a' h' => hK a' h'
      by_cases hw : Region.wanted o (yielded ops a.tmps) = true
      · rw [if_pos hw] at h
        obtain ⟨v, h1, h3⟩ := h
        exact anyR_first hrr R2 hrr2 htr ho hT' hsel hQ _ listed a w (Region.free_spec ho hk) (by simpa using hr) (yieldsR hp hw h1) (anyR_pure hrr R2 all hrr2 htr h2 hsel hQ f r _ _ hB' hK' h3)
      · rw [if_neg hw] at h
        exact anyR_first hrr R2 hrr2 htr ho hT' hsel hQ _ listed a w (Region.free_spec ho hk) (by simpa using hr) (.inr ⟨by simpa using hw, rfl⟩) (anyR_pure hrr R2 all hrr2 htr h2 hsel hQ f r _ _ hB' hK' h)
theorem anyR_of_OT (hrr : ∀ w, R w w) (htr : ∀ a b c, R a b → R b c → R a c) (hsel : Region.noSelect ops = true) (hQ : ∀ c d v a w, Q (.panic c) (Act.put a d v) w → Q (.panic c) a w) :
    ∀ (t : OT) (f : Nat) (listed : Array Bool) (a : Act) (w : World), okOT md ops T f t listed = true → wpOT R T P ops Q t a w → anyR R T P md ops Q f listed a w
  | .tail l, f, listed, a, w, hB, h => anyR_tail f l listed a w hB h
  | .pure l t, f, listed, a, w, hB, h => by
    unfold okOT at hB
    simp only [Bool.and_eq_true, decide_eq_true_eq] at hB
    obtain ⟨⟨h1, h2⟩, h3⟩ := hB
    have e : f = l.length + (f - l.length) := by omega
    rw [e]
    exact anyR_pure hrr R false hrr htr (by simp) hsel hQ _ l listed a h2 (fun a' h' => anyR_of_OT hrr htr hsel hQ t _ _ a' w h3 h') h
  | .free l t, f, listed, a, w, hB, h => by
    unfold okOT at hB
    simp only [Bool.and_eq_true, decide_eq_true_eq] at hB
    obtain ⟨⟨h1, h2⟩, h3⟩ := hB
    have e : f = l.length + (f - l.length) := by omega
    rw [e]
    exact anyR_pure hrr Always true (fun _ => trivial) (fun _ _ _ _ _ => trivial) (by simp [Always]) hsel hQ _ l listed a h2 (fun a' h' => anyR_of_OT hrr htr hsel hQ t _ _ a' w h3 h') h
  | .step i t, f, listed, a, w, hB, h => by
    unfold okOT at hB
    simp only [Bool.and_eq_true, decide_eq_true_eq, beq_iff_eq] at hB
    obtain ⟨⟨⟨h1, h2⟩, h3⟩, h4⟩ := hB
    obtain ⟨o, ho⟩ := Option.isSome_iff_exists.1 h2
    have e : f = (f - 1) + 1 := by omega
    rw [e]
    exact anyR_only ho h3 (step_mono (fun a' w' h' => ⟨h'.1, anyR_of_OT hrr htr hsel hQ t _ _ a' w' h4 h'.2⟩) (h o ho))
  | .fork i x j y, f, listed, a, w, hB, h => by
    unfold okOT at hB
    simp only [Bool.and_eq_true, decide_eq_true_eq, beq_iff_eq] at hB
    obtain ⟨⟨⟨⟨⟨h1, h2⟩, h3⟩, h4⟩, h5⟩, h6⟩ := hB
    obtain ⟨o, ho⟩ := Option.isSome_iff_exists.1 h2
    obtain ⟨o', ho'⟩ := Option.isSome_iff_exists.1 h3
    have e : f = (f - 1) + 1 := by omega
    rw [e]
    refine ⟨(fun h0 => by rw [h4] at h0; cases h0), fun k hk => ?_⟩
    rw [h4] at hk
    rcases List.mem_cons.1 hk with rfl | hk
    · exact wpOp_of_step ho (step_mono (fun a' w' h' => ⟨h'.1, anyR_of_OT hrr htr hsel hQ x _ _ a' w' h5 h'.2⟩) (h.1 o ho))
    · obtain rfl : k = j := by simpa using hk
      exact wpOp_of_step ho' (step_mono (fun a' w' h' => ⟨h'.1, anyR_of_OT hrr htr hsel hQ y _ _ a' w' h6 h'.2⟩) (h.2 o' ho'))
def okAll (ops : Array Oper) (T : List Nat) (t : OT) : Bool := Region.noSelect ops && okOT .any ops T ops.size t (Array.replicate ops.size false)
/-- The walk along the tree serves every order. -/
theorem wp_region_OT (R : World → World → Prop) (hrr : ∀ w, R w w) (htr : ∀ a b c, R a b → R b c → R a c) (T : List Nat) (t : OT) {id : Nat} {a : Act} {w : World} (hm : P.follows .mixedOrders = true) (hB : okAll ops T t = true)
    (hQ : ∀ c d v a w, Q (.panic c) (Act.put a d v) w → Q (.panic c) a w) (h : wpOT R T P ops Q t a w.drew) : (Code.region id ops true).wp P Q a w := by
  unfold okAll at hB
  simp only [Bool.and_eq_true] at hB
  exact wp_region_any hm (any_of_anyR (R := R) (T := T) _ _ _ _ (anyR_of_OT hrr htr hB.1 hQ t _ _ a w.drew hB.2 h))

/-! ### nodes, one at a time -/
theorem ot_pure {l : List Nat} {t : OT} {a : Act} {w : World} (h : wpQuiet P ops (CRR R w) (fun a' => wpOT R T P ops Q t a' w) (atNats ops l) a) : wpOT R T P ops Q (.pure l t) a w := h
theorem ot_free {l : List Nat} {t : OT} {a : Act} {w : World} (h : wpQuiet P ops (CRR Always w) (fun a' => wpOT R T P ops Q t a' w) (atNats ops l) a) : wpOT R T P ops Q (.free l t) a w := h
theorem ot_one {i : Nat} {o : Oper} {t : OT} {a : Act} {w : World}
    (h : ∀ K : Act → World → Prop, (∀ a' w', (i ∈ T ∨ R w w') → wpOT R T P ops Q t a' w' → K a' w') → if Region.wanted o (yielded ops a.tmps) = true then o.wp P a w K Q else K (a.put o.dst undef) w) :
    wpStepR P ops Q o (fun a' w' => (i ∈ T ∨ R w w') ∧ wpOT R T P ops Q t a' w') a w := h _ fun _ _ h1 h2 => ⟨h1, h2⟩
theorem ot_step {i : Nat} {o : Oper} {t : OT} {a : Act} {w : World} (ho : ops[i]? = some o)
    (h : ∀ K : Act → World → Prop, (∀ a' w', (i ∈ T ∨ R w w') → wpOT R T P ops Q t a' w' → K a' w') → if Region.wanted o (yielded ops a.tmps) = true then o.wp P a w K Q else K (a.put o.dst undef) w) :
    wpOT R T P ops Q (.step i t) a w := fun o' ho' => by
  rw [ho] at ho'
  injection ho' with e
  subst e
  exact ot_one h
theorem ot_fork {i j : Nat} {o o' : Oper} {x y : OT} {a : Act} {w : World} (ho : ops[i]? = some o) (ho' : ops[j]? = some o')
    (h : ∀ K : Act → World → Prop, (∀ a' w', (i ∈ T ∨ R w w') → wpOT R T P ops Q x a' w' → K a' w') → if Region.wanted o (yielded ops a.tmps) = true then o.wp P a w K Q else K (a.put o.dst undef) w)
    (h' : ∀ K : Act → World → Prop, (∀ a' w', (j ∈ T ∨ R w w') → wpOT R T P ops Q y a' w' → K a' w') → if Region.wanted o' (yielded ops a.tmps) = true then o'.wp P a w K Q else K (a.put o'.dst undef) w) :
    wpOT R T P ops Q (.fork i x j y) a w := ⟨ot_step (t := x) ho h, ot_step (t := y) ho' h'⟩
theorem wanted_none {o : Oper} {f : Nat → Option Bool} (hg : o.guard = none) : Region.wanted o f = true := by unfold Region.wanted; rw [hg]
theorem ot_act {i : Nat} {o : Oper} {t : OT} {a : Act} {w : World} (ho : ops[i]? = some o) (hg : o.guard = none)
    (h : ∀ K : Act → World → Prop, (∀ a' w', (i ∈ T ∨ R w w') → wpOT R T P ops Q t a' w' → K a' w') → o.wp P a w K Q) :
    wpOT R T P ops Q (.step i t) a w := ot_step ho fun K hK => by rw [if_pos (wanted_none hg)]; exact h K hK
theorem ot_last {i : Nat} {o : Oper} {l : List Nat} {a : Act} {w : World} (ho : ops[i]? = some o)
    (h : ∀ K : Act → World → Prop, (∀ a' w', wpOT R T P ops Q (.tail l) a' w' → K a' w') → if Region.wanted o (yielded ops a.tmps) = true then o.wp P a w K Q else K (a.put o.dst undef) w) :
    wpOT R T P ops Q (.tail (i :: l)) a w := by
  show wpTail P ops Q (atNats ops (i :: l)) a w
  rw [atNats_cons ho]
  exact h _ fun _ _ h1 => h1
theorem ot_end {a : Act} {w : World} (h : Q .normal a w) : wpOT R T P ops Q (.tail []) a w := h
end
end Go.Proofs.Ytipiplnhbecjeaa
