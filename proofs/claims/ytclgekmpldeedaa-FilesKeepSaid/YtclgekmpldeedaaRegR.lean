/- Statements whose order Go leaves open, where two operations that do more than yield may come in either order: a walk along a tree of orders, with a relation of one's choice for what must stay while something that only yields is waited for. -/
import Derived.Test.YtclgekmpldeedaaReg
namespace Go.Proofs.Ytclgekmpldeedaa
set_option linter.unusedVariables false
set_option linter.unusedSimpArgs false
open Go.RowKit Go.Sort

/-- A world behind w by the relation R. -/
structure LaterR (R : World → World → Prop) (w : World) where
  u : World
  h : R w u
abbrev CRR (R : World → World → Prop) (w : World) : World → Prop := fun u => ∃ p : LaterR R w, u = p.u

/-- A tree of orders: what only yields, as a list (what yields in every world: free); one that is the only one to come up; either of two; at the end those that nothing else is left beside. -/
inductive OT where
  | tail (l : List Nat) : OT
  | pure (l : List Nat) (t : OT) : OT
  | free (l : List Nat) (t : OT) : OT
  | step (i : Nat) (t : OT) : OT
  | fork (i : Nat) (a : OT) (j : Nat) (b : OT) : OT

section
variable {P : Program} {ops : Array Oper} {Q : Exit → Act → World → Prop} {md : Region.Mode} {R : World → World → Prop} {T : List Nat}

def anyR (R : World → World → Prop) (T : List Nat) (P : Program) (md : Region.Mode) (ops : Array Oper) (Q : Exit → Act → World → Prop) : Nat → Array Bool → Act → World → Prop
  | 0, listed, a, w => Region.ready md ops listed = [] ∧ Q .normal a w
  | f + 1, listed, a, w => (Region.ready md ops listed = [] → Q .normal a w) ∧
      ∀ i ∈ Region.ready md ops listed, wpOp P ops Q i (fun a' w' => (i ∈ T ∨ R w w') ∧ anyR R T P md ops Q f (listed.setIfInBounds i true) a' w') a w
theorem any_of_anyR : ∀ (f : Nat) (listed : Array Bool) (a : Act) (w : World), anyR R T P md ops Q f listed a w → wpAny P md ops Q f listed a w
  | 0, _, _, _, h => h
  | f + 1, _, _, _, h => ⟨h.1, fun i hi => wpOp_mono (fun a' w' h' => any_of_anyR f _ a' w' h'.2) (h.2 i hi)⟩

/-- Does each of the last ones wait for i. -/
def lastWait (md : Region.Mode) (ops : Array Oper) (T : List Nat) (i : Nat) : Bool := T.all fun j => match ops[j]? with
  | none => true
  | some o => o.after.toList.any fun e => Region.binds md e && Nat.beq e.on i

theorem anyR_first (hrr : ∀ w, R w w) (R2 : World → World → Prop) (hrr2 : ∀ w, R2 w w) (htr : ∀ a b c, R2 a b → R2 b c → R2 a c) {i : Nat} {oi : Oper} {v : Value} (hi : ops[i]? = some oi) (hT0 : (lastWait md ops T i = true ∧ ∀ a b, R a b → R2 a b) ∨ ∀ a b, R2 a b) (hsel : Region.noSelect ops = true) (hQ : ∀ c d v a w, Q (.panic c) (Act.put a d v) w → Q (.panic c) a w) :
    ∀ (f : Nat) (listed : Array Bool) (a : Act) (w : World),
      (∀ j oj, ops[j]? = some oj → j ≠ i → listed.getD j true = false → (∀ e ∈ oj.after, Region.binds md e = true → e.on ≠ i) → oi.apart ops oj = true) →
      i ∈ Region.ready md ops listed → YieldsIf P ops (fun u => R2 w u) oi v a →
      anyR R T P md ops Q f (listed.setIfInBounds i true) (a.put oi.dst v) w → anyR R T P md ops Q (f + 1) listed a w := by
  intro f
  induction f with
  | zero =>
    intro listed a w _ hr hy H
    refine ⟨fun h => absurd hr (by rw [h]; exact List.not_mem_nil), fun j hj => ?_⟩
    by_cases hji : j = i
    · subst hji; exact hy.wpOp hi (hrr2 _) ⟨.inr (hrr _), H⟩
    · exact absurd (ready_mono hj hji) (by rw [H.1]; exact List.not_mem_nil)
  | succ f ih =>
    intro listed a w hfree hr hy H
    refine ⟨fun h => absurd hr (by rw [h]; exact List.not_mem_nil), fun j hj => ?_⟩
    by_cases hji : j = i
    · subst hji; exact hy.wpOp hi (hrr2 _) ⟨.inr (hrr _), H⟩
    · obtain ⟨hjun, oj, hoj, hall⟩ := mem_ready.1 hj
      have hnot : ∀ e ∈ oj.after, Region.binds md e = true → e.on ≠ i := by
        intro e he hb heq
        have h1 := hall e he hb
        have h0 := (mem_ready.1 hr).1
        rw [heq] at h1
        rcases Nat.lt_or_ge i listed.size with h' | h'
        · simp [h'] at h0 h1; rw [h0] at h1; cases h1
        · simp [Array.getElem?_eq_none h'] at h1
      have hjT : lastWait md ops T i = true → j ∉ T := by
        intro hT hm
        have h1 := List.all_eq_true.1 hT j hm
        rw [hoj] at h1
        obtain ⟨e, he, hb⟩ := List.any_eq_true.1 h1
        simp only [Bool.and_eq_true] at hb
        exact hnot e (by simpa using he) hb.1 (Nat.eq_of_beq_eq_true hb.2)
      have h2 := wpOp_putIf (S := fun u => R2 w u) hoj (hfree j oj hoj hji hjun hnot) (fun cs b => Region.noSelect_spec hsel i oi cs b hi) (fun cs b => Region.noSelect_spec hsel j oj cs b hoj)
        (fun c a w => hQ c oi.dst v a w) hy (H.2 j (ready_mono hj hji))
      refine wpOp_mono (fun a' w' h3 => ?_) h2
      have hR : R2 w w' := by
        rcases hT0 with ⟨hT, himp⟩ | hall
        · exact himp _ _ (h3.2.1.resolve_left (hjT hT))
        · exact hall _ _
      refine ⟨h3.2.1, ih (listed.setIfInBounds j true) a' w' ?_ (ready_mono hr (Ne.symm hji)) (h3.1.imp (fun ⟨h1, h2⟩ => ⟨h1, fun u hu => h2 u (htr _ _ _ hR hu)⟩) id) ?_⟩
      · intro k ok hk hki hun hno
        refine hfree k ok hk hki ?_ hno
        by_cases hjk : j = k
        · subst hjk; exact hjun
        · rw [getD_set_ne true hjk] at hun; exact hun
      · rw [Array.setIfInBounds_comm _ _ hji]
        exact h3.2.2

/-! ### the tree, checked -/
def okTail (md : Region.Mode) (ops : Array Oper) (T : List Nat) : Nat → List Nat → Array Bool → Bool
  | 0, [], listed => (Region.ready md ops listed).isEmpty
  | f + 1, i :: r, listed => (ops[i]?).isSome && Region.ready md ops listed == [i] && T.contains i && okTail md ops T f r (listed.setIfInBounds i true)
  | _, _, _ => false
def okPure (all : Bool) (md : Region.Mode) (ops : Array Oper) (T : List Nat) : List Nat → Array Bool → Bool
  | [], _ => true
  | i :: r, listed => match ops[i]? with
    | none => false
    | some o => isPure o && (Region.ready md ops listed).contains i && Region.free md ops listed i && (all || lastWait md ops T i) && okPure all md ops T r (listed.setIfInBounds i true)
def setAll (l : List Nat) (listed : Array Bool) : Array Bool := l.foldl (fun x i => x.setIfInBounds i true) listed
def okOT (md : Region.Mode) (ops : Array Oper) (T : List Nat) : Nat → OT → Array Bool → Bool
  | f, .tail l, listed => okTail md ops T f l listed
  | f, .pure l t, listed => l.length ≤ f && okPure false md ops T l listed && okOT md ops T (f - l.length) t (setAll l listed)
  | f, .free l t, listed => l.length ≤ f && okPure true md ops T l listed && okOT md ops T (f - l.length) t (setAll l listed)
  | f, .step i t, listed => 1 ≤ f && (ops[i]?).isSome && Region.ready md ops listed == [i] && okOT md ops T (f - 1) t (listed.setIfInBounds i true)
  | f, .fork i a j b, listed => 1 ≤ f && (ops[i]?).isSome && (ops[j]?).isSome && Region.ready md ops listed == [i, j] && okOT md ops T (f - 1) a (listed.setIfInBounds i true) && okOT md ops T (f - 1) b (listed.setIfInBounds j true)

/-! ### the walk -/
def wpStepR (P : Program) (ops : Array Oper) (Q : Exit → Act → World → Prop) (o : Oper) (K : Act → World → Prop) (a : Act) (w : World) : Prop :=
  if Region.wanted o (yielded ops a.tmps) then o.wp P a w K Q else K (a.put o.dst undef) w
def wpTail (P : Program) (ops : Array Oper) (Q : Exit → Act → World → Prop) : List Oper → Act → World → Prop
  | [], a, w => Q .normal a w
  | o :: r, a, w => wpStepR P ops Q o (wpTail P ops Q r) a w
abbrev Always : World → World → Prop := fun _ _ => True
instance (w : World) : Inhabited (LaterR Always w) := ⟨⟨w, trivial⟩⟩
def wpOT (R : World → World → Prop) (T : List Nat) (P : Program) (ops : Array Oper) (Q : Exit → Act → World → Prop) : OT → Act → World → Prop
  | .tail l, a, w => wpTail P ops Q (atNats ops l) a w
  | .pure l t, a, w => wpQuiet P ops (CRR R w) (fun a' => wpOT R T P ops Q t a' w) (atNats ops l) a
  | .free l t, a, w => wpQuiet P ops (CRR Always w) (fun a' => wpOT R T P ops Q t a' w) (atNats ops l) a
  | .step i t, a, w => ∀ o, ops[i]? = some o → wpStepR P ops Q o (fun a' w' => (i ∈ T ∨ R w w') ∧ wpOT R T P ops Q t a' w') a w
  | .fork i x j y, a, w => (∀ o, ops[i]? = some o → wpStepR P ops Q o (fun a' w' => (i ∈ T ∨ R w w') ∧ wpOT R T P ops Q x a' w') a w) ∧ (∀ o, ops[j]? = some o → wpStepR P ops Q o (fun a' w' => (j ∈ T ∨ R w w') ∧ wpOT R T P ops Q y a' w') a w)

theorem wpOp_of_step {i : Nat} {o : Oper} {K : Act → World → Prop} {a : Act} {w : World} (ho : ops[i]? = some o) (h : wpStepR P ops Q o K a w) : wpOp P ops Q i K a w := by
  unfold wpOp wpStepR at *
  simp only [ho]
  split
  · next hw => rw [if_pos hw] at h; exact .inl h
  · next hw => rw [if_neg hw] at h; exact h
theorem step_mono {o : Oper} {K K' : Act → World → Prop} {a : Act} {w : World} (hk : ∀ a w, K a w → K' a w) (h : wpStepR P ops Q o K a w) : wpStepR P ops Q o K' a w := by
  unfold wpStepR at *
  split
  · next hw => rw [if_pos hw] at h; exact Oper.wp_mono hk h
  · next hw => rw [if_neg hw] at h; exact hk _ _ h
theorem atNats_cons {i : Nat} {r : List Nat} {o : Oper} (h : ops[i]? = some o) : atNats ops (i :: r) = o :: atNats ops r := by simp [atNats, h]
theorem anyR_only {i : Nat} {o : Oper} {f : Nat} {listed : Array Bool} {a : Act} {w : World} (ho : ops[i]? = some o) (hr : Region.ready md ops listed = [i])
    (h : wpStepR P ops Q o (fun a' w' => (i ∈ T ∨ R w w') ∧ anyR R T P md ops Q f (listed.setIfInBounds i true) a' w') a w) : anyR R T P md ops Q (f + 1) listed a w :=
  ⟨(fun h0 => by rw [hr] at h0; cases h0), fun j hj => by
    rw [hr] at hj
    obtain rfl : j = i := by simpa using hj
    exact wpOp_of_step ho h⟩
theorem anyR_tail : ∀ (f : Nat) (l : List Nat) (listed : Array Bool) (a : Act) (w : World), okTail md ops T f l listed = true → wpTail P ops Q (atNats ops l) a w → anyR R T P md ops Q f listed a w
  | 0, [], listed, a, w, hB, h => ⟨by unfold okTail at hB; simpa using hB, h⟩
  | 0, i :: r, listed, a, w, hB, h => by unfold okTail at hB; cases hB
  | f + 1, [], listed, a, w, hB, h => by unfold okTail at hB; cases hB
  | f + 1, i :: r, listed, a, w, hB, h => by
    unfold okTail at hB
    simp only [Bool.and_eq_true, beq_iff_eq] at hB
    obtain ⟨⟨⟨h1, h2⟩, h3⟩, h4⟩ := hB
    obtain ⟨o, ho⟩ := Option.isSome_iff_exists.1 h1
    rw [atNats_cons ho] at h
    exact anyR_only ho h2 (step_mono (fun a' w' h' => ⟨.inl (by simpa using h3), anyR_tail f r _ a' w' h4 h'⟩) h)
theorem yieldsR {o : Oper} {v : Value} {a : Act} {w : World} (hp : isPure o = true) (hw : Region.wanted o (yielded ops a.tmps) = true) (h : ∀ u, CRR R w u → o.quietAt P a (CRR R w) u v) :
    YieldsIf P ops (fun u => R w u) o v a := by
  refine .inl ⟨hw, fun u hu => ?_⟩
  have h1 := h u ⟨⟨u, hu⟩, rfl⟩
  unfold Oper.quietAt at h1
  cases hr : (execOp a.eval o).run P u with
  | halt x u' => rw [hr] at h1; exact absurd h1 (by simp [Oper.quietUpon])
  | ok n u' =>
    obtain ⟨x, rfl⟩ := pure_value hp hr
    rw [hr] at h1
    obtain ⟨rfl, rfl⟩ := h1
    rfl
theorem anyR_pure (hrr : ∀ w, R w w) (R2 : World → World → Prop) (all : Bool) (hrr2 : ∀ w, R2 w w) (htr : ∀ a b c, R2 a b → R2 b c → R2 a c) (h2 : if all then ∀ a b, R2 a b else ∀ a b, R a b → R2 a b) (hsel : Region.noSelect ops = true) (hQ : ∀ c d v a w, Q (.panic c) (Act.put a d v) w → Q (.panic c) a w) (f : Nat) {w : World} {K : Act → Prop} :
    ∀ (l : List Nat) (listed : Array Bool) (a : Act), okPure all md ops T l listed = true → (∀ a', K a' → anyR R T P md ops Q f (setAll l listed) a' w) → wpQuiet P ops (CRR R2 w) K (atNats ops l) a → anyR R T P md ops Q (l.length + f) listed a w
  | [], listed, a, _, hK, h => by
    have h1 := hK a h
    simpa [setAll] using h1
  | i :: r, listed, a, hB, hK, h => by
    unfold okPure at hB
    cases ho : ops[i]? with
    | none => rw [ho] at hB; cases hB
    | some o =>
      rw [ho] at hB
      simp only [Bool.and_eq_true] at hB
      obtain ⟨⟨⟨⟨hp, hr⟩, hk⟩, hT⟩, hB'⟩ := hB
      rw [atNats_cons ho] at h
      have hT' : (lastWait md ops T i = true ∧ ∀ a b, R a b → R2 a b) ∨ ∀ a b, R2 a b := by
        cases all with
        | true => exact .inr (by simpa using h2)
        | false => exact .inl ⟨by simpa using hT, by simpa using h2⟩
      have e : (i :: r).length + f = (r.length + f) + 1 := by simp; omega
      rw [e]
      unfold wpQuiet at h
      have hK' : ∀ a', K a' → anyR R T P md ops Q f (setAll r (listed.setIfInBounds i true)) a' w := fun a' h' => hK a' h'
      by_cases hw : Region.wanted o (yielded ops a.tmps) = true
      · rw [if_pos hw] at h
        obtain ⟨v, h1, h3⟩ := h
        exact anyR_first hrr R2 hrr2 htr ho hT' hsel hQ _ listed a w (Region.free_spec ho hk) (by simpa using hr) (yieldsR hp hw h1) (anyR_pure hrr R2 all hrr2 htr h2 hsel hQ f r _ _ hB' hK' h3)
      · rw [if_neg hw] at h
        exact anyR_first hrr R2 hrr2 htr ho hT' hsel hQ _ listed a w (Region.free_spec ho hk) (by simpa using hr) (.inr ⟨by simpa using hw, rfl⟩) (anyR_pure hrr R2 all hrr2 htr h2 hsel hQ f r _ _ hB' hK' h)
theorem anyR_of_OT (hrr : ∀ w, R w w) (htr : ∀ a b c, R a b → R b c → R a c) (hsel : Region.noSelect ops = true) (hQ : ∀ c d v a w, Q (.panic c) (Act.put a d v) w → Q (.panic c) a w) :
    ∀ (t : OT) (f : Nat) (listed : Array Bool) (a : Act) (w : World), okOT md ops T f t listed = true → wpOT R T P ops Q t a w → anyR R T P md ops Q f listed a w
  | .tail l, f, listed, a, w, hB, h => anyR_tail f l listed a w hB h
  | .pure l t, f, listed, a, w, hB, h => by
    unfold okOT at hB
    simp only [Bool.and_eq_true, decide_eq_true_eq] at hB
    obtain ⟨⟨h1, h2⟩, h3⟩ := hB
    have e : f = l.length + (f - l.length) := by omega
    rw [e]
    exact anyR_pure hrr R false hrr htr (by simp) hsel hQ _ l listed a h2 (fun a' h' => anyR_of_OT hrr htr hsel hQ t _ _ a' w h3 h') h
  | .free l t, f, listed, a, w, hB, h => by
    unfold okOT at hB
    simp only [Bool.and_eq_true, decide_eq_true_eq] at hB
    obtain ⟨⟨h1, h2⟩, h3⟩ := hB
    have e : f = l.length + (f - l.length) := by omega
    rw [e]
    exact anyR_pure hrr Always true (fun _ => trivial) (fun _ _ _ _ _ => trivial) (by simp [Always]) hsel hQ _ l listed a h2 (fun a' h' => anyR_of_OT hrr htr hsel hQ t _ _ a' w h3 h') h
  | .step i t, f, listed, a, w, hB, h => by
    unfold okOT at hB
    simp only [Bool.and_eq_true, decide_eq_true_eq, beq_iff_eq] at hB
    obtain ⟨⟨⟨h1, h2⟩, h3⟩, h4⟩ := hB
    obtain ⟨o, ho⟩ := Option.isSome_iff_exists.1 h2
    have e : f = (f - 1) + 1 := by omega
    rw [e]
    exact anyR_only ho h3 (step_mono (fun a' w' h' => ⟨h'.1, anyR_of_OT hrr htr hsel hQ t _ _ a' w' h4 h'.2⟩) (h o ho))
  | .fork i x j y, f, listed, a, w, hB, h => by
    unfold okOT at hB
    simp only [Bool.and_eq_true, decide_eq_true_eq, beq_iff_eq] at hB
    obtain ⟨⟨⟨⟨⟨h1, h2⟩, h3⟩, h4⟩, h5⟩, h6⟩ := hB
    obtain ⟨o, ho⟩ := Option.isSome_iff_exists.1 h2
    obtain ⟨o', ho'⟩ := Option.isSome_iff_exists.1 h3
    have e : f = (f - 1) + 1 := by omega
    rw [e]
    refine ⟨(fun h0 => by rw [h4] at h0; cases h0), fun k hk => ?_⟩
    rw [h4] at hk
    rcases List.mem_cons.1 hk with rfl | hk
    · exact wpOp_of_step ho (step_mono (fun a' w' h' => ⟨h'.1, anyR_of_OT hrr htr hsel hQ x _ _ a' w' h5 h'.2⟩) (h.1 o ho))
    · obtain rfl : k = j := by simpa using hk
      exact wpOp_of_step ho' (step_mono (fun a' w' h' => ⟨h'.1, anyR_of_OT hrr htr hsel hQ y _ _ a' w' h6 h'.2⟩) (h.2 o' ho'))
def okAll (ops : Array Oper) (T : List Nat) (t : OT) : Bool := Region.noSelect ops && okOT .any ops T ops.size t (Array.replicate ops.size false)
/-- The walk along the tree serves every order. -/
theorem wp_region_OT (R : World → World → Prop) (hrr : ∀ w, R w w) (htr : ∀ a b c, R a b → R b c → R a c) (T : List Nat) (t : OT) {id : Nat} {a : Act} {w : World} (hm : P.follows .mixedOrders = true) (hB : okAll ops T t = true)
    (hQ : ∀ c d v a w, Q (.panic c) (Act.put a d v) w → Q (.panic c) a w) (h : wpOT R T P ops Q t a w.drew) : (Code.region id ops true).wp P Q a w := by
  unfold okAll at hB
  simp only [Bool.and_eq_true] at hB
  exact wp_region_any hm (any_of_anyR (R := R) (T := T) _ _ _ _ (anyR_of_OT hrr htr hB.1 hQ t _ _ a w.drew hB.2 h))

/-! ### nodes, one at a time -/
theorem ot_pure {l : List Nat} {t : OT} {a : Act} {w : World} (h : wpQuiet P ops (CRR R w) (fun a' => wpOT R T P ops Q t a' w) (atNats ops l) a) : wpOT R T P ops Q (.pure l t) a w := h
theorem ot_free {l : List Nat} {t : OT} {a : Act} {w : World} (h : wpQuiet P ops (CRR Always w) (fun a' => wpOT R T P ops Q t a' w) (atNats ops l) a) : wpOT R T P ops Q (.free l t) a w := h
theorem ot_one {i : Nat} {o : Oper} {t : OT} {a : Act} {w : World}
    (h : ∀ K : Act → World → Prop, (∀ a' w', (i ∈ T ∨ R w w') → wpOT R T P ops Q t a' w' → K a' w') → if Region.wanted o (yielded ops a.tmps) = true then o.wp P a w K Q else K (a.put o.dst undef) w) :
    wpStepR P ops Q o (fun a' w' => (i ∈ T ∨ R w w') ∧ wpOT R T P ops Q t a' w') a w := h _ fun _ _ h1 h2 => ⟨h1, h2⟩
theorem ot_step {i : Nat} {o : Oper} {t : OT} {a : Act} {w : World} (ho : ops[i]? = some o)
    (h : ∀ K : Act → World → Prop, (∀ a' w', (i ∈ T ∨ R w w') → wpOT R T P ops Q t a' w' → K a' w') → if Region.wanted o (yielded ops a.tmps) = true then o.wp P a w K Q else K (a.put o.dst undef) w) :
    wpOT R T P ops Q (.step i t) a w := fun o' ho' => by
  rw [ho] at ho'
  injection ho' with e
  subst e
  exact ot_one h
theorem ot_fork {i j : Nat} {o o' : Oper} {x y : OT} {a : Act} {w : World} (ho : ops[i]? = some o) (ho' : ops[j]? = some o')
    (h : ∀ K : Act → World → Prop, (∀ a' w', (i ∈ T ∨ R w w') → wpOT R T P ops Q x a' w' → K a' w') → if Region.wanted o (yielded ops a.tmps) = true then o.wp P a w K Q else K (a.put o.dst undef) w)
    (h' : ∀ K : Act → World → Prop, (∀ a' w', (j ∈ T ∨ R w w') → wpOT R T P ops Q y a' w' → K a' w') → if Region.wanted o' (yielded ops a.tmps) = true then o'.wp P a w K Q else K (a.put o'.dst undef) w) :
    wpOT R T P ops Q (.fork i x j y) a w := ⟨ot_step (t := x) ho h, ot_step (t := y) ho' h'⟩
theorem wanted_none {o : Oper} {f : Nat → Option Bool} (hg : o.guard = none) : Region.wanted o f = true := by unfold Region.wanted; rw [hg]
theorem ot_act {i : Nat} {o : Oper} {t : OT} {a : Act} {w : World} (ho : ops[i]? = some o) (hg : o.guard = none)
    (h : ∀ K : Act → World → Prop, (∀ a' w', (i ∈ T ∨ R w w') → wpOT R T P ops Q t a' w' → K a' w') → o.wp P a w K Q) :
    wpOT R T P ops Q (.step i t) a w := ot_step ho fun K hK => by rw [if_pos (wanted_none hg)]; exact h K hK
theorem ot_last {i : Nat} {o : Oper} {l : List Nat} {a : Act} {w : World} (ho : ops[i]? = some o)
    (h : ∀ K : Act → World → Prop, (∀ a' w', wpOT R T P ops Q (.tail l) a' w' → K a' w') → if Region.wanted o (yielded ops a.tmps) = true then o.wp P a w K Q else K (a.put o.dst undef) w) :
    wpOT R T P ops Q (.tail (i :: l)) a w := by
  show wpTail P ops Q (atNats ops (i :: l)) a w
  rw [atNats_cons ho]
  exact h _ fun _ _ h1 => h1
theorem ot_end {a : Act} {w : World} (h : Q .normal a w) : wpOT R T P ops Q (.tail []) a w := h
end
end Go.Proofs.Ytclgekmpldeedaa
