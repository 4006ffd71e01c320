/- Statements whose order Go leaves open: the walk along a tree of orders, where a struct that is put together counts as what only yields. -/
import Derived.Test.YtdggeokpnaopiaaKReg
import Derived.Laws.Tables
namespace Go.Proofs.Ytdggeokpnaopiaa
set_option linter.unusedVariables false
set_option linter.unusedSimpArgs false
open Go.RowKit Go.Sort
def isPureB (o : Oper) : Bool := isPure o || match o.op with
  | .build .. => true
  | _ => false
theorem pure_valueB {P : Program} {ρ : Operand → Value} {o : Oper} {w w' : World} {n : Next} (hp : isPureB o = true) (h : (execOp ρ o).run P w = .ok n w') : ∃ v, n = .value v := by
  by_cases h1 : isPure o = true
  · exact pure_value h1 h
  · obtain ⟨dst, op, ty, pos, after, guard⟩ := o
    unfold isPureB at hp
    rw [Bool.not_eq_true] at h1
    rw [h1, Bool.false_or] at hp
    cases op <;> simp only [Bool.false_eq_true] at hp
    unfold execOp at h
    simp only [] at h
    exact value_of_bind (f := fun x => x) h
theorem quiet_build {P : Program} {C : World → Prop} {a : Act} {o : Oper} {K : Act → Prop} (t : TypeId) (parts : Array (Nat × Operand)) (ho : o.op = .build t parts)
    (hf : (P.built t (parts.map fun (i, x) => (i, a.eval x)).toList).isSome = true)
    (h : K (a.put o.dst (.agg ((P.built t (parts.map fun (i, x) => (i, a.eval x)).toList).getD #[])))) : o.quiet P a C K := by
  obtain ⟨cells, hc⟩ := Option.isSome_iff_exists.1 hf
  rw [hc] at h
  refine ⟨_, fun w _ => ?_, h⟩
  unfold Oper.quietAt execOp
  simp only [ho, Sem.run_bind, run_build w t _ cells hc, Result.andThen_ok]
  exact ⟨rfl, rfl⟩
section
variable {P : Program} {ops : Array Oper} {Q : Exit → Act → World → Prop} {md : Region.Mode} {R : World → World → Prop} {T : List Nat}
def okPureB (all : Bool) (md : Region.Mode) (ops : Array Oper) (T : List Nat) : List Nat → Array Bool → Bool
  | [], _ => true
  | i :: r, listed => match ops[i]? with
    | none => false
    | some o => isPureB o && (Region.ready md ops listed).contains i && Region.free md ops listed i && (all || lastWait md ops T i) && okPureB all md ops T r (listed.setIfInBounds i true)
def okOTB (md : Region.Mode) (ops : Array Oper) (T : List Nat) : Nat → OT → Array Bool → Bool
  | f, .tail l, listed => okTail md ops T f l listed
  | f, .pure l t, listed => l.length ≤ f && okPureB false md ops T l listed && okOTB md ops T (f - l.length) t (setAll l listed)
  | f, .free l t, listed => l.length ≤ f && okPureB true md ops T l listed && okOTB md ops T (f - l.length) t (setAll l listed)
  | f, .step i t, listed => 1 ≤ f && (ops[i]?).isSome && Region.ready md ops listed == [i] && okOTB md ops T (f - 1) t (listed.setIfInBounds i true)
  | f, .fork i a j b, listed => 1 ≤ f && (ops[i]?).isSome && (ops[j]?).isSome && Region.ready md ops listed == [i, j] && okOTB md ops T (f - 1) a (listed.setIfInBounds i true) && okOTB md ops T (f - 1) b (listed.setIfInBounds j true)

theorem yieldsRB {o : Oper} {v : Value} {a : Act} {w : World} (hp : isPureB o = true) (hw : Region.wanted o (yielded ops a.tmps) = true) (h : ∀ u, CRR R w u → o.quietAt P a (CRR R w) u v) :
    YieldsIf P ops (fun u => R w u) o v a := by
  refine .inl ⟨hw, fun u hu => ?_⟩
  have h1 := h u ⟨⟨u, hu⟩, rfl⟩
  unfold Oper.quietAt at h1
  cases hr : (execOp a.eval o).run P u with
  | halt x u' => rw [hr] at h1; exact absurd h1 (by simp [Oper.quietUpon])
  | ok n u' =>
    obtain ⟨x, rfl⟩ := pure_valueB hp hr
    rw [hr] at h1
    obtain ⟨rfl, rfl⟩ := h1
    rfl
theorem anyR_pureB (hrr : ∀ w, R w w) (R2 : World → World → Prop) (all : Bool) (hrr2 : ∀ w, R2 w w) (htr : ∀ a b c, R2 a b → R2 b c → R2 a c) (h2 : if all then ∀ a b, R2 a b else ∀ a b, R a b → R2 a b) (hsel : Region.noSelect ops = true) (hQ : ∀ c d v a w, Q (.panic c) (Act.put a d v) w → Q (.panic c) a w) (f : Nat) {w : World} {K : Act → Prop} :
    ∀ (l : List Nat) (listed : Array Bool) (a : Act), okPureB all md ops T l listed = true → (∀ a', K a' → anyR R T P md ops Q f (setAll l listed) a' w) → wpQuiet P ops (CRR R2 w) K (atNats ops l) a → anyR R T P md ops Q (l.length + f) listed a w
  | [], listed, a, _, hK, h => by
    have h1 := hK a h
    simpa [setAll] using h1
  | i :: r, listed, a, hB, hK, h => by
    unfold okPureB at hB
    cases ho : ops[i]? with
    | none => rw [ho] at hB; cases hB
    | some o =>
      rw [ho] at hB
      simp only [Bool.and_eq_true] at hB
      obtain ⟨⟨⟨⟨hp, hr⟩, hk⟩, hT⟩, hB'⟩ := hB
      rw [atNats_cons ho] at h
      have hT' : (lastWait md ops T i = true ∧ ∀ a b, R a b → R2 a b) ∨ ∀ a b, R2 a b := by
        cases all with
        | true => exact .inr (by simpa using h2)
        | false => exact .inl ⟨by simpa using hT, by simpa using h2⟩
      have e : (i :: r).length + f = (r.length + f) + 1 := by simp; omega
      rw [e]
      unfold wpQuiet at h
      have hK' : ∀ a', K a' → anyR R T P md ops Q f (setAll r (listed.setIfInBounds i true)) a' w := fun a' h' => hK a' h'
      by_cases hw : Region.wanted o (yielded ops a.tmps) = true
      · rw [if_pos hw] at h
        obtain ⟨v, h1, h3⟩ := h
        exact anyR_first hrr R2 hrr2 htr ho hT' hsel hQ _ listed a w (Region.free_spec ho hk) (by simpa using hr) (yieldsRB hp hw h1) (anyR_pureB hrr R2 all hrr2 htr h2 hsel hQ f r _ _ hB' hK' h3)
      · rw [if_neg hw] at h
        exact anyR_first hrr R2 hrr2 htr ho hT' hsel hQ _ listed a w (Region.free_spec ho hk) (by simpa using hr) (.inr ⟨by simpa using hw, rfl⟩) (anyR_pureB hrr R2 all hrr2 htr h2 hsel hQ f r _ _ hB' hK' h)
theorem anyR_of_OTB (hrr : ∀ w, R w w) (htr : ∀ a b c, R a b → R b c → R a c) (hsel : Region.noSelect ops = true) (hQ : ∀ c d v a w, Q (.panic c) (Act.put a d v) w → Q (.panic c) a w) :
    ∀ (t : OT) (f : Nat) (listed : Array Bool) (a : Act) (w : World), okOTB md ops T f t listed = true → wpOT R T P ops Q t a w → anyR R T P md ops Q f listed a w
  | .tail l, f, listed, a, w, hB, h => anyR_tail f l listed a w hB h
  | .pure l t, f, listed, a, w, hB, h => by
    unfold okOTB at hB
    simp only [Bool.and_eq_true, decide_eq_true_eq] at hB
    obtain ⟨⟨h1, h2⟩, h3⟩ := hB
    have e : f = l.length + (f - l.length) := by omega
    rw [e]
    exact anyR_pureB hrr R false hrr htr (by simp) hsel hQ _ l listed a h2 (fun a' h' => anyR_of_OTB hrr htr hsel hQ t _ _ a' w h3 h') h
  | .free l t, f, listed, a, w, hB, h => by
    unfold okOTB at hB
    simp only [Bool.and_eq_true, decide_eq_true_eq] at hB
    obtain ⟨⟨h1, h2⟩, h3⟩ := hB
    have e : f = l.length + (f - l.length) := by omega
    rw [e]
    exact anyR_pureB hrr Always true (fun _ => trivial) (fun _ _ _ _ _ => trivial) (by simp [Always]) hsel hQ _ l listed a h2 (fun a' h' => anyR_of_OTB hrr htr hsel hQ t _ _ a' w h3 h') h
  | .step i t, f, listed, a, w, hB, h => by
    unfold okOTB at hB
    simp only [Bool.and_eq_true, decide_eq_true_eq, beq_iff_eq] at hB
    obtain ⟨⟨⟨h1, h2⟩, h3⟩, h4⟩ := hB
    obtain ⟨o, ho⟩ := Option.isSome_iff_exists.1 h2
    have e : f = (f - 1) + 1 := by omega
    rw [e]
    exact anyR_only ho h3 (step_mono (fun a' w' h' => ⟨h'.1, anyR_of_OTB hrr htr hsel hQ t _ _ a' w' h4 h'.2⟩) (h o ho))
  | .fork i x j y, f, listed, a, w, hB, h => by
    unfold okOTB at hB
    simp only [Bool.and_eq_true, decide_eq_true_eq, beq_iff_eq] at hB
    obtain ⟨⟨⟨⟨⟨h1, h2⟩, h3⟩, h4⟩, h5⟩, h6⟩ := hB
    obtain ⟨o, ho⟩ := Option.isSome_iff_exists.1 h2
    obtain ⟨o', ho'⟩ := Option.isSome_iff_exists.1 h3
    have e : f = (f - 1) + 1 := by omega
    rw [e]
    refine ⟨(fun h0 => by rw [h4] at h0; cases h0), fun k hk => ?_⟩
    rw [h4] at hk
    rcases List.mem_cons.1 hk with rfl | hk
    · exact wpOp_of_step ho (step_mono (fun a' w' h' => ⟨h'.1, anyR_of_OTB hrr htr hsel hQ x _ _ a' w' h5 h'.2⟩) (h.1 o ho))
    · obtain rfl : k = j := by simpa using hk
      exact wpOp_of_step ho' (step_mono (fun a' w' h' => ⟨h'.1, anyR_of_OTB hrr htr hsel hQ y _ _ a' w' h6 h'.2⟩) (h.2 o' ho'))
def okAllB (ops : Array Oper) (T : List Nat) (t : OT) : Bool := Region.noSelect ops && okOTB .any ops T ops.size t (Array.replicate ops.size false)
/-- The walk along the tree serves every order. -/
theorem wp_region_OTB (R : World → World → Prop) (hrr : ∀ w, R w w) (htr : ∀ a b c, R a b → R b c → R a c) (T : List Nat) (t : OT) {id : Nat} {a : Act} {w : World} (hm : P.follows .mixedOrders = true) (hB : okAllB ops T t = true)
    (hQ : ∀ c d v a w, Q (.panic c) (Act.put a d v) w → Q (.panic c) a w) (h : wpOT R T P ops Q t a w.drew) : (Code.region id ops true).wp P Q a w := by
  unfold okAllB at hB
  simp only [Bool.and_eq_true] at hB
  exact wp_region_any hm (any_of_anyR (R := R) (T := T) _ _ _ _ (anyR_of_OTB hrr htr hB.1 hQ t _ _ a w.drew hB.2 h))

/-! ### nodes, one at a time -/
end
end Go.Proofs.Ytdggeokpnaopiaa
