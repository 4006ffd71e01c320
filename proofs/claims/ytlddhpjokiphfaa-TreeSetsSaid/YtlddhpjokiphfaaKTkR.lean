/- What was set lies there; setting it again changes nothing. Plain. -/
import Derived.Test.YtlddhpjokiphfaaKTkM
namespace Go.Proofs.Ytlddhpjokiphfaa
set_option linter.unusedVariables false
set_option linter.unusedSimpArgs false
theorem setT_self {t u : VT} {k : Nat} (h : t.items[k]? = some u) : setT t k u = t := by
  cases t with
  | mk kd i s l ns =>
    show VT.mk kd i s (l.set k u) ns = _
    have h' : l[k]? = some u := h
    obtain ⟨hk, e⟩ := List.getElem?_eq_some_iff.1 h'
    rw [← e, List.set_getElem_self]
theorem goT_same {x : VT} : ∀ (p : List ByteArray) (t : VT), getT t p = some x → goT (setFin x) t p = (0, t)
  | [], t, _ => by unfold goT; rfl
  | s :: r, t, h => by
    rw [getT_item] at h
    cases hi : itemT t s with
    | none => rw [hi] at h; cases h
    | some u =>
      rw [hi] at h
      have hu : getT u r = some x := h
      unfold itemT at hi
      split at hi
      · cases hi
      · rename_i hn
        have h0 : 0 ≤ placeT t s := Int.not_lt.1 hn
        have hj : (placeT t s).toNat < t.items.length := (List.getElem?_eq_some_iff.1 hi).1
        have hje : t.items[(placeT t s).toNat] = u := (List.getElem?_eq_some_iff.1 hi).2
        by_cases hr : r = []
        · subst hr
          unfold getT at hu
          injection hu with hu
          subst hu
          rw [goT_end (.inr rfl), setFin_cons, if_pos h0, setT_self hi]
        · rw [goT_on h0 hr hj, hje, goT_same r u hu]
          show ((0 : Int), setT t _ u) = _
          rw [setT_self hi]
theorem nest_get (x : VT) : ∀ r : List ByteArray, getT (nestT r x) r = some x
  | [] => by unfold getT; rfl
  | s :: r => by
    show getT (oneT s (nestT r x)) (s :: r) = _
    rw [getT_item, item_one, if_pos rfl]
    exact nest_get x r
theorem set_get (x : VT) : ∀ (p : List ByteArray) (t : VT), p ≠ [] → mayT t = true → (goT (setFin x) t p).1 = 0 → getT (goT (setFin x) t p).2 p = some x
  | [], _, hp, _, _ => absurd rfl hp
  | s :: r, t, _, hm, hc => by
    by_cases he : placeT t s < 0 ∨ r = []
    · rw [goT_end he, setFin_cons] at hc ⊢
      by_cases hn : placeT t s < 0
      · rw [if_neg (by omega)] at hc ⊢
        by_cases h7 : t.kind = 7
        · rw [if_pos h7]
          show getT (addI (addN t s) (nestT r x)) _ = _
          rw [getT_item, item_add_self _ h7 (may_nl_eq hm h7) hn]
          exact nest_get x r
        · rw [if_neg h7] at hc ⊢
          by_cases h6 : t.kind = 6 ∧ nextT t s r = true
          · rw [if_pos h6]
            obtain ⟨h6, hx⟩ := h6
            unfold nextT at hx
            rw [Bool.and_eq_true, decide_eq_true_eq, decide_eq_true_eq] at hx
            obtain rfl : r = [] := List.eq_nil_of_length_eq_zero hx.2
            show getT (addI t x) _ = _
            rw [getT_item, item_push_self _ h6 hx.1]
            show getT x [] = _
            unfold getT
            rfl
          · rw [if_neg h6] at hc
            cases hc
      · have h0 : 0 ≤ placeT t s := Int.not_lt.1 hn
        obtain rfl := he.resolve_left hn
        rw [if_pos h0]
        show getT (setT _ _ _) _ = _
        rw [getT_item, item_set_at _ h0 (placeT_lt (may_nl hm) h0)]
        show getT x [] = _
        unfold getT
        rfl
    · have h0 : 0 ≤ placeT t s := Int.not_lt.1 fun k => he (.inl k)
      have hr : r ≠ [] := fun k => he (.inr k)
      have hj := placeT_lt (may_nl hm) h0
      rw [goT_on h0 hr hj] at hc ⊢
      show getT (setT _ _ _) _ = _
      rw [getT_item, item_set_at _ h0 hj]
      exact set_get x r _ hr (may_item hm hj) hc
theorem set_twice (x : VT) (p : List ByteArray) (t : VT) (hp : p ≠ []) (hm : mayT t = true) (hc : (goT (setFin x) t p).1 = 0) : goT (setFin x) (goT (setFin x) t p).2 p = (0, (goT (setFin x) t p).2) := goT_same p _ (set_get x p t hp hm hc)
end Go.Proofs.Ytlddhpjokiphfaa
