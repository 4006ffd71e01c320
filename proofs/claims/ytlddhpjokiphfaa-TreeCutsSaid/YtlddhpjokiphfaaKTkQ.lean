/- Twice is once; what was set lies there. Plain. -/
import Derived.Test.YtlddhpjokiphfaaKTkM
namespace Go.Proofs.Ytlddhpjokiphfaa
set_option linter.unusedVariables false
set_option linter.unusedSimpArgs false
theorem setT_setT (t : VT) (j : Nat) (u v : VT) : setT (setT t j u) j v = setT t j v := by cases t; simp [setT]
theorem placeT_rem_aux {s : ByteArray} : ∀ (ns : List ByteArray) (j : Nat), ns.Nodup → nmI 0 ns s = (j : Int) → nmI 0 (ns.eraseIdx j) s = -1
  | [], j, _, h => by unfold nmI at h; omega
  | a :: r, j, hn, h => by
    rw [List.nodup_cons] at hn
    by_cases ha : a = s
    · have e : nmI 0 (a :: r) s = 0 := by unfold nmI; rw [if_pos ha]; rfl
      have : j = 0 := by omega
      subst this
      subst ha
      simp only [List.eraseIdx_zero, List.tail_cons]
      exact nmI_miss fun i hi e => hn.1 (e ▸ List.getElem_mem hi)
    · have e : nmI 0 (a :: r) s = nmI 1 r s := by conv => lhs; unfold nmI
                                                  rw [if_neg ha]
      have e2 := nmI_shift s r 1
      have h3 := (nmI_lt (s := s) (l := r) (k := 0)).1
      rw [e, e2] at h
      have hnn : ¬ nmI 0 r s < 0 := fun hh => by rw [if_pos hh] at h; omega
      rw [if_neg hnn] at h
      obtain ⟨i, rfl⟩ : ∃ i, j = i + 1 := ⟨j - 1, by omega⟩
      have hi : nmI 0 r s = (i : Int) := by omega
      have ih := placeT_rem_aux r i hn.2 hi
      simp only [List.eraseIdx_cons_succ]
      unfold nmI
      rw [if_neg ha, nmI_shift, ih, if_pos (by omega)]
theorem placeT_rem {t : VT} {s : ByteArray} (hm : mayT t = true) (hk : t.kind = 7) (h : 0 ≤ placeT t s) : placeT (remT t (placeT t s).toNat) s < 0 := by
  have e : nmI 0 t.names s = ((placeT t s).toNat : Int) := by rw [placeT_doc hk] at h ⊢; omega
  rw [placeT_doc ((remT_kind _ _).trans hk)]
  have hd := (mayT_iff t).1 hm
  cases t with
  | mk k i x l ns =>
    obtain ⟨-, -, -, d⟩ := (fits_doc hk).1 hd.1
    show nmI 0 (ns.eraseIdx _) s < 0
    rw [placeT_rem_aux ns _ (nodup_ext.1 d).2 e]
    omega
theorem goT_zero_of {fin : VT → List ByteArray → Int × VT} {t : VT} {s : ByteArray} {r : List ByteArray} (h : 0 ≤ placeT t s) (hr : r ≠ []) (hj : (placeT t s).toNat < t.items.length)
    (ih : (goT fin (goT fin t.items[(placeT t s).toNat] r).2 r).2 = (goT fin t.items[(placeT t s).toNat] r).2) : (goT fin (goT fin t (s :: r)).2 (s :: r)).2 = (goT fin t (s :: r)).2 := by
  rw [goT_on h hr hj]
  obtain ⟨X, hX⟩ : ∃ X, X = (goT fin t.items[(placeT t s).toNat] r).2 := ⟨_, rfl⟩
  rw [← hX] at ih ⊢
  show (goT fin (setT t (placeT t s).toNat X) (s :: r)).2 = setT t (placeT t s).toNat X
  have hp := setT_place t (placeT t s).toNat X s
  have hj2 : (placeT (setT t (placeT t s).toNat X) s).toNat < (setT t (placeT t s).toNat X).items.length := by rw [hp, setT_items, List.length_set]; exact hj
  rw [goT_on (by rw [hp]; exact h) hr hj2]
  have hit : (setT t (placeT t s).toNat X).items[(placeT (setT t (placeT t s).toNat X) s).toNat] = X := by
    simp only [hp, setT_items, List.getElem_set_self]
  show setT _ _ (goT fin _ r).2 = _
  rw [hit, ih, hp, setT_setT]
theorem drop_twice : ∀ (p : List ByteArray) (t : VT), mayT t = true → (goT dropFin (goT dropFin t p).2 p).2 = (goT dropFin t p).2
  | [], t, _ => by simp [goT]
  | s :: r, t, hm => by
    by_cases he : placeT t s < 0 ∨ r = []
    · rw [goT_end he, dropFin_cons]
      show (goT dropFin (if _ then _ else _) _).2 = (if _ then _ else _)
      by_cases hn : placeT t s < 0
      · rw [if_pos hn, goT_end he, dropFin_cons]
        exact if_pos hn
      · rw [if_neg hn]
        have h0 : 0 ≤ placeT t s := Int.not_lt.1 hn
        obtain rfl := he.resolve_left hn
        by_cases h7 : t.kind = 7
        · rw [if_pos h7, goT_end (.inr rfl), dropFin_cons]
          exact if_pos (placeT_rem hm h7 h0)
        · rw [if_neg h7, goT_end (.inr rfl), dropFin_cons]
          show (if _ then _ else _) = _
          rw [setT_place, if_neg hn, setT_kind, if_neg h7, setT_setT]
    · have h0 : 0 ≤ placeT t s := Int.not_lt.1 fun k => he (.inl k)
      have hr : r ≠ [] := fun k => he (.inr k)
      have hj := placeT_lt (may_nl hm) h0
      exact goT_zero_of h0 hr hj (drop_twice r _ (may_item hm hj))
theorem cutV_cutV (x : VT) (n : Int) (hn : 0 ≤ n) : cutV (cutV x n) n = cutV x n := by
  unfold cutV
  split
  · rename_i h
    cases x with
    | mk k i s l ns =>
      have hk : k = 6 := h.1
      show (if (VT.mk k i s (l.take n.toNat) ns).kind = 6 ∧ n < ((l.take n.toNat).length : Int) then _ else _) = _
      rw [if_neg]
      · rintro ⟨-, h2⟩
        rw [List.length_take] at h2
        omega
  · rfl
theorem cut_twice (n : Int) : ∀ (p : List ByteArray) (t : VT), mayT t = true → (goT (cutFin n) (goT (cutFin n) t p).2 p).2 = (goT (cutFin n) t p).2
  | [], t, _ => by simp [goT]
  | s :: r, t, hm => by
    by_cases he : placeT t s < 0 ∨ r = []
    · rw [goT_end he, cutFin_cons]
      by_cases hneg : n < 0
      · rw [if_pos hneg]
        show (goT (cutFin n) t (s :: r)).2 = t
        rw [goT_end he, cutFin_cons, if_pos hneg]
      · rw [if_neg hneg]
        show (goT (cutFin n) (if _ then _ else _) _).2 = (if _ then _ else _)
        by_cases hn : placeT t s < 0
        · rw [if_pos hn, goT_end he, cutFin_cons, if_neg hneg]
          exact if_pos hn
        · rw [if_neg hn]
          have h0 : 0 ≤ placeT t s := Int.not_lt.1 hn
          obtain rfl := he.resolve_left hn
          have hj := placeT_lt (may_nl hm) h0
          rw [List.getElem?_eq_getElem hj]
          show (goT (cutFin n) (setT _ _ _) [s]).2 = setT _ _ _
          rw [goT_end (.inr rfl), cutFin_cons, if_neg hneg]
          show (if _ then _ else _) = _
          rw [setT_place, if_neg hn, setT_items, List.getElem?_set_self hj]
          show setT (setT _ _ _) _ _ = _
          rw [setT_setT, cutV_cutV _ _ (by omega)]
    · have h0 : 0 ≤ placeT t s := Int.not_lt.1 fun k => he (.inl k)
      have hr : r ≠ [] := fun k => he (.inr k)
      have hj := placeT_lt (may_nl hm) h0
      exact goT_zero_of h0 hr hj (cut_twice n r _ (may_item hm hj))
end Go.Proofs.Ytlddhpjokiphfaa

/- What was set lies there; setting it again changes nothing. Plain. -/
namespace Go.Proofs.Ytlddhpjokiphfaa
set_option linter.unusedVariables false
set_option linter.unusedSimpArgs false
theorem setT_self {t u : VT} {k : Nat} (h : t.items[k]? = some u) : setT t k u = t := by
  cases t with
  | mk kd i s l ns =>
    show VT.mk kd i s (l.set k u) ns = _
    have h' : l[k]? = some u := h
    obtain ⟨hk, e⟩ := List.getElem?_eq_some_iff.1 h'
    rw [← e, List.set_getElem_self]
theorem goT_same {x : VT} : ∀ (p : List ByteArray) (t : VT), getT t p = some x → goT (setFin x) t p = (0, t)
  | [], t, _ => by unfold goT; rfl
  | s :: r, t, h => by
    rw [getT_item] at h
    cases hi : itemT t s with
    | none => rw [hi] at h; cases h
    | some u =>
      rw [hi] at h
      have hu : getT u r = some x := h
      unfold itemT at hi
      split at hi
      · cases hi
      · rename_i hn
        have h0 : 0 ≤ placeT t s := Int.not_lt.1 hn
        have hj : (placeT t s).toNat < t.items.length := (List.getElem?_eq_some_iff.1 hi).1
        have hje : t.items[(placeT t s).toNat] = u := (List.getElem?_eq_some_iff.1 hi).2
        by_cases hr : r = []
        · subst hr
          unfold getT at hu
          injection hu with hu
          subst hu
          rw [goT_end (.inr rfl), setFin_cons, if_pos h0, setT_self hi]
        · rw [goT_on h0 hr hj, hje, goT_same r u hu]
          show ((0 : Int), setT t _ u) = _
          rw [setT_self hi]
theorem nest_get (x : VT) : ∀ r : List ByteArray, getT (nestT r x) r = some x
  | [] => by unfold getT; rfl
  | s :: r => by
    show getT (oneT s (nestT r x)) (s :: r) = _
    rw [getT_item, item_one, if_pos rfl]
    exact nest_get x r
theorem set_get (x : VT) : ∀ (p : List ByteArray) (t : VT), p ≠ [] → mayT t = true → (goT (setFin x) t p).1 = 0 → getT (goT (setFin x) t p).2 p = some x
  | [], _, hp, _, _ => absurd rfl hp
  | s :: r, t, _, hm, hc => by
    by_cases he : placeT t s < 0 ∨ r = []
    · rw [goT_end he, setFin_cons] at hc ⊢
      by_cases hn : placeT t s < 0
      · rw [if_neg (by omega)] at hc ⊢
        by_cases h7 : t.kind = 7
        · rw [if_pos h7]
          show getT (addI (addN t s) (nestT r x)) _ = _
          rw [getT_item, item_add_self _ h7 (may_nl_eq hm h7) hn]
          exact nest_get x r
        · rw [if_neg h7] at hc ⊢
          by_cases h6 : t.kind = 6 ∧ nextT t s r = true
          · rw [if_pos h6]
            obtain ⟨h6, hx⟩ := h6
            unfold nextT at hx
            rw [Bool.and_eq_true, decide_eq_true_eq, decide_eq_true_eq] at hx
            obtain rfl : r = [] := List.eq_nil_of_length_eq_zero hx.2
            show getT (addI t x) _ = _
            rw [getT_item, item_push_self _ h6 hx.1]
            show getT x [] = _
            unfold getT
            rfl
          · rw [if_neg h6] at hc
            cases hc
      · have h0 : 0 ≤ placeT t s := Int.not_lt.1 hn
        obtain rfl := he.resolve_left hn
        rw [if_pos h0]
        show getT (setT _ _ _) _ = _
        rw [getT_item, item_set_at _ h0 (placeT_lt (may_nl hm) h0)]
        show getT x [] = _
        unfold getT
        rfl
    · have h0 : 0 ≤ placeT t s := Int.not_lt.1 fun k => he (.inl k)
      have hr : r ≠ [] := fun k => he (.inr k)
      have hj := placeT_lt (may_nl hm) h0
      rw [goT_on h0 hr hj] at hc ⊢
      show getT (setT _ _ _) _ = _
      rw [getT_item, item_set_at _ h0 hj]
      exact set_get x r _ hr (may_item hm hj) hc
theorem set_twice (x : VT) (p : List ByteArray) (t : VT) (hp : p ≠ []) (hm : mayT t = true) (hc : (goT (setFin x) t p).1 = 0) : goT (setFin x) (goT (setFin x) t p).2 p = (0, (goT (setFin x) t p).2) := goT_same p _ (set_get x p t hp hm hc)
end Go.Proofs.Ytlddhpjokiphfaa
