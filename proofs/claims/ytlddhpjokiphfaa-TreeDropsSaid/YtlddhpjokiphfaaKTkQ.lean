/- Twice is once; what was set lies there. Plain. -/
import Derived.Test.YtlddhpjokiphfaaKTkM
namespace Go.Proofs.Ytlddhpjokiphfaa
set_option linter.unusedVariables false
set_option linter.unusedSimpArgs false
theorem setT_setT (t : VT) (j : Nat) (u v : VT) : setT (setT t j u) j v = setT t j v := by cases t; simp [setT]
theorem placeT_rem_aux {s : ByteArray} : ∀ (ns : List ByteArray) (j : Nat), ns.Nodup → nmI 0 ns s = (j : Int) → nmI 0 (ns.eraseIdx j) s = -1
  | [], j, _, h => by unfold nmI at h; omega
  | a :: r, j, hn, h => by
    rw [List.nodup_cons] at hn
    by_cases ha : a = s
    · have e : nmI 0 (a :: r) s = 0 := by unfold nmI; rw [if_pos ha]; rfl
      have : j = 0 := by omega
      subst this
      subst ha
      simp only [List.eraseIdx_zero, List.tail_cons]
      exact nmI_miss fun i hi e => hn.1 (e ▸ List.getElem_mem hi)
    · have e : nmI 0 (a :: r) s = nmI 1 r s := by conv => lhs; unfold nmI
                                                  rw [if_neg ha]
      have e2 := nmI_shift s r 1
      have h3 := (nmI_lt (s := s) (l := r) (k := 0)).1
      rw [e, e2] at h
      have hnn : ¬ nmI 0 r s < 0 := fun hh => by rw [if_pos hh] at h; omega
      rw [if_neg hnn] at h
      obtain ⟨i, rfl⟩ : ∃ i, j = i + 1 := ⟨j - 1, by omega⟩
      have hi : nmI 0 r s = (i : Int) := by omega
      have ih := placeT_rem_aux r i hn.2 hi
      simp only [List.eraseIdx_cons_succ]
      unfold nmI
      rw [if_neg ha, nmI_shift, ih, if_pos (by omega)]
theorem placeT_rem {t : VT} {s : ByteArray} (hm : mayT t = true) (hk : t.kind = 7) (h : 0 ≤ placeT t s) : placeT (remT t (placeT t s).toNat) s < 0 := by
  have e : nmI 0 t.names s = ((placeT t s).toNat : Int) := by rw [placeT_doc hk] at h ⊢; omega
  rw [placeT_doc ((remT_kind _ _).trans hk)]
  have hd := (mayT_iff t).1 hm
  cases t with
  | mk k i x l ns =>
    obtain ⟨-, -, -, d⟩ := (fits_doc hk).1 hd.1
    show nmI 0 (ns.eraseIdx _) s < 0
    rw [placeT_rem_aux ns _ (nodup_ext.1 d).2 e]
    omega
theorem goT_zero_of {fin : VT → List ByteArray → Int × VT} {t : VT} {s : ByteArray} {r : List ByteArray} (h : 0 ≤ placeT t s) (hr : r ≠ []) (hj : (placeT t s).toNat < t.items.length)
    (ih : (goT fin (goT fin t.items[(placeT t s).toNat] r).2 r).2 = (goT fin t.items[(placeT t s).toNat] r).2) : (goT fin (goT fin t (s :: r)).2 (s :: r)).2 = (goT fin t (s :: r)).2 := by
  rw [goT_on h hr hj]
  obtain ⟨X, hX⟩ : ∃ X, X = (goT fin t.items[(placeT t s).toNat] r).2 := ⟨_, rfl⟩
  rw [← hX] at ih ⊢
  show (goT fin (setT t (placeT t s).toNat X) (s :: r)).2 = setT t (placeT t s).toNat X
  have hp := setT_place t (placeT t s).toNat X s
  have hj2 : (placeT (setT t (placeT t s).toNat X) s).toNat < (setT t (placeT t s).toNat X).items.length := by rw [hp, setT_items, List.length_set]; exact hj
  rw [goT_on (by rw [hp]; exact h) hr hj2]
  have hit : (setT t (placeT t s).toNat X).items[(placeT (setT t (placeT t s).toNat X) s).toNat] = X := by
    simp only [hp, setT_items, List.getElem_set_self]
  show setT _ _ (goT fin _ r).2 = _
  rw [hit, ih, hp, setT_setT]
theorem drop_twice : ∀ (p : List ByteArray) (t : VT), mayT t = true → (goT dropFin (goT dropFin t p).2 p).2 = (goT dropFin t p).2
  | [], t, _ => by simp [goT]
  | s :: r, t, hm => by
    by_cases he : placeT t s < 0 ∨ r = []
    · rw [goT_end he, dropFin_cons]
      show (goT dropFin (if _ then _ else _) _).2 = (if _ then _ else _)
      by_cases hn : placeT t s < 0
      · rw [if_pos hn, goT_end he, dropFin_cons]
        exact if_pos hn
      · rw [if_neg hn]
        have h0 : 0 ≤ placeT t s := Int.not_lt.1 hn
        obtain rfl := he.resolve_left hn
        by_cases h7 : t.kind = 7
        · rw [if_pos h7, goT_end (.inr rfl), dropFin_cons]
          exact if_pos (placeT_rem hm h7 h0)
        · rw [if_neg h7, goT_end (.inr rfl), dropFin_cons]
          show (if _ then _ else _) = _
          rw [setT_place, if_neg hn, setT_kind, if_neg h7, setT_setT]
    · have h0 : 0 ≤ placeT t s := Int.not_lt.1 fun k => he (.inl k)
      have hr : r ≠ [] := fun k => he (.inr k)
      have hj := placeT_lt (may_nl hm) h0
      exact goT_zero_of h0 hr hj (drop_twice r _ (may_item hm hj))
theorem cutV_cutV (x : VT) (n : Int) (hn : 0 ≤ n) : cutV (cutV x n) n = cutV x n := by
  unfold cutV
  split
  · rename_i h
    cases x with
    | mk k i s l ns =>
      have hk : k = 6 := h.1
      show (if (VT.mk k i s (l.take n.toNat) ns).kind = 6 ∧ n < ((l.take n.toNat).length : Int) then _ else _) = _
      rw [if_neg]
      · rintro ⟨-, h2⟩
        rw [List.length_take] at h2
        omega
  · rfl
theorem cut_twice (n : Int) : ∀ (p : List ByteArray) (t : VT), mayT t = true → (goT (cutFin n) (goT (cutFin n) t p).2 p).2 = (goT (cutFin n) t p).2
  | [], t, _ => by simp [goT]
  | s :: r, t, hm => by
    by_cases he : placeT t s < 0 ∨ r = []
    · rw [goT_end he, cutFin_cons]
      by_cases hneg : n < 0
      · rw [if_pos hneg]
        show (goT (cutFin n) t (s :: r)).2 = t
        rw [goT_end he, cutFin_cons, if_pos hneg]
      · rw [if_neg hneg]
        show (goT (cutFin n) (if _ then _ else _) _).2 = (if _ then _ else _)
        by_cases hn : placeT t s < 0
        · rw [if_pos hn, goT_end he, cutFin_cons, if_neg hneg]
          exact if_pos hn
        · rw [if_neg hn]
          have h0 : 0 ≤ placeT t s := Int.not_lt.1 hn
          obtain rfl := he.resolve_left hn
          have hj := placeT_lt (may_nl hm) h0
          rw [List.getElem?_eq_getElem hj]
          show (goT (cutFin n) (setT _ _ _) [s]).2 = setT _ _ _
          rw [goT_end (.inr rfl), cutFin_cons, if_neg hneg]
          show (if _ then _ else _) = _
          rw [setT_place, if_neg hn, setT_items, List.getElem?_set_self hj]
          show setT (setT _ _ _) _ _ = _
          rw [setT_setT, cutV_cutV _ _ (by omega)]
    · have h0 : 0 ≤ placeT t s := Int.not_lt.1 fun k => he (.inl k)
      have hr : r ≠ [] := fun k => he (.inr k)
      have hj := placeT_lt (may_nl hm) h0
      exact goT_zero_of h0 hr hj (cut_twice n r _ (may_item hm hj))
end Go.Proofs.Ytlddhpjokiphfaa
