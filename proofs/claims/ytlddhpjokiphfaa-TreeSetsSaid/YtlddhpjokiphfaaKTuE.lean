/- Lengths behind a Set: plain; and what the law asks of one. -/
import Derived.Test.YtlddhpjokiphfaaKTuC
namespace Go.Proofs.Ytlddhpjokiphfaa
set_option linter.unusedVariables false
set_option linter.unusedSimpArgs false
open Go.RowKit
theorem lens_set {K : Nat} {t y : VT} {j : Nat} (h : lensT K t = true) (hy : lensT K y = true) : lensT K (setT t j y) = true := by
  obtain ⟨h1, h2, h3⟩ := (lensT_iff t).1 h
  cases t with
  | mk k i s l ns =>
    refine (lensT_iff _).2 ⟨by show (l.set j y).length ≤ K; rw [List.length_set]; exact h1, h2, fun x hx => ?_⟩
    rcases List.mem_or_eq_of_mem_set (show x ∈ l.set j y from hx) with hx | rfl
    · exact h3 x hx
    · exact hy
theorem lens_addI {K : Nat} {t y : VT} (h : lensT K t = true) (hy : lensT (K + 1) y = true) : lensT (K + 1) (addI t y) = true := by
  obtain ⟨h1, h2, h3⟩ := (lensT_iff t).1 h
  cases t with
  | mk k i s l ns =>
    simp only [VT.items, VT.names] at h1 h2 h3
    refine (lensT_iff _).2 ⟨by show (l ++ [y]).length ≤ K + 1; simp; omega, by show ns.length ≤ K + 1; omega, fun x hx => ?_⟩
    rcases List.mem_append.1 (show x ∈ l ++ [y] from hx) with hx | hx
    · exact lens_mono (by omega) x (h3 x hx)
    · rw [List.mem_singleton.1 hx]; exact hy
theorem lens_addIN {K : Nat} {t y : VT} {s : ByteArray} (h : lensT K t = true) (hy : lensT (K + 1) y = true) : lensT (K + 1) (addI (addN t s) y) = true := by
  obtain ⟨h1, h2, h3⟩ := (lensT_iff t).1 h
  cases t with
  | mk k i x l ns =>
    simp only [VT.items, VT.names] at h1 h2 h3
    refine (lensT_iff _).2 ⟨by show (l ++ [y]).length ≤ K + 1; simp; omega, by show (ns ++ [s]).length ≤ K + 1; simp; omega, fun x hx => ?_⟩
    rcases List.mem_append.1 (show x ∈ l ++ [y] from hx) with hx | hx
    · exact lens_mono (by omega) x (h3 x hx)
    · rw [List.mem_singleton.1 hx]; exact hy
theorem lens_nest {K : Nat} {x : VT} (hK : 1 ≤ K) (hx : lensT K x = true) : ∀ r : List ByteArray, lensT K (nestT r x) = true
  | [] => hx
  | s :: r => by
    show lensT K (oneT s (nestT r x)) = true
    refine (lensT_iff _).2 ⟨hK, hK, fun y hy => ?_⟩
    rw [List.mem_singleton.1 (show y ∈ [nestT r x] from hy)]
    exact lens_nest hK hx r
theorem lens_goT {K : Nat} {x : VT} (hx : lensT K x = true) : ∀ (p : List ByteArray) (t : VT), mayT t = true → lensT K t = true → lensT (K + 1) (goT (setFin x) t p).2 = true
  | [], t, _, h => by unfold goT; exact lens_mono (by omega) t h
  | s :: r, t, hm, h => by
    have hx1 := lens_mono (Nat.le_succ K) x hx
    have ht1 := lens_mono (Nat.le_succ K) t h
    by_cases he : placeT t s < 0 ∨ r = []
    · rw [goT_end he, setFin_cons]
      by_cases h0 : 0 ≤ placeT t s
      · rw [if_pos h0]
        exact lens_set ht1 hx1
      · rw [if_neg h0]
        by_cases h7 : t.kind = 7
        · rw [if_pos h7]
          exact lens_addIN h (lens_nest (by omega) hx1 r)
        · rw [if_neg h7]
          by_cases h6 : t.kind = 6 ∧ nextT t s r = true
          · rw [if_pos h6]
            exact lens_addI h hx1
          · rw [if_neg h6]
            exact ht1
    · have h0 : 0 ≤ placeT t s := Int.not_lt.1 fun k => he (.inl k)
      have hr : r ≠ [] := fun k => he (.inr k)
      have hj := placeT_lt (may_nl hm) h0
      rw [goT_on h0 hr hj]
      exact lens_set ht1 (lens_goT hx r _ (may_item hm hj) (((lensT_iff t).1 h).2.2 _ (List.getElem_mem hj)))
/-- A set of a value that may be, where the value and the path are right: refused, or done; a second time nothing changes. -/
theorem set_facts {t x : VT} {p : List ByteArray} (hw : wrongT t p = 0) (hx : mayT x = true) (hl : lensT 3000 t = true) (hlx : lensT 3000 x = true) :
    ((if mayT x = true then changeT (setFin x) t p else (20, nilT)) = (40, nilT) ∧ (setO x t p).2 = false) ∨
    ∃ R, (if mayT x = true then changeT (setFin x) t p else (20, nilT)) = (0, R) ∧ setO x t p = (R, true) ∧ tgotT R p = some x ∧ (if mayT x = true then changeT (setFin x) R p else (20, nilT)) = (0, R) ∧ smallT R ∧ depthT R ≤ depthT t + (depthT x + p.length) := by
  obtain ⟨hm, hk, hp⟩ := wrong_zero hw.symm
  have hpne : p ≠ [] := fun e => by rw [e] at hp; exact absurd hp (by decide)
  obtain ⟨m1, m2⟩ := goT_may (set_may x hx) p t hm (mayP_names hp)
  obtain ⟨i1, i2⟩ := setO_is x p t hm hpne
  rw [if_pos hx]
  rcases goT_code (c := fun x => x = 0 ∨ x = 40) (.inl rfl) (set_code x) p t with hc | hc
  · refine .inr ⟨_, goT_zero hw hc, i1 hc, ?_, ?_, lens_mono (by decide) _ (lens_goT hlx p t hm hl), goT_depth (L := p.length) (fun t s r hr => set_depth x p.length t s r hr) p t (by omega)⟩
    · have hd : docB (goT (setFin x) t p).2 = true := by unfold docB; rw [m1, m2, decide_eq_true hk]; rfl
      have hw2 : wrongT (goT (setFin x) t p).2 p = 0 := by unfold wrongT; rw [hd, hp]; rfl
      unfold tgotT
      rw [if_pos hw2]
      exact set_get x p t hpne hm hc
    · have hd : docB (goT (setFin x) t p).2 = true := by unfold docB; rw [m1, m2, decide_eq_true hk]; rfl
      have hw2 : wrongT (goT (setFin x) t p).2 p = 0 := by unfold wrongT; rw [hd, hp]; rfl
      rw [if_pos hx]
      have h2 := set_twice x p t hpne hm hc
      have := goT_zero hw2 (by rw [h2])
      rw [h2] at this
      exact this
  · refine .inl ⟨?_, i2 (by rw [hc]; decide)⟩
    unfold changeT
    rw [if_pos hw, if_neg (by rw [hc]; decide), hc]
end Go.Proofs.Ytlddhpjokiphfaa
