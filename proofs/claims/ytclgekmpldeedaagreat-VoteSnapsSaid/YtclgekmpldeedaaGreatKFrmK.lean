/- Frames that stand, plain: one that is whole is found, one that is cut is not; each bytes have just one answer. -/
import Derived.Test.YtclgekmpldeedaaGreatKFrmJ
namespace Go.Proofs.YtclgekmpldeedaaGreat
set_option linter.unusedVariables false
set_option linter.unusedSimpArgs false
open Go.RowKit

theorem getG_more : ∀ (p r : List UInt8) (i acc : Nat), (getG i acc p).2 ≠ 0 → getG i acc (p ++ r) = getG i acc p
  | [], r, i, acc, h => absurd rfl h
  | b :: p, r, i, acc, h => by
    rw [List.cons_append]
    unfold getG at h ⊢
    by_cases h1 : 10 ≤ i
    · rw [if_pos h1] at h; exact absurd rfl h
    · rw [if_neg h1] at h ⊢
      rw [if_neg h1]
      by_cases h2 : i = 9 ∧ 1 < b.toNat
      · rw [if_pos h2] at h; exact absurd rfl h
      · rw [if_neg h2] at h ⊢
        rw [if_neg h2]
        by_cases h3 : b.toNat < 128
        · rw [if_pos h3, if_pos h3]
        · rw [if_neg h3] at h ⊢
          rw [if_neg h3]
          exact getG_more p r _ _ h
theorem getG_cut (n j : Nat) (hn : n < 18446744073709551616) (hj : j < (grp n).length) : (getG 0 0 ((grp n).take j)).2 = 0 := by
  rcases Nat.eq_zero_or_pos (getG 0 0 ((grp n).take j)).2 with h | h
  · exact h
  · have h1 := getG_more ((grp n).take j) ((grp n).drop j) 0 0 (by omega)
    rw [List.take_append_drop] at h1
    have h2 := getG_grp n [] hn
    rw [List.append_nil, h1] at h2
    have h3 := (getG_size_le ((grp n).take j) 0 0).1
    rw [h2, List.length_take] at h3
    simp only at h3
    omega
theorem rdCount_grp (n : Nat) (r : List UInt8) (hn : n ≤ 65536) : rdCount 65536 (some (grp n ++ r)) = (n, some r) := by
  unfold rdCount
  rw [if_neg (by decide)]
  have e : mc 65536 = 65536 := by unfold mc; rw [if_pos (by decide)]; rfl
  rw [e]
  simp only [rdN]
  have hg := getG_grp n r (by omega)
  have hl := (grp_length n).2
  rw [hg, if_neg (by simp only; omega)]
  simp only [List.drop_left]
theorem next_frame (l r : List UInt8) (h : l.length ≤ 65536) : nextF (frameF l ++ r) = some (l, frameLen l.length) := by
  have e : frameF l ++ r = grp l.length ++ (l ++ (loB 4 (crcOf (headF l)) ++ r)) := by unfold frameF headF; simp
  have hc := rdCount_grp l.length (l ++ (loB 4 (crcOf (headF l)) ++ r)) h
  rw [← e] at hc
  have h4 := loB_length 4 (crcOf (headF l))
  have el : (frameF l ++ r).length - (l ++ (loB 4 (crcOf (headF l)) ++ r)).length + l.length = (headF l).length := by
    rw [e]; unfold headF; simp only [List.length_append]; omega
  rw [nextF_some hc, if_neg (by simp only [List.length_append]; omega), el]
  have e2 : (frameF l ++ r).take (headF l).length = headF l := by
    unfold frameF
    rw [List.append_assoc, List.take_left]
  rw [e2, List.drop_left, List.take_left' h4, if_pos rfl, List.take_left]
  unfold frameLen headF
  rw [List.length_append]
theorem next_cut (l : List UInt8) (j : Nat) (h : l.length ≤ 65536) (hj : j < frameLen l.length) : nextF ((frameF l).take j) = none := by
  by_cases hg : j < (grp l.length).length
  · have e : (frameF l).take j = (grp l.length).take j := by
      unfold frameF headF
      rw [List.append_assoc, List.take_append_of_le_length (by omega)]
    rw [e]
    apply nextF_bad
    unfold rdCount
    rw [if_neg (by decide)]
    simp only [rdN]
    rw [if_pos (.inl (getG_cut l.length j (by omega) hg))]
  · have e : (frameF l).take j = grp l.length ++ (l ++ loB 4 (crcOf (headF l))).take (j - (grp l.length).length) := by
      have e1 : frameF l = grp l.length ++ (l ++ loB 4 (crcOf (headF l))) := by unfold frameF headF; simp
      rw [e1, List.take_append]
      rw [List.take_of_length_le (by omega)]
    have hc := rdCount_grp l.length ((l ++ loB 4 (crcOf (headF l))).take (j - (grp l.length).length)) h
    rw [← e] at hc
    rw [nextF_some hc, if_pos]
    rw [List.length_take]
    unfold frameLen at hj
    omega
theorem next_nil : nextF [] = none := by
  apply nextF_bad
  unfold rdCount
  rw [if_neg (by decide)]
  simp only [rdN, getG]
  rfl
theorem scan_exists : ∀ (n : Nat) (l : List UInt8), l.length ≤ n → ∃ bs m, ScanR l bs m ∧ m ≤ l.length
  | 0, l, h => by
    obtain rfl : l = [] := List.eq_nil_of_length_eq_zero (by omega)
    exact ⟨[], 0, .stop next_nil, Nat.le_refl _⟩
  | n + 1, l, h => by
    rcases hx : nextF l with _ | ⟨b, k⟩
    · exact ⟨[], 0, .stop hx, by omega⟩
    · obtain ⟨k1, k2, _, _⟩ := nextF_le hx
      obtain ⟨bs, m, h1, h2⟩ := scan_exists n (l.drop k) (by rw [List.length_drop]; omega)
      rw [List.length_drop] at h2
      exact ⟨b :: bs, k + m, .step hx h1, by omega⟩
end Go.Proofs.YtclgekmpldeedaaGreat
