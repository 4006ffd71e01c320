/- The document's own source: bytes, numbers, counts and texts. -/
import Derived.Test.YtclgekmpldeedaaRefA
namespace Go.Proofs.Ytclgekmpldeedaa
set_option linter.unusedVariables false
set_option linter.unusedSimpArgs false
open Go.RowKit

/-- What of a source's block is wanted in a walk. -/
structure RCells (w : World) (g : Nat) (v : Value) (b : Bool) : Prop where
  c0 : w.cell? ⟨g, 0, none⟩ = some v
  c1 : w.cell? ⟨g, 1, none⟩ = some (.bool b)
  f0 : w.frozen? ⟨g, 0, none⟩ = false
  f1 : w.frozen? ⟨g, 1, none⟩ = false


theorem zag_even (n : Nat) (h : n % 2 = 0) : zag n = ((n / 2 : Nat) : Int) := by unfold zag; rw [if_neg (by omega)]
theorem zag_odd (n : Nat) (h : ¬ n % 2 = 0) : zag n = -((n / 2 : Nat) : Int) - 1 := by unfold zag; rw [if_pos (by omega)]

/-- The document's count: from the groups. -/
theorem rdCount_bad {n : Int} {l : List UInt8} (h : (rdN 18446744073709551615 (some l)).2 = none ∨ 4611686018427387904 < (rdN 18446744073709551615 (some l)).1 ∨ n < ((rdN 18446744073709551615 (some l)).1 : Int)) (hn : (rdN 18446744073709551615 (some l)).2 = none → (rdN 18446744073709551615 (some l)).1 = 0) :
    rdCount n (some l) = (0, none) := by
  unfold rdCount
  split
  · rfl
  · next h0 =>
    rw [rdN_max] at h
    simp only [rdN]
    by_cases hz : (getG 0 0 l).2 = 0
    · rw [if_pos (Or.inl hz)]
    · rw [if_neg hz] at h
      rw [if_pos]
      refine .inr ?_
      unfold mc
      rcases h with h | h | h
      · cases h
      · split <;> (simp only [] at h; omega)
      · split <;> (simp only [] at h; omega)
theorem rdCount_good {n : Int} {l r : List UInt8} (h1 : (rdN 18446744073709551615 (some l)).2 = some r) (h2 : (rdN 18446744073709551615 (some l)).1 ≤ 4611686018427387904) (h3 : ((rdN 18446744073709551615 (some l)).1 : Int) ≤ n) :
    rdCount n (some l) = rdN 18446744073709551615 (some l) := by
  unfold rdCount
  rw [if_neg (by omega), rdN_max]
  rw [rdN_max] at h1 h2 h3
  by_cases hz : (getG 0 0 l).2 = 0
  · rw [if_pos hz] at h1; cases h1
  · rw [if_neg hz] at h2 h3 ⊢
    simp only [rdN]
    rw [if_neg]
    unfold mc
    simp only [] at h2 h3
    split <;> omega
end Go.Proofs.Ytclgekmpldeedaa
