/- Numbers, counts, bytes and texts read from a source that is nil, or that has something left, or is bad. -/
import Derived.Test.YtclgekmpldeedaaVarG
namespace Go.Proofs.Ytclgekmpldeedaa
set_option linter.unusedVariables false
set_option linter.unusedSimpArgs false
open Go.RowKit

theorem maxU : (18446744073709551615 : Int) = ((18446744073709551615 : Nat) : Int) := rfl
theorem rdN_lt (most : Nat) (st : Option (List UInt8)) : (rdN most st).1 < 18446744073709551616 := by
  cases st with
  | none => simp [rdN]
  | some l =>
    simp only [rdN]
    split
    · simp
    · exact getG_lt _ 0 0 (by decide) (by omega)
theorem rdN_le (most : Nat) (st : Option (List UInt8)) : (rdN most st).1 ≤ most := by
  cases st with
  | none => simp [rdN]
  | some l =>
    simp only [rdN]
    split
    · simp
    · simp only []; omega


end Go.Proofs.Ytclgekmpldeedaa
