/- The document's own source, on: counts and texts, what is left, whether all is read. -/
import Derived.Test.YtclgekmpldeedaaRefB
namespace Go.Proofs.Ytclgekmpldeedaa
set_option linter.unusedVariables false
set_option linter.unusedSimpArgs false
open Go.RowKit

def leftOf : Option (List UInt8) → Int
  | none => 0
  | some l => l.length
def doneOf : Option (List UInt8) → Int
  | none => 10
  | some l => if l.isEmpty then 0 else 10
theorem rdN_none (m : Nat) (st : Option (List UInt8)) (h : (rdN m st).2 = none) : (rdN m st).1 = 0 := by
  cases st with
  | none => rfl
  | some l =>
    simp only [rdN] at h ⊢
    split at h
    · next hc => rw [if_pos hc]
    · cases h


end Go.Proofs.Ytclgekmpldeedaa
