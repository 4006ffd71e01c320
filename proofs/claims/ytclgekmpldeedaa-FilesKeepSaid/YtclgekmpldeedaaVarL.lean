/- What must come of every program at the first layer, comes. -/
import Derived.Test.YtclgekmpldeedaaVarI
namespace Go.Proofs.Ytclgekmpldeedaa
set_option linter.unusedVariables false
set_option linter.unusedSimpArgs false
open Go.RowKit

theorem grp300 : grp 300 = [172, 2] := by decide
theorem grp1 : grp (zig (-1)) = [1] := by decide
theorem grp64 : grp (zig 64) = [128, 1] := by decide
theorem txtab : txt ⟨#[97, 98]⟩ = [2, 97, 98] := by decide

theorem rd1 : rdInt (some [1, 2, 97, 98]) = (-1, some [2, 97, 98]) := by decide
theorem rd2 : rdText 9 (some [2, 97, 98]) = ([97, 98], some []) := by decide
theorem rd3 : rdByte (some []) = (0, none) := by decide
theorem isEmpty_mk (l : List UInt8) : (⟨l.toArray⟩ : ByteArray).toList.isEmpty = l.isEmpty := by rw [ByteArray.toList_eq]

end Go.Proofs.Ytclgekmpldeedaa
