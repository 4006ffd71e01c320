/- The code of a text, and the document's own answers for numbers, counts and texts, call by call. -/
import Derived.Test.YtclgekmpldeedaaVarB
namespace Go.Proofs.Ytclgekmpldeedaa
set_option linter.unusedVariables false
set_option linter.unusedSimpArgs false
open Go.RowKit

/-- A text's code. -/
def txt (s : ByteArray) : List UInt8 := grp s.size ++ s.data.toList
theorem strCells_bcells (s : ByteArray) : Lib.strCells s = bcells s.data.toList := rfl
theorem below_toStart {w w1 w2 : World} (h : Below w.heap.size w w1) (h2 : Below w1.heap.size w1 w2) : Below w.heap.size w w2 := h.trans (h2.mono h.size)
theorem below_of_grown {B : Nat} {w w1 : World} {row : Option Nat} (hg : w.grownBy w1 row) (hB : B ≤ w.heap.size) (hr : ∀ k, row = some k → B ≤ k) : Below B w w1 := (Below.refl _ _).grown hg hB hr


theorem wrap_div (m : Nat) (h : m < 18446744073709551616) : IntKind.u64.wrap ((m : Int) / 128) = ((m / 128 : Nat) : Int) := by rw [IntKind.wrap_u64]; omega
theorem u8_add128 (n : Nat) : IntKind.u8.wrap ((n : Int) % 128 + 128) = ((UInt8.ofNat (n % 128 + 128)).toNat : Int) := by
  rw [ofNat_toNat _ (by omega), IntKind.wrap_u8']; omega


end Go.Proofs.Ytclgekmpldeedaa
