/- The document's own code of a value. -/
import Derived.Test.YtipiplnhbecjeaaKCodY
import Derived.Test.YtipiplnhbecjeaaKVarD
namespace Go.Proofs.Ytipiplnhbecjeaa
set_option linter.unusedVariables false
set_option linter.unusedSimpArgs false
set_option maxRecDepth 100000
open Go.RowKit
theorem own_one {w : World} {b : UInt8} {k : Int} (hk : (b.toNat : Int) = k) {B : Nat} (hB : B ≤ w.heap.size) : OwnB (w.alloc (.cells #[.int .u8 k] 5)) B (.slice (some ⟨w.heap.size, 0, none⟩) 1 1) [b] :=
  ⟨rfl, .inr ⟨w.heap.size, 1, #[.int .u8 k], rfl, hB, heap_alloc_new w _, Nat.le_refl _, by decide, rfl, by simp [bcells, hk]⟩⟩









end Go.Proofs.Ytipiplnhbecjeaa
