/- Which frames stand, by the document; whether two lists of bodies are the same. -/
import Derived.Test.YtclgekmpldeedaaGreatKFrmG
import Derived.Test.YtclgekmpldeedaaGreatKReg
namespace Go.Proofs.YtclgekmpldeedaaGreat
set_option linter.unusedVariables false
set_option linter.unusedSimpArgs false
open Go.RowKit

/-- An answer of bodies in a row of its own, and a number. -/
def ScansR (ls : List (List UInt8)) (n : Nat) (w : World) (e : Ending) (w' : World) : Prop := ∃ v, e = .returned (.tuple #[v, .int .i64 n]) ∧ Bods w' w.heap.size v ls ∧ Below w.heap.size w w'


theorem take_all_eq {a b : List (List UInt8)} {k : Nat} (hl : a.length = b.length) (hk : k = a.length) (h : a.take k = b.take k) : a = b := by
  subst hk
  rw [List.take_of_length_le (Nat.le_refl _), List.take_of_length_le (by omega)] at h
  exact h
theorem take_more_eq {a b : List (List UInt8)} {k : Nat} (h1 : k < a.length) (h2 : k < b.length) (h : a.take k = b.take k) (he : a[k] = b[k]) : a.take (k + 1) = b.take (k + 1) := by
  rw [List.take_succ_eq_append_getElem h1, List.take_succ_eq_append_getElem h2, h, he]

end Go.Proofs.YtclgekmpldeedaaGreat
