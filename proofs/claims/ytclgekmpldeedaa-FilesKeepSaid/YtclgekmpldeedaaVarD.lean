/- The document's code of a text; sources that are nil, bad or good: whether they are bad, what is left, whether all is read; spoiling; beginning. -/
import Derived.Test.YtclgekmpldeedaaVarC
import Derived.Laws.IdiomStrings
import Derived.Lib.ConvBytes
import Derived.BigQuiet
import Derived.Deep.QuietTactic
namespace Go.Proofs.Ytclgekmpldeedaa
set_option linter.unusedVariables false
set_option linter.unusedSimpArgs false
open Go.RowKit

theorem bytes_of (s : ByteArray) (w1 : World) : ∃ cap w2, (convert 9 22 (.string s)).run Try.prog w1 = .ok (.slice (some ⟨w1.heap.size, 0, none⟩) s.size cap) w2 ∧ Below w1.heap.size w1 w2 ∧
    (∀ j u, (bcells s.data.toList)[j]? = some u → w2.cell? ((⟨w1.heap.size, 0, none⟩ : Addr).add j) = some u) := by
  refine ⟨_, _, Lib.run_convert_string_bytes w1 9 22 5 s Try.underlying9 Try.underlying22 Try.underlying5, Go.Joins.below_bytesWorld _ _ _ _ (Nat.le_refl _), ?_⟩
  intro j u hu
  have hj : j < s.size := by
    have := (List.getElem?_eq_some_iff.1 hu).1
    simpa [bcells] using this
  have e : ((⟨w1.heap.size, 0, none⟩ : Addr).add j) = ⟨w1.heap.size, j, none⟩ := by unfold Addr.add; split <;> simp_all
  rw [e, Lib.bytesWorld_cell w1 _ s j hj]
  have hj' : j < s.data.toList.length := by simpa using hj
  simp only [bcells, List.getElem?_map, List.getElem?_eq_getElem hj', Option.map_some, List.getD, Option.getD_some] at hu ⊢
  exact hu


/-! Sources. -/

/-- All but block g is as it was. -/
abbrev Only (w w' : World) (g : Nat) : Prop := w.grownBy w' (some g)
theorem Only.refl (w : World) (g : Nat) : Only w w g := World.grownBy.refl w _
theorem Only.set {a w : World} {g : Nat} (h : Only a w g) (i : Nat) (u : Value) : Only a (w.setCell ⟨g, i, none⟩ u) g :=
  ⟨h.os, h.tape, h.output, by simpa [World.setCell] using h.size, fun k hk hne => (Below.heap_setCell w _ u k (by rintro rfl; exact hne rfl)).trans (h.block k hk hne)⟩
theorem Only.alloc {a w : World} {g : Nat} (h : Only a w g) (o : Obj) : Only a (w.alloc o) g :=
  ⟨h.os, h.tape, h.output, Nat.le_trans h.size (by simp), fun k hk hne => (Below.heap_alloc w o k (Nat.lt_of_lt_of_le hk h.size)).trans (h.block k hk hne)⟩
theorem Only.trans {a b c : World} {g : Nat} (h : Only a b g) (k : Only b c g) : Only a c g :=
  ⟨k.os.trans h.os, k.tape.trans h.tape, k.output.trans h.output, Nat.le_trans h.size k.size, fun i hi hne => (k.block i (Nat.lt_of_lt_of_le hi h.size) hne).trans (h.block i hi hne)⟩
/-- A store into a block that is new. -/
theorem Only.setNew {a w : World} {g : Nat} (h : Only a w g) {p : Addr} (hp : a.heap.size ≤ p.block) (u : Value) : Only a (w.setCell p u) g :=
  ⟨h.os, h.tape, h.output, by simpa [World.setCell] using h.size, fun k hk hne => (Below.heap_setCell w _ u k (by omega)).trans (h.block k hk hne)⟩
theorem Only.below {a w : World} {g B : Nat} (h : Only a w g) (hB : B ≤ a.heap.size) (hg : B ≤ g) : Below B a w :=
  ⟨h.os, h.tape, h.output, h.size, fun k hk => h.block k (by omega) (by rintro ⟨⟩; omega)⟩
theorem Only.ofBelow {a w : World} {g : Nat} (h : Below a.heap.size a w) : Only a w g := ⟨h.os, h.tape, h.output, h.size, fun k hk _ => h.block k hk⟩


end Go.Proofs.Ytclgekmpldeedaa
