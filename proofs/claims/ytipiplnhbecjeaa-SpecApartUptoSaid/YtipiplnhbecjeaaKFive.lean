/- Five cells behind one another: a value that is stored in a variable. -/
import Derived.Test.YtipiplnhbecjeaaKValK
import Derived.Test.YtipiplnhbecjeaaKVarD
import Derived.Laws.ResultCell
namespace Go.Proofs.Ytipiplnhbecjeaa
set_option linter.unusedVariables false
set_option linter.unusedSimpArgs false
open Go.RowKit
/-- Five cells that stand behind one another. -/
def five (w : World) (p o : Nat) (c0 c1 c2 c3 c4 : Value) : World := ((((w.setCell ⟨p, o, none⟩ c0).setCell ⟨p, o + 1, none⟩ c1).setCell ⟨p, o + 2, none⟩ c2).setCell ⟨p, o + 3, none⟩ c3).setCell ⟨p, o + 4, none⟩ c4
theorem five_other (w : World) (p o : Nat) (c0 c1 c2 c3 c4 : Value) (b : Nat) (h : b ≠ p) : (five w p o c0 c1 c2 c3 c4).heap[b]? = w.heap[b]? := by
  unfold five
  rw [heap_setCell_other _ ⟨p, _, none⟩ b _ h, heap_setCell_other _ ⟨p, _, none⟩ b _ h, heap_setCell_other _ ⟨p, _, none⟩ b _ h, heap_setCell_other _ ⟨p, _, none⟩ b _ h, heap_setCell_other _ ⟨p, _, none⟩ b _ h]
theorem five_size (w : World) (p o : Nat) (c0 c1 c2 c3 c4 : Value) : (five w p o c0 c1 c2 c3 c4).heap.size = w.heap.size := by simp [five]
theorem five_rest (w : World) (p o : Nat) (c0 c1 c2 c3 c4 : Value) : (five w p o c0 c1 c2 c3 c4).os = w.os ∧ (five w p o c0 c1 c2 c3 c4).tape = w.tape ∧ (five w p o c0 c1 c2 c3 c4).output = w.output := by
  have h : ∀ (w : World) (a : Addr) (u : Value), (w.setCell a u).os = w.os ∧ (w.setCell a u).tape = w.tape ∧ (w.setCell a u).output = w.output := fun _ _ _ => ⟨rfl, rfl, rfl⟩
  unfold five
  refine ⟨?_, ?_, ?_⟩
  · rw [(h _ _ _).1, (h _ _ _).1, (h _ _ _).1, (h _ _ _).1, (h _ _ _).1]
  · rw [(h _ _ _).2.1, (h _ _ _).2.1, (h _ _ _).2.1, (h _ _ _).2.1, (h _ _ _).2.1]
  · rw [(h _ _ _).2.2, (h _ _ _).2.2, (h _ _ _).2.2, (h _ _ _).2.2, (h _ _ _).2.2]
theorem five_box {w : World} {p : Nat} {a0 a1 a2 a3 a4 c0 c1 c2 c3 c4 : Value} (h : Box w p a0 a1 a2 a3 a4) : Box (five w p 0 c0 c1 c2 c3 c4) p c0 c1 c2 c3 c4 := by
  have h1 := (((h.set0 c0).set1 c1).set2 c2).set3 c3
  exact Go.Joins.block_setCell (i := 4) h1 c4
theorem Box.other {w : World} {p : Nat} {a0 a1 a2 a3 a4 : Value} (h : Box w p a0 a1 a2 a3 a4) (D i : Nat) (u : Value) (hne : p ≠ D) : Box (w.setCell ⟨D, i, none⟩ u) p a0 a1 a2 a3 a4 := (heap_setCell_other _ ⟨D, i, none⟩ p _ hne).trans h
theorem box_only {w w' : World} {p g : Nat} {a0 a1 a2 a3 a4 : Value} (h : Box w p a0 a1 a2 a3 a4) (ho : Only w w' g) (hne : p ≠ g) : Box w' p a0 a1 a2 a3 a4 := (ho.block p h.lt (by rintro ⟨⟩; exact hne rfl)).trans h
theorem results_cell_two {fn : Func} {p u : Tmp} (h : fn.results = #[.cell p 25, .tmp u]) (tmps : Array Value) (w : World) (g : Nat) (t : TypeId) (cs : Array Value) (fr : Nat × Nat)
    (hp : tmps.getD p undef = .pointer (some ⟨g, 0, none⟩)) (hg : w.heap[g]? = some (.cells cs t fr)) (hi : (Try.prog.info? 25).map (·.size) = some cs.size) :
    (results fn tmps).run Try.prog w = .ok (.tuple #[.agg cs, tmps.getD u undef]) w := by
  rw [results_cell_tmp h, hp]
  have e : (asAddr (.pointer (some ⟨g, 0, none⟩))).run Try.prog w = .ok ⟨g, 0, none⟩ w := by simp [asAddr]
  rw [e]
  simp only [Result.andThen]
  rw [run_loadVar_row w g t 25 cs fr _ hg Try.underlying25 rfl hi]
end Go.Proofs.Ytipiplnhbecjeaa
