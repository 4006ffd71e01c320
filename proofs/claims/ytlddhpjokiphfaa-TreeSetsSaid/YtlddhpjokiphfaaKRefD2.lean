/- Which texts may be names, as the document has it: told beside the lists of texts. -/
import Derived.Test.YtlddhpjokiphfaaKVal
import Derived.Test.YtlddhpjokiphfaaKMath
import Derived.Test.YtlddhpjokiphfaaKVr
namespace Go.Proofs.Ytlddhpjokiphfaa
set_option linter.unusedVariables false
set_option linter.unusedSimpArgs false
end Go.Proofs.Ytlddhpjokiphfaa

/- How deep a value is, as the document's answer has it. -/
namespace Go.Proofs.Ytlddhpjokiphfaa
set_option linter.unusedVariables false
set_option linter.unusedSimpArgs false
open Go.RowKit

theorem one_var {w : World} {S : Nat → Prop} {a : VT} {va : Value} (hS : ∀ b, S b → b < w.heap.size) (ha : LV w S a va) :
    ∃ A ca A' ca', va = .agg #[.int .i64 a.kind, .int .i64 a.num, .string a.text, .slice A a.items.length ca, .slice A' a.names.length ca'] ∧ (a.items.length ≤ 140737488351232 ∧ a.names.length ≤ 140737488351232) ∧ LVA w S A a.items ∧ StrsAt w S A' a.names ∧
      Vr (w.alloc (.cells #[.int .i64 a.kind, .int .i64 a.num, .string a.text, .slice A a.items.length ca, .slice A' a.names.length ca'] 25)) S w.heap.size a A ca A' ca' ∧
      Below w.heap.size w (w.alloc (.cells #[.int .i64 a.kind, .int .i64 a.num, .string a.text, .slice A a.items.length ca, .slice A' a.names.length ca'] 25)) := by
  obtain ⟨A, ca, A', ca', rfl, -, -, -, a4, a5, a6, a7⟩ := ha.shape
  exact ⟨A, ca, A', ca', rfl, ⟨a4, a5⟩, a7, a6, Vr.new hS ha, below_box _⟩
theorem depthL_drop {l : List VT} {j : Nat} (h : j < l.length) : depthL (l.drop j) = max (depthT l[j]) (depthL (l.drop (j + 1))) := by
  rw [List.drop_eq_getElem_cons h]; conv => lhs; unfold depthL
theorem depthL_nil : depthL [] = 0 := by unfold depthL; rfl

end Go.Proofs.Ytlddhpjokiphfaa
