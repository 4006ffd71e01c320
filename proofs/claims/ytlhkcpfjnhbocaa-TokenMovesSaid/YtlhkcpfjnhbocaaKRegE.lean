/- An append of bytes, as one step of a region. -/
import Derived.Test.YtlhkcpfjnhbocaaKKeA
import Derived.Test.YtlhkcpfjnhbocaaKReg
import Derived.Test.YtlhkcpfjnhbocaaKAppW
namespace Go.Proofs.Ytlhkcpfjnhbocaa
set_option linter.unusedVariables false
set_option linter.unusedSimpArgs false
open Go.RowKit
set_option maxRecDepth 100000
theorem wp_append_bytesG {w : World} {o : Oper} {a : Act} {K : Act → World → Prop} {Q : Exit → Act → World → Prop} (s x : Operand)
    (ho : o.op = .call { callee := .builtin .append, args := #[s, x], argTypes := #[22, 22] }) (B : Nat) (v : Value) (l : List UInt8) (hs : a.eval s = v) (hown : OwnB w B v l)
    (D : Nat) (vx : Value) (m : List UInt8) (hx : a.eval x = vx) (hrd : Rd w D vx m) (hp : 0 < m.length) (hB : B ≤ w.heap.size) (hl : l.length + m.length ≤ 140737488355328)
    (K' : ∀ v' w', OwnB w' B v' (l ++ m) → w.grownBy w' v.ownBlock → K (a.put o.dst v') w') : o.wp Try.prog a w K Q := by
  obtain ⟨i0, hi, hz0, hz1, hz2⟩ := info_parts Try.infoU8
  obtain ⟨A, cap, rfl, hcap, -, hc⟩ := hrd
  obtain ⟨b, off, rfl, -, hcell⟩ := hc hp
  refine wp_append_moved _ s x 22 ho B 5 i0 (.int .u8 0) 1 1 Try.underlying22 hi hz0 hz1 hz2 rfl (by decide) v l.length (bcells l) hs hown ⟨b, off, none⟩ m.length cap (bcells m) hx (by simp [bcells]) (fun j u hj => ?_) (fun u hu => ?_) (by unfold maxLen; omega) (by omega) hB fun v' w' h1 h2 _ => K' v' w' (by unfold OwnB; rw [List.length_append, bcells_append]; exact h1) h2
  · have hj' := (List.getElem?_eq_some_iff.1 hj)
    obtain ⟨hlt, he⟩ := hj'
    have hlm : j < m.length := by simpa [bcells] using hlt
    have := hcell j hlm
    simp only [bcells, List.getElem_map] at he
    rw [← he]
    rw [show (Addr.add ⟨b, off, none⟩ j : Addr) = ⟨b, off + j, none⟩ from by cases j <;> simp [Addr.add]]
    exact this
  · obtain ⟨y, -, rfl⟩ := List.mem_map.1 hu
    rfl
end Go.Proofs.Ytlhkcpfjnhbocaa
