/- Lists of texts put behind one another, by the library. -/
import Derived.Test.YtipiplnhbecjeaaKPathS
import Derived.Laws.AppendOwnNone
import Derived.Lib.AppendZerosOnto
import Derived.Lib.AppendZeros
import Derived.Lib.SliceRun
namespace Go.Proofs.Ytipiplnhbecjeaa
set_option linter.unusedVariables false
set_option linter.unusedSimpArgs false
set_option maxRecDepth 100000
open Go.RowKit

theorem wpList_append_strs {w : World} {ops : Array Oper} {rest : List Oper} {o : Oper} {a : Act} {Q : Exit → Act → World → Prop} (hgd : o.guard = none) (s x : Operand)
    (ho : o.op = .call { callee := .builtin .append, args := #[s, x], argTypes := #[22, 22] }) (B : Nat) (v : Value) (ns : List ByteArray) (hs : a.eval s = v) (hown : OwnS w B v ns)
    (A : Option Addr) (c : Nat) (ms : List ByteArray) (S : Nat → Prop) (hx : a.eval x = .slice A ms.length c) (hA : A = none → c = 0) (hst : StrsAt w S A ms) (hB : B ≤ w.heap.size) (hl : ns.length + ms.length ≤ 8796093021952)
    (K : ∀ v' w', OwnS w' B v' (ns ++ ms) → w.grownBy w' v.ownBlock → wpList Try.prog ops Q rest (a.put o.dst v') w') : wpList Try.prog ops Q (o :: rest) a w := by
  obtain ⟨i0, hi, hz0, hz1, hz2⟩ := info_parts Try.infoStrP
  cases A with
  | none =>
    obtain rfl : ms = [] := by
      match ms, hst with
      | [], _ => rfl
      | m :: r, hst => obtain ⟨_, _, h, _⟩ := hst (by simp); cases h
    obtain rfl := hA rfl
    refine wpList_append_own_none hgd s x 22 ho B 9 i0 1 Try.underlying22 hi v ns.length (ns.map Value.string) hs hown hx ?_
    exact K v w (by rw [List.append_nil]; exact hown) ⟨rfl, rfl, rfl, Nat.le_refl _, fun _ _ _ => rfl⟩
  | some ad =>
    refine wpList_append_own _ hgd s x 22 ho B 9 i0 (.string ByteArray.empty) 1 16 Try.underlying22 hi hz0 hz1 hz2 rfl (by decide) v ns.length (ns.map Value.string) hs hown ad ms.length c (ms.map Value.string) hx (by simp) ?_ ?_ (by unfold maxLen; omega) (by omega) hB ?_
    · intro j u hj
      have hjl : j < ms.length := by have := (List.getElem?_eq_some_iff.1 hj).1; simpa using this
      obtain ⟨b, off, hAd, -, hc⟩ := hst (by omega)
      injection hAd with hAd
      subst hAd
      rw [add_at, (hc j hjl).1]
      simpa [List.getElem?_map, List.getElem?_eq_getElem hjl] using hj
    · intro u hu; obtain ⟨_, _, rfl⟩ := List.mem_map.1 hu; rfl
    · intro v' w' h1 h2 _
      exact K v' w' (by unfold OwnS; rw [List.length_append, List.map_append]; exact h1) h2

/-- A slice of room for n texts. -/
def RoomS (w : World) (e : Ending) (w' : World) : Prop := ∃ v, e = .returned v ∧ OwnS w' w.heap.size v [] ∧ Below w.heap.size w w'

/-- It answers the texts of both lists in a slice of its own. -/
theorem two_cells (w : World) (x y : Value) (t : TypeId) : (w.alloc (.cells #[x, y] t)).cell? ⟨w.heap.size, 0, none⟩ = some x ∧ (w.alloc (.cells #[x, y] t)).cell? ⟨w.heap.size, 1, none⟩ = some y :=
  ⟨Go.Joins.cell_of_block (heap_alloc_new w _) 0, Go.Joins.cell_of_block (heap_alloc_new w _) 1⟩

/-- It answers the path ns, in a slice of its own; or the error k. -/
def GivesP (ns : List ByteArray) (w : World) (e : Ending) (w' : World) : Prop := ∃ A c, e = .returned (.tuple #[.slice A ns.length c, .int .i64 0]) ∧ ns.length ≤ c ∧ StrsAt w' (fun b => w.heap.size ≤ b ∧ b < w'.heap.size) A ns ∧ Below w.heap.size w w'
def RefusesP (w : World) (e : Ending) (w' : World) : Prop := e = .returned (.tuple #[.slice none 0 0, .int .i64 40]) ∧ Below w.heap.size w w'
theorem mayP_size {ns : List ByteArray} (h : mayP ns = true) : ∀ s ∈ ns, s.size ≤ 140737488351232 := fun s hs => by
  have := ((nameB_iff s).1 (((mayP_iff ns).1 h).2.2 s hs)).2.1
  omega
theorem gives_opens {ns : List ByteArray} {w w' : World} {v : Value} (hv : OwnS w' w.heap.size v ns) (hs : ∀ s ∈ ns, s.size ≤ 140737488351232) : ∃ A c, v = .slice A ns.length c ∧ ns.length ≤ c ∧ StrsAt w' (fun b => w.heap.size ≤ b ∧ b < w'.heap.size) A ns := hv.opens hs

end Go.Proofs.Ytipiplnhbecjeaa
