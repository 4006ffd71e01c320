/- Rows of bytes read by appends; lists of such rows, and the library's putting of them behind one another. -/
import Derived.Test.YtclgekmpldeedaaFrmB
import Derived.Laws.AppendOwnNone
import Derived.Lib.AppendZerosOnto
import Derived.Lib.AppendZeros
import Derived.Lib.SliceRun
namespace Go.Proofs.Ytclgekmpldeedaa
set_option linter.unusedVariables false
set_option linter.unusedSimpArgs false
open Go.RowKit

theorem addr_addY (b off i : Nat) : ((⟨b, off, none⟩ : Addr).add i) = ⟨b, off + i, none⟩ := by
  unfold Addr.add
  split
  · next h => simp [h]
  · rfl
theorem OwnB.rdY {w : World} {B : Nat} {v : Value} {l : List UInt8} (h : OwnB w B v l) : Rd w w.heap.size v l := by
  have hc := fun g hg => World.ownsRow.cells (g := g) h hg
  have hlt := World.ownsRow.lt h
  rcases h.2 with ⟨rfl, h0⟩ | ⟨g, cap, cur, rfl, hB, hh, hcap, hm, -⟩
  · have hl : l = [] := List.eq_nil_of_length_eq_zero h0
    subst hl
    exact ⟨none, 0, rfl, Nat.le_refl _, ⟨by omega, fun _ => rfl⟩, fun h => absurd h (by simp)⟩
  · refine ⟨some ⟨g, 0, none⟩, cap, rfl, hcap, ⟨by unfold maxLen at hm; omega, fun h => by cases h⟩, fun hp => ⟨g, 0, rfl, (hlt g rfl).2, fun i hi => ?_⟩⟩
    have h1 := hc g rfl i (.int .u8 (l[i].toNat : Int)) (by simp [bcells, hi])
    rw [addr_addY] at h1
    exact h1
set_option maxRecDepth 100000 in
theorem append_bytesY {w : World} {ops : Array Oper} {rest : List Oper} {o : Oper} {a : Act} {Q : Exit → Act → World → Prop} (hgd : o.guard = none) (s x : Operand)
    (ho : o.op = .call { callee := .builtin .append, args := #[s, x], argTypes := #[22, 22] }) (B : Nat) (v : Value) (l : List UInt8) (hs : a.eval s = v) (hown : OwnB w B v l)
    (D : Nat) (vx : Value) (m : List UInt8) (hx : a.eval x = vx) (hrd : Rd w D vx m) (hB : B ≤ w.heap.size) (hl : l.length + m.length ≤ 140737488355328)
    (K : ∀ v' w', OwnB w' B v' (l ++ m) → w.grownBy w' v.ownBlock → wpList Try.prog ops Q rest (a.put o.dst v') w') : wpList Try.prog ops Q (o :: rest) a w := by
  obtain ⟨i0, hi, hz0, hz1, hz2⟩ := info_parts Try.infoU8
  obtain ⟨A, cap, rfl, hcap, ⟨hc2, hA⟩, hc⟩ := hrd
  cases A with
  | none =>
    have hm : m = [] := by
      match m, hc with
      | [], _ => rfl
      | b :: r, hc => obtain ⟨_, _, h, _⟩ := hc (by simp); cases h
    subst hm
    obtain rfl := hA rfl
    refine wpList_append_own_none hgd s x 22 ho B 5 i0 1 Try.underlying22 hi v l.length (bcells l) hs hown hx ?_
    exact K v w (by rw [List.append_nil]; exact hown) ⟨rfl, rfl, rfl, Nat.le_refl _, fun _ _ _ => rfl⟩
  | some ad =>
    refine wpList_append_own _ hgd s x 22 ho B 5 i0 (.int .u8 0) 1 1 Try.underlying22 hi hz0 hz1 hz2 rfl (by decide) v l.length (bcells l) hs hown ad m.length cap (bcells m) hx (by simp [bcells]) ?_ (bcells_oneCell m) (by unfold maxLen; omega) (by omega) hB ?_
    · intro j u hj
      have hjl : j < m.length := by have := (List.getElem?_eq_some_iff.1 hj).1; simpa [bcells] using this
      obtain ⟨b, off, hAd, -, hcell⟩ := hc (by omega)
      injection hAd with hAd
      subst hAd
      rw [addr_addY, hcell j hjl]
      simpa [bcells, List.getElem?_map, List.getElem?_eq_getElem hjl] using hj
    · intro v' w' h1 h2 _
      exact K v' w' (by unfold OwnB; rw [List.length_append, bcells_append]; exact h1) h2
theorem below_ownY {a w w' : World} {B : Nat} {v : Value} {l : List UInt8} (hb : Below B a w) (h : OwnB w B v l) (hB : B ≤ w.heap.size) (hg : w.grownBy w' v.ownBlock) : Below B a w' := hb.grown hg hB (fun k hk => (World.ownsRow.lt h k hk).1)
theorem Rd.upY {w : World} {B B' : Nat} {v : Value} {l : List UInt8} (h : Rd w B v l) (hb : B ≤ B') : Rd w B' v l := by
  obtain ⟨A, cap, hv, hc, hm, h1⟩ := h
  refine ⟨A, cap, hv, hc, hm, fun hl => ?_⟩
  obtain ⟨b, off, hA, hbB, hcell⟩ := h1 hl
  exact ⟨b, off, hA, by omega, hcell⟩
theorem Rd.shapeY {w : World} {B : Nat} {v : Value} {l : List UInt8} (h : Rd w B v l) : ∃ A cap, v = .slice A l.length cap := by
  obtain ⟨A, cap, hv, _⟩ := h
  exact ⟨A, cap, hv⟩

/-- Rows of bytes, one behind the other, in blocks below B. -/
def BssAt (w : World) (B : Nat) (A : Option Addr) (ls : List (List UInt8)) : Prop :=
  0 < ls.length → ∃ b off, A = some ⟨b, off, none⟩ ∧ b < B ∧ ∀ i (h : i < ls.length), ∃ v, w.cell? ⟨b, off + i, none⟩ = some v ∧ Rd w B v ls[i]
theorem BssAt.keep {w w' : World} {B : Nat} {A : Option Addr} {ls : List (List UInt8)} (h : BssAt w B A ls) (hb : Below B w w') : BssAt w' B A ls := fun hl => by
  obtain ⟨b, off, hA, hbB, hc⟩ := h hl
  refine ⟨b, off, hA, hbB, fun i hi => ?_⟩
  obtain ⟨v, hv, hr⟩ := hc i hi
  exact ⟨v, (hb.cell (p := ⟨b, off + i, none⟩) hbB).trans hv, hr.keep hb⟩


theorem flat_take_le (ls : List (List UInt8)) (k : Nat) : (ls.take k).flatten.length ≤ ls.flatten.length := by
  conv => rhs; rw [← List.take_append_drop k ls, List.flatten_append, List.length_append]
  omega
theorem flat_take_succ (ls : List (List UInt8)) (k : Nat) (h : k < ls.length) : (ls.take (k + 1)).flatten = (ls.take k).flatten ++ ls[k] := by
  rw [List.take_succ_eq_append_getElem h, List.flatten_append]
  simp

end Go.Proofs.Ytclgekmpldeedaa
