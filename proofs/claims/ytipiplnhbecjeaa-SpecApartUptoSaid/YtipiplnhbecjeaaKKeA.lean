/- Bytes put behind bytes of the call's own: nothing but rows of bytes may turn. -/
import Derived.Test.YtipiplnhbecjeaaKRefA
import Derived.Lib.OthersKept
import Derived.Laws.AppendOwnNone
import Derived.Outline
namespace Go.Proofs.Ytipiplnhbecjeaa
set_option linter.unusedVariables false
set_option linter.unusedSimpArgs false
set_option maxRecDepth 100000
open Go.RowKit

theorem add_atK (b off i : Nat) : ((⟨b, off, none⟩ : Addr).add i) = ⟨b, off + i, none⟩ := by
  unfold Addr.add
  split
  · next h => simp [h]
  · rfl
/-- Every block that is no row of bytes stands as it stood. -/
abbrev K8 (w w' : World) : Prop := Lib.OthersKept 5 Option.none w w'
theorem OwnB.kind {w : World} {B : Nat} {v : Value} {l : List UInt8} (h : OwnB w B v l) : ∀ g, v.ownBlock = some g → ∃ c fz, w.heap[g]? = some (.cells c 5 fz) := by
  intro g hg
  rcases h.2 with ⟨rfl, -⟩ | ⟨g', cap, cur, rfl, -, hh, -⟩
  · cases hg
  · obtain rfl : g' = g := by simpa [Value.ownBlock] using hg
    exact ⟨cur, _, hh⟩
theorem OwnB.rd {w : World} {B : Nat} {v : Value} {l : List UInt8} (h : OwnB w B v l) : Rd w w.heap.size v l := by
  have hc := fun g hg => World.ownsRow.cells (g := g) h hg
  have hlt := World.ownsRow.lt h
  rcases h.2 with ⟨rfl, h0⟩ | ⟨g, cap, cur, rfl, hB, hh, hcap, hm, -⟩
  · have hl : l = [] := List.eq_nil_of_length_eq_zero h0
    subst hl
    exact ⟨none, 0, rfl, Nat.le_refl _, ⟨by omega, fun _ => rfl⟩, fun h => absurd h (by simp)⟩
  · refine ⟨some ⟨g, 0, none⟩, cap, rfl, hcap, ⟨by unfold maxLen at hm; omega, fun h => by cases h⟩, fun hp => ⟨g, 0, rfl, (hlt g rfl).2, fun i hi => ?_⟩⟩
    have h1 := hc g rfl i (.int .u8 (l[i].toNat : Int)) (by simp [bcells, hi])
    rw [add_atK] at h1
    exact h1
theorem Rd.one {w : World} (b : UInt8) {x : Int} (hx : x = (b.toNat : Int)) : Rd (w.alloc (.cells #[.int .u8 x] 5)) (w.heap.size + 1) (.slice (some ⟨w.heap.size, 0, none⟩) 1 1) [b] := by
  subst hx
  refine ⟨some ⟨w.heap.size, 0, none⟩, 1, rfl, Nat.le_refl _, ⟨by omega, fun h => by cases h⟩, fun _ => ⟨w.heap.size, 0, rfl, by omega, fun i hi => ?_⟩⟩
  obtain rfl : i = 0 := by simpa using hi
  exact Go.Joins.cell_of_block (heap_alloc_new w _) 0
theorem Rd.one' {w : World} {g : Nat} (hg : g = w.heap.size) (b : UInt8) {x : Int} (hx : x = (b.toNat : Int)) : Rd (w.alloc (.cells #[.int .u8 x] 5)) (w.heap.size + 1) (.slice (some ⟨g, 0, none⟩) 1 1) [b] := by
  subst hg; exact Rd.one b hx
theorem wpList_append_bytes {w : World} {ops : Array Oper} {rest : List Oper} {o : Oper} {a : Act} {Q : Exit → Act → World → Prop} (hgd : o.guard = none) (s x : Operand)
    (ho : o.op = .call { callee := .builtin .append, args := #[s, x], argTypes := #[39, 39] }) (B : Nat) (v : Value) (l : List UInt8) (hs : a.eval s = v) (hown : OwnB w B v l)
    (D : Nat) (vx : Value) (m : List UInt8) (hx : a.eval x = vx) (hrd : Rd w D vx m) (hB : B ≤ w.heap.size) (hl : l.length + m.length ≤ 140737488355328)
    (K : ∀ v' w', OwnB w' B v' (l ++ m) → w.grownBy w' v.ownBlock → wpList Try.prog ops Q rest (a.put o.dst v') w') : wpList Try.prog ops Q (o :: rest) a w := by
  obtain ⟨i0, hi, hz0, hz1, hz2⟩ := info_parts Try.infoU8
  obtain ⟨A, cap, rfl, hcap, ⟨hc2, hA⟩, hc⟩ := hrd
  cases A with
  | none =>
    have hm : m = [] := by
      match m, hc with
      | [], _ => rfl
      | b :: r, hc => obtain ⟨_, _, h, _⟩ := hc (by simp); cases h
    subst hm
    obtain rfl := hA rfl
    refine wpList_append_own_none hgd s x 39 ho B 5 i0 1 Try.underlying39 hi v l.length (bcells l) hs hown hx ?_
    exact K v w (by rw [List.append_nil]; exact hown) ⟨rfl, rfl, rfl, Nat.le_refl _, fun _ _ _ => rfl⟩
  | some ad =>
    refine wpList_append_own _ hgd s x 39 ho B 5 i0 (.int .u8 0) 1 1 Try.underlying39 hi hz0 hz1 hz2 rfl (by decide) v l.length (bcells l) hs hown ad m.length cap (bcells m) hx (by simp [bcells]) ?_ (bcells_oneCell m) (by unfold maxLen; omega) (by omega) hB ?_
    · intro j u hj
      have hjl : j < m.length := by have := (List.getElem?_eq_some_iff.1 hj).1; simpa [bcells] using this
      obtain ⟨b, off, hAd, -, hcell⟩ := hc (by omega)
      injection hAd with hAd
      subst hAd
      rw [add_atK, hcell j hjl]
      simpa [bcells, List.getElem?_map, List.getElem?_eq_getElem hjl] using hj
    · intro v' w' h1 h2 _
      exact K v' w' (by unfold OwnB; rw [List.length_append, bcells_append]; exact h1) h2

/-- It answers bytes of the call's own, from block B on; nothing but rows of bytes may have turned. -/
def PutsR (B : Nat) (l : List UInt8) (w : World) (e : Ending) (w' : World) : Prop := ∃ v', e = .returned v' ∧ OwnB w' B v' l ∧ Below B w w' ∧ K8 w w'
theorem k8_below {w w' : World} (h : Below w.heap.size w w') : K8 w w' := fun k o hk _ _ => (h.block k (Array.getElem?_eq_some_iff.1 hk).1).trans hk
theorem k8_grown {w w' : World} {B : Nat} {v : Value} {l : List UInt8} (h : OwnB w B v l) (hg : w.grownBy w' v.ownBlock) : K8 w w' := (Lib.OthersKept.refl _ _ _).grown hg h.kind
theorem below_own {a w w' : World} {B : Nat} {v : Value} {l : List UInt8} (hb : Below B a w) (h : OwnB w B v l) (hB : B ≤ w.heap.size) (hg : w.grownBy w' v.ownBlock) : Below B a w' := hb.grown hg hB (fun k hk => (World.ownsRow.lt h k hk).1)
end Go.Proofs.Ytipiplnhbecjeaa
