/- The four bytes of a sum, as an array. -/
import Derived.Test.YtflkaladkbkbgaaGreatKFrmA
import Derived.Laws.ResultCell
namespace Go.Proofs.YtflkaladkbkbgaaGreat
set_option linter.unusedVariables false
set_option linter.unusedSimpArgs false
open Go.RowKit
/-- An array of four bytes in a block of its own. -/
def QBox (w : World) (p : Nat) (l : List UInt8) : Prop := w.heap[p]? = some (.cells (bcells l).toArray 91 (0, 0))
theorem QBox.cell {w : World} {p : Nat} {l : List UInt8} (h : QBox w p l) (i : Nat) (hi : i < l.length) : w.cell? ⟨p, i, none⟩ = some (.int .u8 (l[i].toNat : Int)) := by
  rw [Go.Joins.cell_of_block h i]
  simp [bcells, hi]
theorem QBox.free {w : World} {p : Nat} {l : List UInt8} (h : QBox w p l) (i : Nat) : w.frozen? ⟨p, i, none⟩ = false := Go.Joins.unfrozen_of_block h i
theorem QBox.lt {w : World} {p : Nat} {l : List UInt8} (h : QBox w p l) : p < w.heap.size := (Array.getElem?_eq_some_iff.1 h).1
theorem QBox.set {w : World} {p : Nat} {l : List UInt8} (h : QBox w p l) (i : Nat) (b : UInt8) : QBox (w.setCell ⟨p, i, none⟩ (.int .u8 (b.toNat : Int))) p (l.set i b) := by
  have h1 := Go.Joins.block_setCell (i := i) h (.int .u8 (b.toNat : Int))
  unfold QBox
  rw [h1]
  congr 2
  simp [bcells, List.map_set]
theorem QBox.other {w : World} {p : Nat} {l : List UInt8} (h : QBox w p l) (D i : Nat) (u : Value) (hne : p ≠ D) : QBox (w.setCell ⟨D, i, none⟩ u) p l := (heap_setCell_other _ ⟨D, i, none⟩ p _ hne).trans h
theorem results_cell_q {fn : Func} {p : Tmp} (h : fn.results = #[.cell p 91]) (tmps : Array Value) (w : World) (g : Nat) (t : TypeId) (cs : Array Value) (fr : Nat × Nat)
    (hp : tmps.getD p undef = .pointer (some ⟨g, 0, none⟩)) (hg : w.heap[g]? = some (.cells cs t fr)) (hi : (Tryz.prog.info? 91).map (·.size) = some cs.size) :
    (results fn tmps).run Tryz.prog w = .ok (.agg cs) w := by
  have hp' : tmps[p]?.getD undef = .pointer (some ⟨g, 0, none⟩) := by simpa using hp
  have e := run_loadVar_row w g t 91 cs fr _ hg Tryz.underlying91 rfl hi
  simp [results, h, hp', asAddr, Sem.run_bind, Result.andThen, e]
/-- Of bytes: an array of them. -/
def arrB (l : List UInt8) : Value := .agg (bcells l).toArray

theorem arrB_four (q : Nat) : ∃ b0 b1 b2 b3 : UInt8, loB 4 q = [b0, b1, b2, b3] := ⟨_, _, _, _, loB_four q⟩
theorem QBox.rd {w : World} {p B : Nat} {l : List UInt8} (h : QBox w p l) (hp : p < B) (hl : l.length ≤ 1000) : Rd w B (.slice (some ⟨p, 0, none⟩) l.length l.length) l :=
  ⟨some ⟨p, 0, none⟩, l.length, rfl, Nat.le_refl _, ⟨by omega, fun h => by cases h⟩, fun _ => ⟨p, 0, rfl, hp, fun i hi => by rw [Nat.zero_add]; exact h.cell i hi⟩⟩
set_option maxHeartbeats 4000000 in
set_option maxRecDepth 1000000 in
theorem sumbytes_any (n : Nat) (w : World) (hn : n < 4294967296) :
    Calls Tryz.prog 48 #[.int .i64 n] w fun e w' => e = .returned (arrB (loB 4 n)) ∧ Below w.heap.size w w' := by
  have HN := Lib.hid hn
  clear hn
  obtain ⟨Z, hZ⟩ : ∃ Z : Obj, Z = .cells #[.int .u8 0, .int .u8 0, .int .u8 0, .int .u8 0] 91 := ⟨_, rfl⟩
  have hq : QBox ((w.alloc Z).alloc Z) w.heap.size [0, 0, 0, 0] ∧ QBox ((w.alloc Z).alloc Z) (w.heap.size + 1) [0, 0, 0, 0] := by
    subst hZ
    refine ⟨?_, ?_⟩
    · have h1 := Below.heap_alloc (w.alloc (.cells #[.int .u8 0, .int .u8 0, .int .u8 0, .int .u8 0] 91)) (.cells #[.int .u8 0, .int .u8 0, .int .u8 0, .int .u8 0] 91) w.heap.size (by simp)
      exact h1.trans (heap_alloc_new w _)
    · have h2 := heap_alloc_new (w.alloc (.cells #[.int .u8 0, .int .u8 0, .int .u8 0, .int .u8 0] 91)) (.cells #[.int .u8 0, .int .u8 0, .int .u8 0, .int .u8 0] 91)
      have e : (w.alloc (.cells #[.int .u8 0, .int .u8 0, .int .u8 0, .int .u8 0] 91)).heap.size = w.heap.size + 1 := by simp
      rw [e] at h2
      exact h2
  have hb0 : Below w.heap.size w ((w.alloc Z).alloc Z) := ((Below.refl _ _).alloc (Nat.le_refl _) _).alloc (by simp) _
  have hsz0 : ((w.alloc Z).alloc Z).heap.size = w.heap.size + 2 := by simp
  have HQ := Lib.hid hq
  have HB0 := Lib.hid hb0
  have HS0 := Lib.hid hsz0
  clear hq hb0 hsz0
  go_enter Tryz.func48, Tryz.ntmps48
  go_wp2
  rw [← hZ]
  clear hZ
  go_loopw [0, 5] (fun n1 i wr => ∃ (k m : Nat) (acc : List UInt8), n1 = .int .i64 m ∧ i = .int .i64 k ∧ k ≤ 4 ∧ Hid (m < 4294967296 ∧ acc.take k ++ loB (4 - k) m = loB 4 n) ∧ acc.length = 4 ∧ Hid (QBox wr w.heap.size [0, 0, 0, 0]) ∧ Hid (QBox wr (w.heap.size + 1) acc) ∧ Hid (Below w.heap.size w wr) ∧ Hid (wr.heap.size = w.heap.size + 2)) (fun _ i _ => 4 - (intOf i).toNat)
  case atStart => exact ⟨0, n, [0, 0, 0, 0], rfl, rfl, by omega, ⟨HN.out, rfl⟩, rfl, HQ.out.1, HQ.out.2, HB0, HS0⟩
  case round =>
    obtain ⟨k, m, acc, rfl, rfl, hk, HM, hal, HR, HA, HB, HS⟩ := hrel
    by_cases hlt : k < 4
    · have hc := HA.out.cell k (by omega)
      have hf := HA.out.free k
      obtain ⟨u, hu⟩ : ∃ u : Value, u = .int .u8 ((acc[k]'(by omega)).toNat : Int) := ⟨_, rfl⟩
      rw [← hu] at hc
      clear hu
      go_wp2_with fail
      go_roundw
      case rel => exact ⟨k + 1, m / 256, acc.set k (UInt8.ofNat m), by go_num, by go_num, by omega, ⟨by have := HM.out.1; omega, by
        have e : 4 - k = (4 - (k + 1)) + 1 := by omega
        have h2 := HM.out.2
        rw [e, loB] at h2
        rw [← h2, List.take_succ_eq_append_getElem (by rw [List.length_set]; omega), List.getElem_set_self, List.take_set_of_le (Nat.le_refl k), List.append_assoc, List.singleton_append]⟩, by rw [List.length_set]; exact hal, HR.out.other _ _ _ (by omega), by rw [byte_nat']; exact HA.out.set k _, Lib.hid (HB.out.setCell (by simp) _), Lib.hid (by have := HS.out; simpa using this)⟩
      case measure => simp [intOf]; omega
    · have hk2 : k = 4 := by omega
      subst hk2
      have e : acc = loB 4 n := by
        have h2 := HM.out.2
        rw [List.take_of_length_le (by omega)] at h2
        simpa [loB] using h2
      have hx := HA.out
      rw [e, loB_four] at hx
      have q0 := hx.cell 0 (by simp)
      have q1 := hx.cell 1 (by simp)
      have q2 := hx.cell 2 (by simp)
      have q3 := hx.cell 3 (by simp)
      have r0 := HR.out.cell 0 (by simp)
      have r1 := HR.out.cell 1 (by simp)
      have r2 := HR.out.cell 2 (by simp)
      have r3 := HR.out.cell 3 (by simp)
      have rf := fun i => HR.out.free i
      obtain ⟨b0, h0⟩ : ∃ b, b = UInt8.ofNat n := ⟨_, rfl⟩
      obtain ⟨b1, h1⟩ : ∃ b, b = UInt8.ofNat (n / 256) := ⟨_, rfl⟩
      obtain ⟨b2, h2⟩ : ∃ b, b = UInt8.ofNat (n / 65536) := ⟨_, rfl⟩
      obtain ⟨b3, h3⟩ : ∃ b, b = UInt8.ofNat (n / 16777216) := ⟨_, rfl⟩
      have HE : Hid (loB 4 n = [b0, b1, b2, b3]) := by exact Lib.hid (by rw [loB_four, h0, h1, h2, h3])
      rw [← h0, ← h1, ← h2, ← h3] at q0 q1 q2 q3
      simp only [List.getElem_cons_zero, List.getElem_cons_succ] at q0 q1 q2 q3 r0 r1 r2 r3
      have HF : Hid (QBox ((((wr.setCell ⟨w.heap.size, 0, none⟩ (.int .u8 (b0.toNat : Int))).setCell ⟨w.heap.size, 1, none⟩ (.int .u8 (b1.toNat : Int))).setCell ⟨w.heap.size, 2, none⟩ (.int .u8 (b2.toNat : Int))).setCell ⟨w.heap.size, 3, none⟩ (.int .u8 (b3.toNat : Int))) w.heap.size [b0, b1, b2, b3]) := Lib.hid ((((HR.out.set 0 b0).set 1 b1).set 2 b2).set 3 b3)
      have HG : Hid (Below w.heap.size w ((((wr.setCell ⟨w.heap.size, 0, none⟩ (.int .u8 (b0.toNat : Int))).setCell ⟨w.heap.size, 1, none⟩ (.int .u8 (b1.toNat : Int))).setCell ⟨w.heap.size, 2, none⟩ (.int .u8 (b2.toNat : Int))).setCell ⟨w.heap.size, 3, none⟩ (.int .u8 (b3.toNat : Int)))) := Lib.hid ((((HB.out.setCell (Nat.le_refl _) _).setCell (Nat.le_refl _) _).setCell (Nat.le_refl _) _).setCell (Nat.le_refl _) _)
      clear h0 h1 h2 h3 hx e HM hal
      go_wp2_with fail
      refine bodyPost_ret (results_cell_q rfl _ _ w.heap.size 91 _ (0, 0) rfl HF.out (by kernel_rfl)) rfl ?_
      rw [HE.out]
      exact ⟨rfl, HG.out⟩
end Go.Proofs.YtflkaladkbkbgaaGreat
