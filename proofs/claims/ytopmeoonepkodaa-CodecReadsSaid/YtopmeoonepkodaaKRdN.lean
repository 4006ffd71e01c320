/- A nil source: nothing is read. -/
import Derived.Test.YtopmeoonepkodaaKCodX
namespace Go.Proofs.Ytopmeoonepkodaa
set_option linter.unusedVariables false
set_option linter.unusedSimpArgs false
open Go.RowKit
/-- Block D is a decoder of a nil source. -/
def DecN (w : World) (D : Nat) (least lv : Int) : Prop := w.heap[D]? = some (.cells #[.pointer none, .int .i64 least, .int .i64 lv] 58 (0, 0))
theorem DecN.lt {w : World} {D : Nat} {least lv : Int} (h : DecN w D least lv) : D < w.heap.size := (Array.getElem?_eq_some_iff.1 h).1
theorem DecN.set {w : World} {D : Nat} {least lv : Int} (h : DecN w D least lv) (x : Int) : DecN (w.setCell ⟨D, 2, none⟩ (.int .i64 x)) D least x := Go.Joins.block_setCell (i := 2) h _
theorem DecN.c0 {w : World} {D : Nat} {least lv : Int} (h : DecN w D least lv) : w.cell? ⟨D, 0, none⟩ = some (.pointer none) := Go.Joins.cell_of_block h 0
theorem DecN.c2 {w : World} {D : Nat} {least lv : Int} (h : DecN w D least lv) : w.cell? ⟨D, 2, none⟩ = some (.int .i64 lv) := Go.Joins.cell_of_block h 2
theorem DecN.alloc {w : World} {D : Nat} {least lv : Int} (h : DecN w D least lv) (o : Obj) : DecN (w.alloc o) D least lv := (Below.heap_alloc w o D h.lt).trans h
set_option maxHeartbeats 4000000 in
set_option maxRecDepth 100000 in
theorem val_nil (D : Nat) (w : World) (hd : DecN w D (-4096) 0) : Calls Try.prog 33 #[.pointer (some ⟨D, 0, none⟩)] w fun e w' => e = .returned (.agg #[.int .i64 0, .int .i64 0, .string ⟨#[]⟩, .slice none 0 0, .slice none 0 0]) ∧ Below w.heap.size w w' := by
  have hDl := hd.lt
  have HD := Lib.hid hd
  obtain ⟨W3, hW3⟩ : ∃ W3, W3 = ((w.setCell ⟨D, 2, none⟩ (.int .i64 1)).alloc (.cells #[.pointer (some ⟨D, 0, none⟩)] 66)).alloc (.cells #[.int .i64 0, .int .i64 0, .string ⟨#[]⟩, .slice none 0 0, .slice none 0 0] 25) := ⟨_, rfl⟩
  have hz : (w.setCell ⟨D, 2, none⟩ (.int .i64 1)).heap.size = w.heap.size := by simp
  have hz2 : ((w.setCell ⟨D, 2, none⟩ (.int .i64 1)).alloc (.cells #[.pointer (some ⟨D, 0, none⟩)] 66)).heap.size = w.heap.size + 1 := by simp
  have hz3 : W3.heap.size = w.heap.size + 2 := by rw [hW3]; simp
  have hd3 : DecN W3 D (-4096) 1 := by rw [hW3]; exact ((hd.set 1).alloc _).alloc _
  have hp3 : PB W3 w.heap.size D := by
    have h := heap_alloc_new (w.setCell ⟨D, 2, none⟩ (.int .i64 1)) (.cells #[.pointer (some ⟨D, 0, none⟩)] 66)
    rw [hz] at h
    rw [hW3]
    exact (Below.heap_alloc _ _ _ (by omega)).trans h
  have hr3 : Box W3 (w.heap.size + 1) (.int .i64 0) (.int .i64 0) (.string ⟨#[]⟩) (.slice none 0 0) (.slice none 0 0) := by
    have h := Box.new (w := (w.setCell ⟨D, 2, none⟩ (.int .i64 1)).alloc (.cells #[.pointer (some ⟨D, 0, none⟩)] 66)) (.int .i64 0) (.int .i64 0) (.string ⟨#[]⟩) (.slice none 0 0) (.slice none 0 0)
    rw [hz2] at h
    rw [hW3]
    exact h
  have hk3 : ∀ b, b < w.heap.size → b ≠ D → W3.heap[b]? = w.heap[b]? := fun b hb hbD => by
    rw [hW3, Below.heap_alloc _ _ b (by omega), Below.heap_alloc _ _ b (by omega), heap_setCell_other _ ⟨D, 2, none⟩ b _ hbD]
  have ho3 : W3.os = w.os ∧ W3.tape = w.tape ∧ W3.output = w.output := by rw [hW3]; exact ⟨rfl, rfl, rfl⟩
  have H3 := Lib.hid (And.intro hd3 (And.intro hp3 (And.intro hr3 (And.intro hk3 ho3))))
  have hd2 := (hd.alloc (.cells #[.pointer (some ⟨D, 0, none⟩)] 66)).alloc (.cells #[.int .i64 0, .int .i64 0, .string ⟨#[]⟩, .slice none 0 0, .slice none 0 0] 25)
  rw [hW3] at hd3
  have e0 := hd3.c0
  have e2 := hd3.c2
  have d0 := hd2.c0
  have d2 := hd2.c2
  have df := fun i => Go.Joins.unfrozen_of_block hd2 i
  have HW := Lib.hid hW3
  clear hd2 hd3 hp3 hr3 hk3 ho3 hd hz hz2 hW3
  go_enter Try.func33, Try.ntmps33
  go_wp2_with fail
  clear e0 e2 d0 d2 df
  rw [← HW.out]
  refine (sbyte_nil _).mono ?_
  rintro e w1 ⟨rfl, hb⟩
  obtain ⟨hd3, hp3, hr3, hk3, ho3⟩ := H3.out
  have hd1 : DecN w1 D (-4096) 1 := (hb.block D (by omega)).trans hd3
  have hp1 : PB w1 w.heap.size D := (hb.block _ (by omega)).trans hp3
  have hr1 := hr3.call hb
  have hk1 : ∀ b, b < w.heap.size → b ≠ D → w1.heap[b]? = w.heap[b]? := fun b hb' hbD => (hb.block b (by omega)).trans (hk3 b hb' hbD)
  have ho1 : w1.os = w.os ∧ w1.tape = w.tape ∧ w1.output = w.output := ⟨hb.os.trans ho3.1, hb.tape.trans ho3.2.1, hb.output.trans ho3.2.2⟩
  have hz1 : w.heap.size + 2 ≤ w1.heap.size := by have := hb.size; omega
  clear hb hd3 hp3 hr3 hk3 ho3 H3 HW
  have hd2 := hd1.alloc (.cells #[.int .i64 0, .int .i64 0, .string ⟨#[]⟩, .slice none 0 0, .slice none 0 0] 25)
  have hr2 := hr1.alloc (.cells #[.int .i64 0, .int .i64 0, .string ⟨#[]⟩, .slice none 0 0, .slice none 0 0] 25)
  have p0 : (w1.alloc (.cells #[.int .i64 0, .int .i64 0, .string ⟨#[]⟩, .slice none 0 0, .slice none 0 0] 25)).cell? ⟨w.heap.size, 0, none⟩ = some (.pointer (some ⟨D, 0, none⟩)) := Go.Joins.cell_of_block ((Below.heap_alloc w1 (.cells #[.int .i64 0, .int .i64 0, .string ⟨#[]⟩, .slice none 0 0, .slice none 0 0] 25) _ (by omega)).trans hp1) 0
  have e0 := hd2.c0
  have e2 := hd2.c2
  have df := fun i => Go.Joins.unfrozen_of_block hd2 i
  have rf := fun i => hr2.free i
  have r0 := hr2.c0
  have r1 := hr2.c1
  have r2 := hr2.c2
  have r3 := hr2.c3
  have r4 := hr2.c4
  have H := Lib.hid (And.intro hd2 (And.intro hr2 (And.intro hk1 ho1)))
  clear hd1 hp1 hr1 hk1 ho1 hd2 hr2
  go_wp2_with fail
  obtain ⟨hd2, hr2, hk1, ho1⟩ := H.out
  refine bodyPost_ret (results_cell_row rfl _ _ (w.heap.size + 1) 25 _ (0, 0) _ rfl (five_box (hr2.other D 2 _ (by omega))) Try.underlying25 rfl (by kernel_rfl)) rfl ?_
  have hr5 := five_rest ((w1.alloc (.cells #[.int .i64 0, .int .i64 0, .string ⟨#[]⟩, .slice none 0 0, .slice none 0 0] 25)).setCell ⟨D, 2, none⟩ (.int .i64 0)) (w.heap.size + 1) 0 (.int .i64 0) (.int .i64 0) (.string ⟨#[]⟩) (.slice none 0 0) (.slice none 0 0)
  have hsz : (five ((w1.alloc (.cells #[.int .i64 0, .int .i64 0, .string ⟨#[]⟩, .slice none 0 0, .slice none 0 0] 25)).setCell ⟨D, 2, none⟩ (.int .i64 0)) (w.heap.size + 1) 0 (.int .i64 0) (.int .i64 0) (.string ⟨#[]⟩) (.slice none 0 0) (.slice none 0 0)).heap.size = w1.heap.size + 1 := by rw [five_size]; simp
  refine ⟨rfl, ⟨hr5.1.trans ho1.1, hr5.2.1.trans ho1.2.1, hr5.2.2.trans ho1.2.2, by show _ ≤ (five _ _ _ _ _ _ _ _).heap.size; rw [hsz]; omega, fun b hb => ?_⟩⟩
  by_cases hbD : b = D
  · subst hbD
    refine (five_other _ _ _ _ _ _ _ _ b (by omega)).trans ((show _ = _ from hd2.set 0).trans (show w.heap[b]? = _ from HD.out).symm)
  · refine (five_other _ _ _ _ _ _ _ _ b (by omega)).trans ?_
    rw [heap_setCell_other _ ⟨D, 2, none⟩ b _ hbD, Below.heap_alloc w1 _ b (by omega)]
    exact hk1 b hb hbD
set_option maxHeartbeats 4000000 in
set_option maxRecDepth 100000 in
theorem cread_nil (w : World) : Calls Try.prog 18 #[.pointer none] w fun e w' => e = .returned (.agg #[.int .i64 0, .int .i64 0, .string ⟨#[]⟩, .slice none 0 0, .slice none 0 0]) ∧ Below w.heap.size w w' := by
  have hb0 := below_box (w := w) (.cells #[.int .i64 0, .int .i64 0, .string ⟨#[]⟩, .slice none 0 0, .slice none 0 0] 25)
  have hx0 : Box (w.alloc (.cells #[.int .i64 0, .int .i64 0, .string ⟨#[]⟩, .slice none 0 0, .slice none 0 0] 25)) w.heap.size _ _ _ _ _ := Box.new _ _ _ _ _
  have hz0 : (w.alloc (.cells #[.int .i64 0, .int .i64 0, .string ⟨#[]⟩, .slice none 0 0, .slice none 0 0] 25)).heap.size = w.heap.size + 1 := by simp
  have HB0 := Lib.hid hb0
  have HX0 := Lib.hid hx0
  clear hb0 hx0
  go_enter Try.func18, Try.ntmps18
  go_wp2_with (go_at_call 21; refine (left_nil _).mono ?_; rintro e w' ⟨rfl, rfl⟩)
  have hdec : DecN ((w.alloc (.cells #[.int .i64 0, .int .i64 0, .string ⟨#[]⟩, .slice none 0 0, .slice none 0 0] 25)).alloc (.cells #[.pointer none, .int .i64 (-4096), .int .i64 0] 58)) (w.heap.size + 1) (-4096) 0 := by
    have h := heap_alloc_new (w.alloc (.cells #[.int .i64 0, .int .i64 0, .string ⟨#[]⟩, .slice none 0 0, .slice none 0 0] 25)) (.cells #[.pointer none, .int .i64 (-4096), .int .i64 0] 58)
    rw [hz0] at h
    exact h
  have hb1 := grow_trans HB0.out (below_box (w := w.alloc (.cells #[.int .i64 0, .int .i64 0, .string ⟨#[]⟩, .slice none 0 0, .slice none 0 0] 25)) (.cells #[.pointer none, .int .i64 (-4096), .int .i64 0] 58))
  have hx1 := HX0.out.alloc (.cells #[.pointer none, .int .i64 (-4096), .int .i64 0] 58)
  refine (val_nil (w.heap.size + 1) _ hdec).mono ?_
  rintro e w2 ⟨rfl, hb⟩
  have hx2 := hx1.call hb
  have hb2 := hb1.trans (hb.mono hb1.size)
  have hbx := below_box (w := w2) (.cells #[.int .i64 0, .int .i64 0, .string ⟨#[]⟩, .slice none 0 0, .slice none 0 0] 25)
  have hx3 := hx2.call hbx
  have hb3 := hb2.trans (hbx.mono hb2.size)
  have HX3 := Lib.hid hx3
  have HB3 := Lib.hid hb3
  clear hb1 hx1 hb hx2 hb2 hbx hx3 hb3 hdec HB0 HX0 hz0
  go_wp2_with (go_at_call 20; refine (bad_nil _).mono ?_; rintro e w' ⟨rfl, rfl⟩)
  refine (spoil_nil _).mono ?_
  rintro e w' ⟨rfl, rfl⟩
  have rf : ∀ i, (w2.alloc (.cells #[.int .i64 0, .int .i64 0, .string ⟨#[]⟩, .slice none 0 0, .slice none 0 0] 25)).frozen? ⟨w.heap.size, i, none⟩ = false := fun i => HX3.out.free i
  have r0 := HX3.out.c0
  have r1 := HX3.out.c1
  have r2 := HX3.out.c2
  have r3 := HX3.out.c3
  have r4 := HX3.out.c4
  go_wp2_with fail
  refine bodyPost_ret (results_cell_row rfl _ _ w.heap.size 25 _ (0, 0) _ rfl (five_box HX3.out) Try.underlying25 rfl (by kernel_rfl)) rfl ?_
  have hr5 := five_rest (w2.alloc (.cells #[.int .i64 0, .int .i64 0, .string ⟨#[]⟩, .slice none 0 0, .slice none 0 0] 25)) w.heap.size 0 (.int .i64 0) (.int .i64 0) (.string ⟨#[]⟩) (.slice none 0 0) (.slice none 0 0)
  refine ⟨rfl, ⟨hr5.1.trans HB3.out.os, hr5.2.1.trans HB3.out.tape, hr5.2.2.trans HB3.out.output, by show _ ≤ (five _ _ _ _ _ _ _ _).heap.size; rw [five_size]; exact HB3.out.size, fun b hb => (five_other _ _ _ _ _ _ _ _ b (by omega)).trans (HB3.out.block b hb)⟩⟩
end Go.Proofs.Ytopmeoonepkodaa
