/- Arrays and documents made. -/
import Derived.Test.YteakkbgfkcknlaaValL
namespace Go.Proofs.Yteakkbgfkcknlaa
open Go.RowKit

def emp : ByteArray := ⟨#[]⟩
theorem emp_size : emp.size = 0 := rfl

set_option maxHeartbeats 1000000 in
set_option maxRecDepth 100000 in
theorem array_any (S : Nat → Prop) (A : Option Addr) (c : Nat) (l : List VT) (w : World) (hS : ∀ b, S b → b < w.heap.size) (h : LVA w S A l) (hl : l.length ≤ 1759218604390) :
    Calls Try.prog 52 #[.slice A l.length c] w fun e w' => ∃ v', e = .returned v' ∧ LV w' (New w.heap.size w') (.mk 6 0 emp l []) v' ∧ Below w.heap.size w w' := by
  obtain ⟨o, ho⟩ : ∃ o : Obj, o = .cells #[.int .i64 0, .int .i64 0, .string ⟨#[]⟩, .slice none 0 0, .slice none 0 0] 49 := ⟨_, rfl⟩
  have hY : Box (w.alloc o) w.heap.size (.int .i64 0) (.int .i64 0) (.string ⟨#[]⟩) (.slice none 0 0) (.slice none 0 0) := by rw [ho]; exact Box.new _ _ _ _ _
  have HA := Lib.hid (cloneAll_any S A c l (w.alloc o) (sub_alloc hS o) (h.keep fun b hb => Below.heap_alloc w o b (hS b hb)) hl)
  have HY := Lib.hid hY
  have HL := Lib.hid hl
  subst ho
  clear h hY hl
  go_enter Try.func52, Try.ntmps52
  go_wp2_with fail
  refine HA.out.mono ?_
  rintro e w2 ⟨A2, c2, rfl, hla, hb2⟩
  have hy := HY.out.call hb2
  have HY2 := Lib.hid hy
  have HBW := Lib.hid (toStart (below_box _) hb2)
  have z0 := hy.c0
  have z1 := hy.c1
  have z2 := hy.c2
  have z3 := hy.c3
  have z4 := hy.c4
  have zf0 := hy.free 0
  have zf1 := hy.free 1
  have zf2 := hy.free 2
  have zf3 := hy.free 3
  have zf4 := hy.free 4
  have HLA : Hid (LVA w2 (New (w.heap.size + 1) w2) A2 l) := Lib.hid (hla.imp fun b hb => ⟨by have := hb.1; simpa using this, hb.2⟩)
  clear hy hla hb2 HA HY
  go_wp2_with fail
  (try simp only [Exit.inBlock, Exit.then])
  have FIN := ((((HY2.out.set0 (.int .i64 6)).set1 (.int .i64 0)).set2 (.string emp)).set3 (.slice A2 l.length c2)).set4 (.slice none 0 0)
  have hk : ∀ b, New (w.heap.size + 1) w2 b → (set5 w2 w.heap.size 0 (.int .i64 6) (.int .i64 0) (.string emp) (.slice A2 l.length c2) (.slice none 0 0)).heap[b]? = w2.heap[b]? := fun b hb => set5_block _ _ _ _ _ (by have := hb.1; omega)
  have hn : ∀ b, New (w.heap.size + 1) w2 b → New w.heap.size (set5 w2 w.heap.size 0 (.int .i64 6) (.int .i64 0) (.string emp) (.slice A2 l.length c2) (.slice none 0 0)) b := fun b hb => ⟨by have := hb.1; omega, by rw [set5_size]; exact hb.2⟩
  have hla := (LVA.keep HLA.out hk).imp hn
  have hbw := set5_below (p := 0) (.int .i64 6) (.int .i64 0) (.string emp) (.slice A2 l.length c2) (.slice none 0 0) HBW.out (G := w.heap.size) (Nat.le_refl _)
  refine bodyPost_ret (results_cell_row rfl _ _ w.heap.size 49 _ (0, 0) _ rfl FIN Try.underlying49 rfl (by kernel_rfl)) rfl ?_
  exact ⟨_, rfl, LV.mk (rngK (by decide) (by decide)) rng0 (by rw [emp_size]; decide) HL.out (by simp) (strs_nil _ _ _) hla, hbw⟩

set_option maxHeartbeats 1000000 in
set_option maxRecDepth 100000 in
theorem doc_any (S : Nat → Prop) (A' : Option Addr) (c' : Nat) (ns : List ByteArray) (A : Option Addr) (c : Nat) (l : List VT) (w : World) (hS : ∀ b, S b → b < w.heap.size) (h : LVA w S A l) (hl : l.length ≤ 1759218604390) (hns : StrsAt w S A' ns) (hnl : ns.length ≤ 8796093021952) :
    Calls Try.prog 53 #[.slice A' ns.length c', .slice A l.length c] w fun e w' => ∃ v', e = .returned v' ∧ LV w' (New w.heap.size w') (.mk 7 0 emp l ns) v' ∧ Below w.heap.size w w' := by
  obtain ⟨o, ho⟩ : ∃ o : Obj, o = .cells #[.int .i64 0, .int .i64 0, .string ⟨#[]⟩, .slice none 0 0, .slice none 0 0] 49 := ⟨_, rfl⟩
  have hY : Box (w.alloc o) w.heap.size (.int .i64 0) (.int .i64 0) (.string ⟨#[]⟩) (.slice none 0 0) (.slice none 0 0) := by rw [ho]; exact Box.new _ _ _ _ _
  have HA := Lib.hid (cloneAll_any S A c l (w.alloc o) (sub_alloc hS o) (h.keep fun b hb => Below.heap_alloc w o b (hS b hb)) hl)
  have HY := Lib.hid hY
  have HL := Lib.hid (And.intro hl hnl)
  have HNS := Lib.hid hns
  subst ho
  clear h hY hl hns hnl
  go_enter Try.func53, Try.ntmps53
  go_wp2_with fail
  refine HA.out.mono ?_
  rintro e w1 ⟨A2, c2, rfl, hla, hb1⟩
  have HY1 := Lib.hid (HY.out.call hb1)
  have HB1 := Lib.hid (toStart (below_box _) hb1)
  have HLA1 : Hid (LVA w1 (New (w.heap.size + 1) w1) A2 l) := Lib.hid (hla.imp fun b hb => ⟨by have := hb.1; simpa using this, hb.2⟩)
  clear hla hb1 HA HY
  go_wp2_with fail
  refine (copyNames_any S A' c' ns w1 (HNS.out.keep fun b hb => HB1.out.block b (hS b hb)) HL.out.2).mono ?_
  rintro e w2 ⟨A3, c3, rfl, hst, hb2⟩
  have hy := HY1.out.call hb2
  have HY2 := Lib.hid hy
  have HBW := Lib.hid (toStart HB1.out hb2)
  have z0 := hy.c0
  have z1 := hy.c1
  have z2 := hy.c2
  have z3 := hy.c3
  have z4 := hy.c4
  have zf0 := hy.free 0
  have zf1 := hy.free 1
  have zf2 := hy.free 2
  have zf3 := hy.free 3
  have zf4 := hy.free 4
  have HLA : Hid (LVA w2 (New (w.heap.size + 1) w2) A2 l) := Lib.hid ((LVA.keep (w' := w2) HLA1.out (fun b hb => hb2.block b hb.2)).imp (New.mono (Nat.le_refl _) hb2.size))
  have HST : Hid (StrsAt w2 (New (w.heap.size + 1) w2) A3 ns) := Lib.hid (hst.imp (New.mono (by have := HY1.out.lt; omega) (Nat.le_refl _)))
  clear hy hst hb2 HY1 HB1 HLA1 HNS
  go_wp2_with fail
  (try simp only [Exit.inBlock, Exit.then])
  have FIN := ((((HY2.out.set0 (.int .i64 7)).set1 (.int .i64 0)).set2 (.string emp)).set3 (.slice A2 l.length c2)).set4 (.slice A3 ns.length c3)
  have hk : ∀ b, New (w.heap.size + 1) w2 b → (set5 w2 w.heap.size 0 (.int .i64 7) (.int .i64 0) (.string emp) (.slice A2 l.length c2) (.slice A3 ns.length c3)).heap[b]? = w2.heap[b]? := fun b hb => set5_block _ _ _ _ _ (by have := hb.1; omega)
  have hn : ∀ b, New (w.heap.size + 1) w2 b → New w.heap.size (set5 w2 w.heap.size 0 (.int .i64 7) (.int .i64 0) (.string emp) (.slice A2 l.length c2) (.slice A3 ns.length c3)) b := fun b hb => ⟨by have := hb.1; omega, by rw [set5_size]; exact hb.2⟩
  have hla := (LVA.keep HLA.out hk).imp hn
  have hst := (StrsAt.keep HST.out hk).imp hn
  have hbw := set5_below (p := 0) (.int .i64 7) (.int .i64 0) (.string emp) (.slice A2 l.length c2) (.slice A3 ns.length c3) HBW.out (G := w.heap.size) (Nat.le_refl _)
  refine bodyPost_ret (results_cell_row rfl _ _ w.heap.size 49 _ (0, 0) _ rfl FIN Try.underlying49 rfl (by kernel_rfl)) rfl ?_
  exact ⟨_, rfl, LV.mk (rngK (by decide) (by decide)) rng0 (by rw [emp_size]; decide) HL.out.1 HL.out.2 hst hla, hbw⟩
end Go.Proofs.Yteakkbgfkcknlaa
