/- Set. -/
import Derived.Test.YtflkaladkbkbgaaGreatKVoI
import Derived.Test.YtflkaladkbkbgaaGreatKFlO
import Derived.Laws.StructEq
namespace Go.Proofs.YtflkaladkbkbgaaGreat
set_option linter.unusedVariables false
set_option linter.unusedSimpArgs false
open Go.RowKit Go.Maps
set_option maxRecDepth 100000
theorem ballot_31 (W : World) : (binOp .eql 51 (.agg #[.int .i64 3, .int .i64 1]) (.agg #[.int .i64 0, .int .i64 (-1)])).run Tryz.prog W = .ok (.bool false) W := by kernel_rfl
theorem run_binop_val {ρ : Operand → Value} {o : Oper} {op : BinOp} {t : TypeId} {x y : Operand} {z : TypeId} {val : Value} {W : World} (ho : o.op = .binOp op t x y z) (hg : (eqGuard op t x y (ρ x) (ρ y)).run Tryz.prog W = .ok () W) (hb : (binOp op t (ρ x) (ρ y)).run Tryz.prog W = .ok val W) : (execOp ρ o).run Tryz.prog W = .ok (.value val) W := by
  unfold execOp
  rw [ho]
  simp [Sem.run_bind, hg, hb]
theorem ballot_guard (x y : Operand) (t n t0 n0 : Int) (W : World) : (eqGuard .eql 51 x y (.agg #[.int .i64 t, .int .i64 n]) (.agg #[.int .i64 t0, .int .i64 n0])).run Tryz.prog W = .ok () W :=
  run_eqGuard_agg W .eql 51 x y _ _ (by kernel_rfl)
section
variable {w : World} {Ft : Nat → Prop} {d : Nat} {M : DiskM}
theorem set_nil (w : World) (t n : Int) : Calls Tryz.prog 11 #[.pointer none, .int .i64 t, .int .i64 n] w fun e w' => e = .returned (.int .i64 6) ∧ Below w.heap.size w w' := by
  go_enter Tryz.func11, Tryz.ntmps11
  go_wp2_with fail
  refine (vmade_nil _).mono ?_
  rintro e w1 ⟨rfl, rfl⟩
  have HB := Lib.hid (two_below w (.cells #[.int .i64 t, .int .i64 n] 51))
  go_wp2_with fail
  go_ret
  exact ⟨rfl, HB.out⟩
set_option maxHeartbeats 4000000 in
theorem set_refused {v : Nat} {t0 n0 : Int} (hv : VAt w v d t0 n0) (t n : Int) (hm : mayB t n = true) (hf : followB t n t0 n0 = false) :
    Calls Tryz.prog 11 #[.pointer (some ⟨v, 0, none⟩), .int .i64 t, .int .i64 n] w fun e w' => e = .returned (.int .i64 120) ∧ Below w.heap.size w w' := by
  obtain ⟨w1, hw1⟩ : ∃ W, W = w.alloc (.cells #[.int .i64 t, .int .i64 n] 51) := ⟨_, rfl⟩
  have hb1 : Below w.heap.size w w1 := by rw [hw1]; exact two_below w _
  have hbk1 : w1.heap[w.heap.size]? = some (.cells #[.int .i64 t, .int .i64 n] 51 (0, 0)) := by rw [hw1]; exact heap_alloc_new w _
  have hv1 : VAt w1 v d t0 n0 := (hb1.block v (Array.getElem?_eq_some_iff.1 hv).1).trans hv
  have y0 := Go.Joins.cell_of_block hbk1 0
  have y1 := Go.Joins.cell_of_block hbk1 1
  have HV1 := Lib.hid hv1
  have HB1 := Lib.hid hb1
  have HK1 := Lib.hid hbk1
  have HW1 := Lib.hid hw1
  have HM := Lib.hid hm
  have HF := Lib.hid hf
  clear hv hm hf hb1 hbk1 hv1 hw1 y0 y1
  go_enter Tryz.func11, Tryz.ntmps11
  go_wp2_with fail
  rw [← HW1.out]
  obtain ⟨p, hp⟩ : ∃ p, p = w.heap.size := ⟨_, rfl⟩
  have HP := Lib.hid hp
  rw [← hp]
  refine (vmade_any HV1.out).mono ?_
  rintro e w2 ⟨rfl, rfl⟩
  have y0 := Go.Joins.cell_of_block HK1.out 0
  have y1 := Go.Joins.cell_of_block HK1.out 1
  rw [← hp] at y0 y1
  clear hp
  go_wp2_with fail
  refine (may_any t n _).mono ?_
  rintro e w3 ⟨rfl, hb3⟩
  rw [HM.out]
  have hv3 : VAt w3 v d t0 n0 := (hb3.block v (Array.getElem?_eq_some_iff.1 HV1.out).1).trans HV1.out
  have hbk3 : w3.heap[p]? = some (.cells #[.int .i64 t, .int .i64 n] 51 (0, 0)) := by
    rw [HP.out]; exact (hb3.block _ (Array.getElem?_eq_some_iff.1 HK1.out).1).trans HK1.out
  have HB3 := Lib.hid (HB1.out.trans (hb3.mono HB1.out.size))
  have z0 : w3.drew.cell? ⟨p, 0, none⟩ = some (.int .i64 t) := Go.Joins.cell_of_block hbk3 0
  have z1 : w3.drew.cell? ⟨p, 1, none⟩ = some (.int .i64 n) := Go.Joins.cell_of_block hbk3 1
  have x1 : w3.drew.cell? ⟨v, 1, none⟩ = some (.int .i64 t0) := hv3.c1
  have x2 : w3.drew.cell? ⟨v, 2, none⟩ = some (.int .i64 n0) := hv3.c2
  have hvl : v < w3.drew.heap.size := (Array.getElem?_eq_some_iff.1 hv3).1
  have hpl : p < w3.drew.heap.size := (Array.getElem?_eq_some_iff.1 hbk3).1
  have q1 := cell_row (row := none) z0 (by simp)
  have q2 := cell_row (row := none) z1 (by simp)
  have q3 := cell_row (row := none) x1 (by simp)
  have q4 := cell_row (row := none) x2 (by simp)
  have HB4 : Hid (Below w.heap.size w w3.drew) := Lib.hid HB3.out.drew
  clear hb3 hv3 hbk3 y0 y1 HB3 z0 z1 x1 x2 hvl hpl
  go_wp2_with fail
  refine wp_region_OT (RowR none) (RowR.refl _) (RowR.trans _) [] (.pure [0, 1, 2, 3, 4] (.step 5 (.free [6, 7] (.tail [])))) (by kernel_rfl) (by kernel_rfl) (fun _ d _ _ _ h => by cases d <;> exact h) ?_
  generalize w3.drew = w4 at *
  refine ot_pure ?_
  simp only [atNats, List.filterMap_cons, List.filterMap_nil, List.getElem?_toArray, List.getElem?_cons_succ, List.getElem?_cons_zero]
  show wpQuiet _ _ _ _ [_, _, _, _, _] _
  try simp only [List.getElem_toArray, List.getElem_cons_succ, List.getElem_cons_zero, Act.put, List.setIfInBounds_toArray, List.set_cons_succ, List.set_cons_zero] at *
  repeat (go_big_quiet_step (fail))
  refine wpQuiet_nil ?_
  clear q1 q2 q3 q4
  refine ot_step rfl (fun K hK => ?_)
  go_simp
  refine (follow_any t n t0 n0 w4).mono ?_
  rintro e w5 ⟨rfl, hb5⟩
  rw [HF.out]
  refine hK _ _ (.inr ⟨hb5.os, hb5.tape, hb5.output, hb5.size, fun k hk _ => hb5.block k hk⟩) ?_
  clear hK K
  have HB5 := Lib.hid (HB4.out.trans (hb5.mono HB4.out.size))
  clear hb5
  refine ot_free ?_
  simp only [atNats, List.filterMap_cons, List.filterMap_nil, List.getElem?_toArray, List.getElem?_cons_succ, List.getElem?_cons_zero]
  show wpQuiet _ _ _ _ [_, _] _
  try simp only [List.getElem_toArray, List.getElem_cons_succ, List.getElem_cons_zero, Act.put, List.setIfInBounds_toArray, List.set_cons_succ, List.set_cons_zero]
  repeat (go_big_quiet_step (fail))
  refine wpQuiet_nil ?_
  refine ot_end ?_
  go_wp2_with fail
  go_ret
  exact ⟨rfl, HB5.out⟩
set_option maxHeartbeats 4000000 in
theorem set_note (h : DAt w Ft d M) (hr : M.read voteN = ([], 4)) {v : Nat} {t0 n0 : Int} (hv : VAt w v d t0 n0) (hvF : ¬ Ft v) (t n : Int) (hm : mayB t n = true) (hf : followB t n t0 n0 = true) (hbe : ∀ W : World, (binOp .eql 51 (.agg #[.int .i64 t, .int .i64 n]) (.agg #[.int .i64 t0, .int .i64 n0])).run Tryz.prog W = .ok (.bool false) W) {M' : DiskM} (hM' : noteM t n M = (0, M')) :
    Calls Tryz.prog 11 #[.pointer (some ⟨v, 0, none⟩), .int .i64 t, .int .i64 n] w fun e w' => e = .returned (.int .i64 0) ∧ VAt w' v d t n ∧ ∃ Ft', ¬ Ft' v ∧ Gr (fun b => Ft b ∨ b = v) w (fun b => Ft' b ∨ b = v) w' ∧ DAt w' Ft' d M' := by
  have H := Lib.hid h
  have HRD := Lib.hid hr
  have HVF := Lib.hid hvF
  have HBE := Lib.hid hbe
  have HMM := Lib.hid hM'
  clear h hr hvF hbe hM'
  obtain ⟨w1, hw1⟩ : ∃ W, W = w.alloc (.cells #[.int .i64 t, .int .i64 n] 51) := ⟨_, rfl⟩
  have hb1 : Below w.heap.size w w1 := by rw [hw1]; exact two_below w _
  have hbk1 : w1.heap[w.heap.size]? = some (.cells #[.int .i64 t, .int .i64 n] 51 (0, 0)) := by rw [hw1]; exact heap_alloc_new w _
  have hv1 : VAt w1 v d t0 n0 := (hb1.block v (Array.getElem?_eq_some_iff.1 hv).1).trans hv
  have y0 := Go.Joins.cell_of_block hbk1 0
  have y1 := Go.Joins.cell_of_block hbk1 1
  have HV1 := Lib.hid hv1
  have HV0 := Lib.hid hv
  have HVL : Hid (v < w.heap.size) := Lib.hid (Array.getElem?_eq_some_iff.1 hv).1
  have HB1 := Lib.hid hb1
  have HK1 := Lib.hid hbk1
  have HW1 := Lib.hid hw1
  have HM := Lib.hid hm
  have HF := Lib.hid hf
  clear hv hm hf hb1 hbk1 hv1 hw1 y0 y1
  go_enter Tryz.func11, Tryz.ntmps11
  go_wp2_with fail
  rw [← HW1.out]
  obtain ⟨p, hp⟩ : ∃ p, p = w.heap.size := ⟨_, rfl⟩
  have HP := Lib.hid hp
  rw [← hp]
  refine (vmade_any HV1.out).mono ?_
  rintro e w2 ⟨rfl, rfl⟩
  have y0 := Go.Joins.cell_of_block HK1.out 0
  have y1 := Go.Joins.cell_of_block HK1.out 1
  rw [← hp] at y0 y1
  clear hp
  go_wp2_with fail
  refine (may_any t n _).mono ?_
  rintro e w3 ⟨rfl, hb3⟩
  rw [HM.out]
  have hv3 : VAt w3 v d t0 n0 := (hb3.block v (Array.getElem?_eq_some_iff.1 HV1.out).1).trans HV1.out
  have hbk3 : w3.heap[p]? = some (.cells #[.int .i64 t, .int .i64 n] 51 (0, 0)) := by
    rw [HP.out]; exact (hb3.block _ (Array.getElem?_eq_some_iff.1 HK1.out).1).trans HK1.out
  have HB3 := Lib.hid (HB1.out.trans (hb3.mono HB1.out.size))
  have z0 : w3.drew.cell? ⟨p, 0, none⟩ = some (.int .i64 t) := Go.Joins.cell_of_block hbk3 0
  have z1 : w3.drew.cell? ⟨p, 1, none⟩ = some (.int .i64 n) := Go.Joins.cell_of_block hbk3 1
  have x1 : w3.drew.cell? ⟨v, 1, none⟩ = some (.int .i64 t0) := hv3.c1
  have x2 : w3.drew.cell? ⟨v, 2, none⟩ = some (.int .i64 n0) := hv3.c2
  have hvl : v < w3.drew.heap.size := (Array.getElem?_eq_some_iff.1 hv3).1
  have hpl : p < w3.drew.heap.size := (Array.getElem?_eq_some_iff.1 hbk3).1
  have q1 := cell_row (row := none) z0 (by simp)
  have q2 := cell_row (row := none) z1 (by simp)
  have q3 := cell_row (row := none) x1 (by simp)
  have q4 := cell_row (row := none) x2 (by simp)
  have HBK4 : Hid (w3.drew.heap[p]? = some (.cells #[.int .i64 t, .int .i64 n] 51 (0, 0))) := Lib.hid hbk3
  have HPL : Hid (p < w3.drew.heap.size) := Lib.hid hpl
  have HB4 : Hid (Below w.heap.size w w3.drew) := Lib.hid HB3.out.drew
  clear hb3 hv3 hbk3 y0 y1 HB3 z0 z1 x1 x2 hvl hpl
  go_wp2_with fail
  refine wp_region_OT (RowR none) (RowR.refl _) (RowR.trans _) [] (.pure [0, 1, 2, 3, 4] (.step 5 (.free [6, 7] (.tail [])))) (by kernel_rfl) (by kernel_rfl) (fun _ d _ _ _ h => by cases d <;> exact h) ?_
  generalize w3.drew = w4 at *
  refine ot_pure ?_
  simp only [atNats, List.filterMap_cons, List.filterMap_nil, List.getElem?_toArray, List.getElem?_cons_succ, List.getElem?_cons_zero]
  show wpQuiet _ _ _ _ [_, _, _, _, _] _
  try simp only [List.getElem_toArray, List.getElem_cons_succ, List.getElem_cons_zero, Act.put, List.setIfInBounds_toArray, List.set_cons_succ, List.set_cons_zero] at *
  repeat (go_big_quiet_step (fail))
  refine wpQuiet_nil ?_
  clear q1 q2 q3 q4
  refine ot_step rfl (fun K hK => ?_)
  go_simp
  refine (follow_any t n t0 n0 w4).mono ?_
  rintro e w5 ⟨rfl, hb5⟩
  rw [HF.out]
  refine hK _ _ (.inr ⟨hb5.os, hb5.tape, hb5.output, hb5.size, fun k hk _ => hb5.block k hk⟩) ?_
  clear hK K
  have HB45 := Lib.hid hb5
  have HB5 := Lib.hid (HB4.out.trans (hb5.mono HB4.out.size))
  clear hb5
  refine ot_free ?_
  simp only [atNats, List.filterMap_cons, List.filterMap_nil, List.getElem?_toArray, List.getElem?_cons_succ, List.getElem?_cons_zero]
  show wpQuiet _ _ _ _ [_, _] _
  try simp only [List.getElem_toArray, List.getElem_cons_succ, List.getElem_cons_zero, Act.put, List.setIfInBounds_toArray, List.set_cons_succ, List.set_cons_zero]
  repeat (go_big_quiet_step (fail))
  refine wpQuiet_nil ?_
  refine ot_end ?_
  have hv5 : VAt w5 v d t0 n0 := (HB5.out.block v HVL.out).trans HV0.out
  have hbk5 : w5.heap[p]? = some (.cells #[.int .i64 t, .int .i64 n] 51 (0, 0)) := (HB45.out.block p HPL.out).trans HBK4.out
  have z0 : w5.drew.cell? ⟨p, 0, none⟩ = some (.int .i64 t) := Go.Joins.cell_of_block hbk5 0
  have z1 : w5.drew.cell? ⟨p, 1, none⟩ = some (.int .i64 n) := Go.Joins.cell_of_block hbk5 1
  have x1 : w5.drew.cell? ⟨v, 1, none⟩ = some (.int .i64 t0) := hv5.c1
  have x2 : w5.drew.cell? ⟨v, 2, none⟩ = some (.int .i64 n0) := hv5.c2
  have q1 := cell_row (row := none) z0 (by simp)
  have q2 := cell_row (row := none) z1 (by simp)
  have q3 := cell_row (row := none) x1 (by simp)
  have q4 := cell_row (row := none) x2 (by simp)
  have HBK6 : Hid (w5.drew.heap[p]? = some (.cells #[.int .i64 t, .int .i64 n] 51 (0, 0))) := Lib.hid hbk5
  have HV6 : Hid (VAt w5.drew v d t0 n0) := Lib.hid hv5
  have HB6 : Hid (Below w.heap.size w w5.drew) := Lib.hid HB5.out.drew
  clear hv5 hbk5 z0 z1 x1 x2 HB5 HB45 HBK4 HPL
  go_wp2_with fail
  refine wp_region_OT (RowR none) (RowR.refl _) (RowR.trans _) [] (.pure [0, 1, 2, 3, 4, 5, 6] (.tail [])) (by kernel_rfl) (by kernel_rfl) (fun _ d _ _ _ h => by cases d <;> exact h) ?_
  generalize w5.drew = w6 at *
  refine ot_pure ?_
  simp only [atNats, List.filterMap_cons, List.filterMap_nil, List.getElem?_toArray, List.getElem?_cons_succ, List.getElem?_cons_zero]
  show wpQuiet _ _ _ _ [_, _, _, _, _, _, _] _
  try simp only [List.getElem_toArray, List.getElem_cons_succ, List.getElem_cons_zero, Act.put, List.setIfInBounds_toArray, List.set_cons_succ, List.set_cons_zero] at *
  repeat (go_big_quiet_step (fail))
  refine BigFrame.wpQuiet_want rfl fun K hK => ?_
  refine ⟨.bool false, fun u _ => ?_, hK _ ?_⟩
  · unfold Oper.quietAt
    rw [run_binop_val rfl (ballot_guard _ _ t n t0 n0 u) (HBE.out u)]
    exact ⟨rfl, rfl⟩
  clear hK K
  try simp only [List.getElem_toArray, List.getElem_cons_succ, List.getElem_cons_zero, Act.put, List.setIfInBounds_toArray, List.set_cons_succ, List.set_cons_zero]
  repeat (go_big_quiet_step (fail))
  refine wpQuiet_nil ?_
  clear q1 q2 q3 q4
  have z0 := Go.Joins.cell_of_block HBK6.out 0
  have z1 := Go.Joins.cell_of_block HBK6.out 1
  refine ot_end ?_
  go_wp2_with fail
  have hmt : (0 ≤ t ∧ t ≤ 1099511627776) ∧ (-1 ≤ n ∧ n ≤ 63) := by have := HM.out; simp [mayB] at this; omega
  refine (note_none (H.out.below HB6.out) HRD.out HV6.out t n hmt.1 hmt.2).mono ?_
  rintro e w7 ⟨rfl, Ft7, hg7, hd7⟩
  rw [HMM.out] at hd7 ⊢
  have hs6 := HB6.out.size
  have hpl6 : p < w6.heap.size := (Array.getElem?_eq_some_iff.1 HBK6.out).1
  have hv7 : VAt w7 v d t0 n0 := (hg7.block v (by have := HVL.out; omega) HVF.out).trans HV6.out
  have hbk7 : w7.heap[p]? = some (.cells #[.int .i64 t, .int .i64 n] 51 (0, 0)) := (hg7.block p hpl6 (fun hf => by have := H.out.1 p hf; have := HP.out; omega)).trans HBK6.out
  have HV7 := Lib.hid hv7
  have HG7 := Lib.hid (And.intro hg7 hd7)
  have x1 := hv7.c1
  have x2 := hv7.c2
  have xf := fun i => Go.Joins.unfrozen_of_block hv7 i
  have z0 := Go.Joins.cell_of_block hbk7 0
  have z1 := Go.Joins.cell_of_block hbk7 1
  clear hg7 hd7 hv7 hbk7 hs6 hpl6 hmt
  go_wp2_with fail
  obtain ⟨hbox, hg8, hz8⟩ := two_set (i := 1) (j := 2) HV7.out (.int .i64 t) (.int .i64 n)
  obtain ⟨W8, hW8⟩ : ∃ W8, W8 = (w7.setCell ⟨v, 1, none⟩ (.int .i64 t)).setCell ⟨v, 2, none⟩ (.int .i64 n) := ⟨_, rfl⟩
  rw [← hW8] at hbox hg8 hz8
  obtain ⟨hg7, hd7⟩ := HG7.out
  have hs6 := HB6.out.size
  go_ret
  rw [← hW8]
  refine ⟨rfl, hbox, Ft7, fun hf => ?_, ⟨hg8.os.trans (hg7.os.trans HB6.out.os), hg8.tape.trans (hg7.tape.trans HB6.out.tape), hg8.output.trans (hg7.output.trans HB6.out.output), by have := hg7.size; omega, fun k hk hn => ?_, fun k hk => ?_⟩, hd7.keep (by omega) fun k hk => hg8.block k (hd7.1 k hk) (fun e => ?_)⟩
  · rcases hg7.ft v hf with h | h
    · exact HVF.out h
    · have := HVL.out; omega
  · exact (hg8.block k (by have := hg7.size; omega) (fun e => hn (.inr (by injection e)))).trans ((hg7.block k (by omega) (fun h => hn (.inl h))).trans (HB6.out.block k hk))
  · rcases hk with hk | rfl
    · rcases hg7.ft k hk with h | h
      · exact .inl (.inl h)
      · exact .inr (by omega)
    · exact .inl (.inr rfl)
  · injection e with e
    subst e
    rcases hg7.ft k hk with h | h
    · exact HVF.out h
    · have := HVL.out; omega
end
end Go.Proofs.YtflkaladkbkbgaaGreat

/- What must come of every program of the layer of votes. -/
namespace Go.Proofs.YtflkaladkbkbgaaGreat
set_option linter.unusedVariables false
set_option linter.unusedSimpArgs false
open Go.RowKit Go.Maps
set_option maxRecDepth 100000
def dV1 : DiskM := (noteM 3 1 DiskM.new).2
def dV2 : DiskM := (repM snapN (frameF [115]) dV1).2
theorem mV0 : remZ (newNm voteN) DiskM.new = (0, DiskM.new) := rfl
theorem mR0 : DiskM.new.read voteN = ([], 4) := rfl
theorem mV1 : noteM 3 1 DiskM.new = (0, dV1) := Prod.ext (by decide +kernel) rfl
theorem mV2 : repM snapN (frameF [115]) dV1 = (0, dV2) := Prod.ext (by decide +kernel) rfl
theorem mL2 : dV2.read snapN = (frameF [115], 0) := by decide +kernel
theorem mC2 : dV2.cnt = 2 := by decide +kernel
theorem open_nil (w : World) : Calls Tryz.prog 7 #[.pointer none] w fun e w' => e = .returned (.tuple #[.pointer none, .int .i64 1]) ∧ w' = w := by
  go_enter Tryz.func7, Tryz.ntmps7
  go_wp2_with fail
  go_ret2
  exact ⟨rfl, rfl⟩
theorem load_nil (w : World) : Calls Tryz.prog 16 #[.pointer none] w fun e w' => e = .returned (.tuple #[.slice none 0 0, .int .i64 1]) ∧ w' = w := by
  go_enter Tryz.func16, Tryz.ntmps16
  go_wp2_with fail
  go_ret2
  exact ⟨rfl, rfl⟩
theorem save_nil (w : World) (A : Option Addr) (n c : Nat) : Calls Tryz.prog 15 #[.pointer none, .slice A n c] w fun e w' => e = .returned (.int .i64 1) ∧ w' = w := by
  go_enter Tryz.func15, Tryz.ntmps15
  go_wp2_with fail
  go_ret
  exact ⟨rfl, rfl⟩
theorem rd_one9 (w : World) (a : UInt8) : Rd (w.alloc (.cells #[.int .u8 (a.toNat : Int)] 5 (1, 2))) (w.heap.size + 1) (.slice (some ⟨w.heap.size, 0, none⟩) 1 1) [a] := by
  have h := heap_alloc_new w (.cells #[.int .u8 (a.toNat : Int)] 5 (1, 2))
  refine ⟨some ⟨w.heap.size, 0, none⟩, 1, rfl, by simp, ⟨by decide, fun h => by cases h⟩, fun _ => ⟨w.heap.size, 0, rfl, by omega, fun i hi => ?_⟩⟩
  have hc := Go.Joins.cell_of_block h i
  match i, hi with
  | 0, _ => simpa using hc
/-- A disk, and votes on it; what was there ahead of both stays. -/
structure LiveV (W w : World) (d : Nat) (M : DiskM) (v : Nat) (t n : Int) where
  Ft : Nat → Prop
  at_ : DAt w Ft d M
  base : ∀ k, Ft k → W.heap.size ≤ k
  below : Below W.heap.size W w
  hv : VAt w v d t n
  hn : ¬ Ft v
  hvb : W.heap.size ≤ v
theorem LiveV.stay {W w w' : World} {d v : Nat} {M : DiskM} {t n : Int} (h : LiveV W w d M v t n) (hb : Below w.heap.size w w') : Nonempty (LiveV W w' d M v t n) :=
  ⟨⟨h.Ft, h.at_.below hb, h.base, h.below.trans (hb.mono h.below.size), (hb.block v (Array.getElem?_eq_some_iff.1 h.hv).1).trans h.hv, h.hn, h.hvb⟩⟩
set_option maxHeartbeats 4000000 in
theorem lives12_any (w : World) : Calls Tryz.prog 8 #[] w fun e w' => e = .returned (.bool true) ∧ Below w.heap.size w w' := by
  go_enter Tryz.func8, Tryz.ntmps8
  go_wp2_with fail
  refine (new_any w).mono ?_
  rintro e w1 ⟨d, Ft, rfl, hd1, hb1, hF⟩
  go_wp2_with fail
  refine (open_none hd1 mV0 mR0).mono ?_
  rintro e w2 ⟨v, Ft2, rfl, hv2, hvs, hn2, hg2, hd2⟩
  have L2 : LiveV w w2 d .new v 0 (-1) := ⟨Ft2, hd2, hg2.base hb1.size hF, hb1.trans (hg2.below hb1.size hF), hv2, hn2, Nat.le_trans hb1.size hvs⟩
  clear hd1 hb1 hF hv2 hvs hn2 hg2 hd2
  go_wp2_with fail
  refine (open_nil w2).mono ?_
  rintro e w2' ⟨rfl, rfl⟩
  go_wp2_with fail
  refine (term_any L2.hv).mono ?_
  rintro e w2' ⟨rfl, rfl⟩
  go_wp2_with fail
  refine (for_any L2.hv).mono ?_
  rintro e w2' ⟨rfl, rfl⟩
  go_wp2_with fail
  refine (set_note L2.at_ mR0 L2.hv L2.hn 3 1 (by decide) (by decide) ballot_31 mV1).mono ?_
  rintro e w3 ⟨rfl, hv3, Ft3, hn3, hg3, hd3⟩
  have hF2 : ∀ k, (L2.Ft k ∨ k = v) → w.heap.size ≤ k := fun k hk => by
    rcases hk with h | h
    · exact L2.base k h
    · rw [h]; exact L2.hvb
  have L3 : LiveV w w3 d dV1 v 3 1 := ⟨Ft3, hd3, fun k hk => hg3.base L2.below.size hF2 k (.inl hk), L2.below.trans (hg3.below L2.below.size hF2), hv3, hn3, L2.hvb⟩
  clear hv3 hn3 hg3 hd3 hF2 L2
  go_wp2_with fail
  refine (set_refused L3.hv 3 2 (by decide) (by decide)).mono ?_
  rintro e w4 ⟨rfl, hb4⟩
  obtain ⟨L4⟩ := L3.stay hb4
  clear hb4 L3
  go_wp2_with fail
  refine (set_refused L4.hv 2 1 (by decide) (by decide)).mono ?_
  rintro e w5 ⟨rfl, hb5⟩
  obtain ⟨L5⟩ := L4.stay hb5
  clear hb5 L4
  go_wp2_with fail
  refine (term_any L5.hv).mono ?_
  rintro e w2' ⟨rfl, rfl⟩
  go_wp2_with fail
  refine (for_any L5.hv).mono ?_
  rintro e w6 ⟨rfl, rfl⟩
  have hc1 := cvk9 w6 #[.int .u8 115] 1 1
  obtain ⟨L7⟩ := L5.stay (two_below w6 (.cells #[.int .u8 115] 5 (1, 2)))
  have hr7 := rd_one9 w6 115
  have HC := Lib.hid (save_any L7.at_ _ [115] (by rw [show (w6.alloc (.cells #[.int .u8 115] 5 (1, 2))).heap.size = w6.heap.size + 1 by simp]; exact hr7) (by decide))
  rw [mV2] at HC
  clear L5 hr7
  go_wp2_with fail
  refine HC.out.mono ?_
  rintro e w8 ⟨rfl, Ft8, hg8, hd8⟩
  have L8 : LiveV w w8 d dV2 v 3 1 := ⟨Ft8, hd8, hg8.base L7.below.size L7.base, L7.below.trans (hg8.below L7.below.size L7.base), (hg8.block v (Array.getElem?_eq_some_iff.1 L7.hv).1 L7.hn).trans L7.hv, fun hf => by
    rcases hg8.ft v hf with h | h
    · exact L7.hn h
    · have := (Array.getElem?_eq_some_iff.1 L7.hv).1; omega, L7.hvb⟩
  clear HC hg8 hd8 hc1 L7
  go_wp2_with fail
  refine (load_frame L8.at_ [115] (by decide) mL2).mono ?_
  rintro e w9 ⟨hb9, v9, rfl, hv9⟩
  obtain ⟨L9⟩ := L8.stay hb9
  obtain ⟨A9, c9, rfl⟩ := hv9.shapeY
  have hstr : (convert 33 9 (.slice A9 1 c9)).run Tryz.prog w9 = .ok (.string ⟨#[115]⟩) w9 := hv9.strY
  clear hb9 hv9 L8
  go_wp2_with fail
  refine (names_any L9.at_).mono ?_
  rintro e w10 ⟨v10, ss, rfl, hss, hrow, hb10⟩
  obtain ⟨L10⟩ := L9.stay hb10
  have hs1 : ss.length = 2 := hss.trans mC2
  obtain ⟨A10, c10, rfl⟩ : ∃ A c, v10 = .slice A 2 c := by
    rcases hrow.2 with ⟨rfl, h0⟩ | ⟨g, cap, cur, rfl, -⟩
    · omega
    · exact ⟨_, _, by rw [hs1]⟩
  have HB := Lib.hid L10.below
  clear hss hrow hb10 L9 hstr L10
  go_wp2_with fail
  go_ret
  exact ⟨rfl, HB.out⟩
end Go.Proofs.YtflkaladkbkbgaaGreat
