/- Set. -/
import Derived.Test.YtclgekmpldeedaaGreatKVoI
import Derived.Laws.StructEq
namespace Go.Proofs.YtclgekmpldeedaaGreat
set_option linter.unusedVariables false
set_option linter.unusedSimpArgs false
open Go.RowKit Go.Maps
set_option maxRecDepth 100000
theorem ballot_31 (W : World) : (binOp .eql 51 (.agg #[.int .i64 3, .int .i64 1]) (.agg #[.int .i64 0, .int .i64 (-1)])).run Tryz.prog W = .ok (.bool false) W := by kernel_rfl
theorem run_binop_val {ρ : Operand → Value} {o : Oper} {op : BinOp} {t : TypeId} {x y : Operand} {z : TypeId} {val : Value} {W : World} (ho : o.op = .binOp op t x y z) (hg : (eqGuard op t x y (ρ x) (ρ y)).run Tryz.prog W = .ok () W) (hb : (binOp op t (ρ x) (ρ y)).run Tryz.prog W = .ok val W) : (execOp ρ o).run Tryz.prog W = .ok (.value val) W := by
  unfold execOp
  rw [ho]
  simp [Sem.run_bind, hg, hb]
theorem ballot_guard (x y : Operand) (t n t0 n0 : Int) (W : World) : (eqGuard .eql 51 x y (.agg #[.int .i64 t, .int .i64 n]) (.agg #[.int .i64 t0, .int .i64 n0])).run Tryz.prog W = .ok () W :=
  run_eqGuard_agg W .eql 51 x y _ _ (by kernel_rfl)
section
variable {w : World} {Ft : Nat → Prop} {d : Nat} {M : DiskM}
theorem set_nil (w : World) (t n : Int) : Calls Tryz.prog 11 #[.pointer none, .int .i64 t, .int .i64 n] w fun e w' => e = .returned (.int .i64 6) ∧ Below w.heap.size w w' := by
  go_enter Tryz.func11, Tryz.ntmps11
  go_wp2_with fail
  refine (vmade_nil _).mono ?_
  rintro e w1 ⟨rfl, rfl⟩
  have HB := Lib.hid (two_below w (.cells #[.int .i64 t, .int .i64 n] 51))
  go_wp2_with fail
  go_ret
  exact ⟨rfl, HB.out⟩
set_option maxHeartbeats 4000000 in
theorem set_refused {v : Nat} {t0 n0 : Int} (hv : VAt w v d t0 n0) (t n : Int) (hm : mayB t n = true) (hf : followB t n t0 n0 = false) :
    Calls Tryz.prog 11 #[.pointer (some ⟨v, 0, none⟩), .int .i64 t, .int .i64 n] w fun e w' => e = .returned (.int .i64 120) ∧ Below w.heap.size w w' := by
  obtain ⟨w1, hw1⟩ : ∃ W, W = w.alloc (.cells #[.int .i64 t, .int .i64 n] 51) := ⟨_, rfl⟩
  have hb1 : Below w.heap.size w w1 := by rw [hw1]; exact two_below w _
  have hbk1 : w1.heap[w.heap.size]? = some (.cells #[.int .i64 t, .int .i64 n] 51 (0, 0)) := by rw [hw1]; exact heap_alloc_new w _
  have hv1 : VAt w1 v d t0 n0 := (hb1.block v (Array.getElem?_eq_some_iff.1 hv).1).trans hv
  have y0 := Go.Joins.cell_of_block hbk1 0
  have y1 := Go.Joins.cell_of_block hbk1 1
  have HV1 := Lib.hid hv1
  have HB1 := Lib.hid hb1
  have HK1 := Lib.hid hbk1
  have HW1 := Lib.hid hw1
  have HM := Lib.hid hm
  have HF := Lib.hid hf
  clear hv hm hf hb1 hbk1 hv1 hw1 y0 y1
  go_enter Tryz.func11, Tryz.ntmps11
  go_wp2_with fail
  rw [← HW1.out]
  obtain ⟨p, hp⟩ : ∃ p, p = w.heap.size := ⟨_, rfl⟩
  have HP := Lib.hid hp
  rw [← hp]
  refine (vmade_any HV1.out).mono ?_
  rintro e w2 ⟨rfl, rfl⟩
  have y0 := Go.Joins.cell_of_block HK1.out 0
  have y1 := Go.Joins.cell_of_block HK1.out 1
  rw [← hp] at y0 y1
  clear hp
  go_wp2_with fail
  refine (may_any t n _).mono ?_
  rintro e w3 ⟨rfl, hb3⟩
  rw [HM.out]
  have hv3 : VAt w3 v d t0 n0 := (hb3.block v (Array.getElem?_eq_some_iff.1 HV1.out).1).trans HV1.out
  have hbk3 : w3.heap[p]? = some (.cells #[.int .i64 t, .int .i64 n] 51 (0, 0)) := by
    rw [HP.out]; exact (hb3.block _ (Array.getElem?_eq_some_iff.1 HK1.out).1).trans HK1.out
  have HB3 := Lib.hid (HB1.out.trans (hb3.mono HB1.out.size))
  have z0 : w3.drew.cell? ⟨p, 0, none⟩ = some (.int .i64 t) := Go.Joins.cell_of_block hbk3 0
  have z1 : w3.drew.cell? ⟨p, 1, none⟩ = some (.int .i64 n) := Go.Joins.cell_of_block hbk3 1
  have x1 : w3.drew.cell? ⟨v, 1, none⟩ = some (.int .i64 t0) := hv3.c1
  have x2 : w3.drew.cell? ⟨v, 2, none⟩ = some (.int .i64 n0) := hv3.c2
  have hvl : v < w3.drew.heap.size := (Array.getElem?_eq_some_iff.1 hv3).1
  have hpl : p < w3.drew.heap.size := (Array.getElem?_eq_some_iff.1 hbk3).1
  have q1 := cell_row (row := none) z0 (by simp)
  have q2 := cell_row (row := none) z1 (by simp)
  have q3 := cell_row (row := none) x1 (by simp)
  have q4 := cell_row (row := none) x2 (by simp)
  have HB4 : Hid (Below w.heap.size w w3.drew) := Lib.hid HB3.out.drew
  clear hb3 hv3 hbk3 y0 y1 HB3 z0 z1 x1 x2 hvl hpl
  go_wp2_with fail
  refine wp_region_OT (RowR none) (RowR.refl _) (RowR.trans _) [] (.pure [0, 1, 2, 3, 4] (.step 5 (.free [6, 7] (.tail [])))) (by kernel_rfl) (by kernel_rfl) (fun _ d _ _ _ h => by cases d <;> exact h) ?_
  generalize w3.drew = w4 at *
  refine ot_pure ?_
  simp only [atNats, List.filterMap_cons, List.filterMap_nil, List.getElem?_toArray, List.getElem?_cons_succ, List.getElem?_cons_zero]
  show wpQuiet _ _ _ _ [_, _, _, _, _] _
  try simp only [List.getElem_toArray, List.getElem_cons_succ, List.getElem_cons_zero, Act.put, List.setIfInBounds_toArray, List.set_cons_succ, List.set_cons_zero] at *
  repeat (go_big_quiet_step (fail))
  refine wpQuiet_nil ?_
  clear q1 q2 q3 q4
  refine ot_step rfl (fun K hK => ?_)
  go_simp
  refine (follow_any t n t0 n0 w4).mono ?_
  rintro e w5 ⟨rfl, hb5⟩
  rw [HF.out]
  refine hK _ _ (.inr ⟨hb5.os, hb5.tape, hb5.output, hb5.size, fun k hk _ => hb5.block k hk⟩) ?_
  clear hK K
  have HB5 := Lib.hid (HB4.out.trans (hb5.mono HB4.out.size))
  clear hb5
  refine ot_free ?_
  simp only [atNats, List.filterMap_cons, List.filterMap_nil, List.getElem?_toArray, List.getElem?_cons_succ, List.getElem?_cons_zero]
  show wpQuiet _ _ _ _ [_, _] _
  try simp only [List.getElem_toArray, List.getElem_cons_succ, List.getElem_cons_zero, Act.put, List.setIfInBounds_toArray, List.set_cons_succ, List.set_cons_zero]
  repeat (go_big_quiet_step (fail))
  refine wpQuiet_nil ?_
  refine ot_end ?_
  go_wp2_with fail
  go_ret
  exact ⟨rfl, HB5.out⟩
set_option maxHeartbeats 4000000 in
theorem set_note (h : DAt w Ft d M) (hr : M.read voteN = ([], 4)) {v : Nat} {t0 n0 : Int} (hv : VAt w v d t0 n0) (hvF : ¬ Ft v) (t n : Int) (hm : mayB t n = true) (hf : followB t n t0 n0 = true) (hbe : ∀ W : World, (binOp .eql 51 (.agg #[.int .i64 t, .int .i64 n]) (.agg #[.int .i64 t0, .int .i64 n0])).run Tryz.prog W = .ok (.bool false) W) {M' : DiskM} (hM' : noteM t n M = (0, M')) :
    Calls Tryz.prog 11 #[.pointer (some ⟨v, 0, none⟩), .int .i64 t, .int .i64 n] w fun e w' => e = .returned (.int .i64 0) ∧ VAt w' v d t n ∧ ∃ Ft', ¬ Ft' v ∧ Gr (fun b => Ft b ∨ b = v) w (fun b => Ft' b ∨ b = v) w' ∧ DAt w' Ft' d M' := by
  have H := Lib.hid h
  have HRD := Lib.hid hr
  have HVF := Lib.hid hvF
  have HBE := Lib.hid hbe
  have HMM := Lib.hid hM'
  clear h hr hvF hbe hM'
  obtain ⟨w1, hw1⟩ : ∃ W, W = w.alloc (.cells #[.int .i64 t, .int .i64 n] 51) := ⟨_, rfl⟩
  have hb1 : Below w.heap.size w w1 := by rw [hw1]; exact two_below w _
  have hbk1 : w1.heap[w.heap.size]? = some (.cells #[.int .i64 t, .int .i64 n] 51 (0, 0)) := by rw [hw1]; exact heap_alloc_new w _
  have hv1 : VAt w1 v d t0 n0 := (hb1.block v (Array.getElem?_eq_some_iff.1 hv).1).trans hv
  have y0 := Go.Joins.cell_of_block hbk1 0
  have y1 := Go.Joins.cell_of_block hbk1 1
  have HV1 := Lib.hid hv1
  have HV0 := Lib.hid hv
  have HVL : Hid (v < w.heap.size) := Lib.hid (Array.getElem?_eq_some_iff.1 hv).1
  have HB1 := Lib.hid hb1
  have HK1 := Lib.hid hbk1
  have HW1 := Lib.hid hw1
  have HM := Lib.hid hm
  have HF := Lib.hid hf
  clear hv hm hf hb1 hbk1 hv1 hw1 y0 y1
  go_enter Tryz.func11, Tryz.ntmps11
  go_wp2_with fail
  rw [← HW1.out]
  obtain ⟨p, hp⟩ : ∃ p, p = w.heap.size := ⟨_, rfl⟩
  have HP := Lib.hid hp
  rw [← hp]
  refine (vmade_any HV1.out).mono ?_
  rintro e w2 ⟨rfl, rfl⟩
  have y0 := Go.Joins.cell_of_block HK1.out 0
  have y1 := Go.Joins.cell_of_block HK1.out 1
  rw [← hp] at y0 y1
  clear hp
  go_wp2_with fail
  refine (may_any t n _).mono ?_
  rintro e w3 ⟨rfl, hb3⟩
  rw [HM.out]
  have hv3 : VAt w3 v d t0 n0 := (hb3.block v (Array.getElem?_eq_some_iff.1 HV1.out).1).trans HV1.out
  have hbk3 : w3.heap[p]? = some (.cells #[.int .i64 t, .int .i64 n] 51 (0, 0)) := by
    rw [HP.out]; exact (hb3.block _ (Array.getElem?_eq_some_iff.1 HK1.out).1).trans HK1.out
  have HB3 := Lib.hid (HB1.out.trans (hb3.mono HB1.out.size))
  have z0 : w3.drew.cell? ⟨p, 0, none⟩ = some (.int .i64 t) := Go.Joins.cell_of_block hbk3 0
  have z1 : w3.drew.cell? ⟨p, 1, none⟩ = some (.int .i64 n) := Go.Joins.cell_of_block hbk3 1
  have x1 : w3.drew.cell? ⟨v, 1, none⟩ = some (.int .i64 t0) := hv3.c1
  have x2 : w3.drew.cell? ⟨v, 2, none⟩ = some (.int .i64 n0) := hv3.c2
  have hvl : v < w3.drew.heap.size := (Array.getElem?_eq_some_iff.1 hv3).1
  have hpl : p < w3.drew.heap.size := (Array.getElem?_eq_some_iff.1 hbk3).1
  have q1 := cell_row (row := none) z0 (by simp)
  have q2 := cell_row (row := none) z1 (by simp)
  have q3 := cell_row (row := none) x1 (by simp)
  have q4 := cell_row (row := none) x2 (by simp)
  have HBK4 : Hid (w3.drew.heap[p]? = some (.cells #[.int .i64 t, .int .i64 n] 51 (0, 0))) := Lib.hid hbk3
  have HPL : Hid (p < w3.drew.heap.size) := Lib.hid hpl
  have HB4 : Hid (Below w.heap.size w w3.drew) := Lib.hid HB3.out.drew
  clear hb3 hv3 hbk3 y0 y1 HB3 z0 z1 x1 x2 hvl hpl
  go_wp2_with fail
  refine wp_region_OT (RowR none) (RowR.refl _) (RowR.trans _) [] (.pure [0, 1, 2, 3, 4] (.step 5 (.free [6, 7] (.tail [])))) (by kernel_rfl) (by kernel_rfl) (fun _ d _ _ _ h => by cases d <;> exact h) ?_
  generalize w3.drew = w4 at *
  refine ot_pure ?_
  simp only [atNats, List.filterMap_cons, List.filterMap_nil, List.getElem?_toArray, List.getElem?_cons_succ, List.getElem?_cons_zero]
  show wpQuiet _ _ _ _ [_, _, _, _, _] _
  try simp only [List.getElem_toArray, List.getElem_cons_succ, List.getElem_cons_zero, Act.put, List.setIfInBounds_toArray, List.set_cons_succ, List.set_cons_zero] at *
  repeat (go_big_quiet_step (fail))
  refine wpQuiet_nil ?_
  clear q1 q2 q3 q4
  refine ot_step rfl (fun K hK => ?_)
  go_simp
  refine (follow_any t n t0 n0 w4).mono ?_
  rintro e w5 ⟨rfl, hb5⟩
  rw [HF.out]
  refine hK _ _ (.inr ⟨hb5.os, hb5.tape, hb5.output, hb5.size, fun k hk _ => hb5.block k hk⟩) ?_
  clear hK K
  have HB45 := Lib.hid hb5
  have HB5 := Lib.hid (HB4.out.trans (hb5.mono HB4.out.size))
  clear hb5
  refine ot_free ?_
  simp only [atNats, List.filterMap_cons, List.filterMap_nil, List.getElem?_toArray, List.getElem?_cons_succ, List.getElem?_cons_zero]
  show wpQuiet _ _ _ _ [_, _] _
  try simp only [List.getElem_toArray, List.getElem_cons_succ, List.getElem_cons_zero, Act.put, List.setIfInBounds_toArray, List.set_cons_succ, List.set_cons_zero]
  repeat (go_big_quiet_step (fail))
  refine wpQuiet_nil ?_
  refine ot_end ?_
  have hv5 : VAt w5 v d t0 n0 := (HB5.out.block v HVL.out).trans HV0.out
  have hbk5 : w5.heap[p]? = some (.cells #[.int .i64 t, .int .i64 n] 51 (0, 0)) := (HB45.out.block p HPL.out).trans HBK4.out
  have z0 : w5.drew.cell? ⟨p, 0, none⟩ = some (.int .i64 t) := Go.Joins.cell_of_block hbk5 0
  have z1 : w5.drew.cell? ⟨p, 1, none⟩ = some (.int .i64 n) := Go.Joins.cell_of_block hbk5 1
  have x1 : w5.drew.cell? ⟨v, 1, none⟩ = some (.int .i64 t0) := hv5.c1
  have x2 : w5.drew.cell? ⟨v, 2, none⟩ = some (.int .i64 n0) := hv5.c2
  have q1 := cell_row (row := none) z0 (by simp)
  have q2 := cell_row (row := none) z1 (by simp)
  have q3 := cell_row (row := none) x1 (by simp)
  have q4 := cell_row (row := none) x2 (by simp)
  have HBK6 : Hid (w5.drew.heap[p]? = some (.cells #[.int .i64 t, .int .i64 n] 51 (0, 0))) := Lib.hid hbk5
  have HV6 : Hid (VAt w5.drew v d t0 n0) := Lib.hid hv5
  have HB6 : Hid (Below w.heap.size w w5.drew) := Lib.hid HB5.out.drew
  clear hv5 hbk5 z0 z1 x1 x2 HB5 HB45 HBK4 HPL
  go_wp2_with fail
  refine wp_region_OT (RowR none) (RowR.refl _) (RowR.trans _) [] (.pure [0, 1, 2, 3, 4, 5, 6] (.tail [])) (by kernel_rfl) (by kernel_rfl) (fun _ d _ _ _ h => by cases d <;> exact h) ?_
  generalize w5.drew = w6 at *
  refine ot_pure ?_
  simp only [atNats, List.filterMap_cons, List.filterMap_nil, List.getElem?_toArray, List.getElem?_cons_succ, List.getElem?_cons_zero]
  show wpQuiet _ _ _ _ [_, _, _, _, _, _, _] _
  try simp only [List.getElem_toArray, List.getElem_cons_succ, List.getElem_cons_zero, Act.put, List.setIfInBounds_toArray, List.set_cons_succ, List.set_cons_zero] at *
  repeat (go_big_quiet_step (fail))
  refine BigFrame.wpQuiet_want rfl fun K hK => ?_
  refine ⟨.bool false, fun u _ => ?_, hK _ ?_⟩
  · unfold Oper.quietAt
    rw [run_binop_val rfl (ballot_guard _ _ t n t0 n0 u) (HBE.out u)]
    exact ⟨rfl, rfl⟩
  clear hK K
  try simp only [List.getElem_toArray, List.getElem_cons_succ, List.getElem_cons_zero, Act.put, List.setIfInBounds_toArray, List.set_cons_succ, List.set_cons_zero]
  repeat (go_big_quiet_step (fail))
  refine wpQuiet_nil ?_
  clear q1 q2 q3 q4
  have z0 := Go.Joins.cell_of_block HBK6.out 0
  have z1 := Go.Joins.cell_of_block HBK6.out 1
  refine ot_end ?_
  go_wp2_with fail
  have hmt : (0 ≤ t ∧ t ≤ 1099511627776) ∧ (-1 ≤ n ∧ n ≤ 63) := by have := HM.out; simp [mayB] at this; omega
  refine (note_none (H.out.below HB6.out) HRD.out HV6.out t n hmt.1 hmt.2).mono ?_
  rintro e w7 ⟨rfl, Ft7, hg7, hd7⟩
  rw [HMM.out] at hd7 ⊢
  have hs6 := HB6.out.size
  have hpl6 : p < w6.heap.size := (Array.getElem?_eq_some_iff.1 HBK6.out).1
  have hv7 : VAt w7 v d t0 n0 := (hg7.block v (by have := HVL.out; omega) HVF.out).trans HV6.out
  have hbk7 : w7.heap[p]? = some (.cells #[.int .i64 t, .int .i64 n] 51 (0, 0)) := (hg7.block p hpl6 (fun hf => by have := H.out.1 p hf; have := HP.out; omega)).trans HBK6.out
  have HV7 := Lib.hid hv7
  have HG7 := Lib.hid (And.intro hg7 hd7)
  have x1 := hv7.c1
  have x2 := hv7.c2
  have xf := fun i => Go.Joins.unfrozen_of_block hv7 i
  have z0 := Go.Joins.cell_of_block hbk7 0
  have z1 := Go.Joins.cell_of_block hbk7 1
  clear hg7 hd7 hv7 hbk7 hs6 hpl6 hmt
  go_wp2_with fail
  obtain ⟨hbox, hg8, hz8⟩ := two_set (i := 1) (j := 2) HV7.out (.int .i64 t) (.int .i64 n)
  obtain ⟨W8, hW8⟩ : ∃ W8, W8 = (w7.setCell ⟨v, 1, none⟩ (.int .i64 t)).setCell ⟨v, 2, none⟩ (.int .i64 n) := ⟨_, rfl⟩
  rw [← hW8] at hbox hg8 hz8
  obtain ⟨hg7, hd7⟩ := HG7.out
  have hs6 := HB6.out.size
  go_ret
  rw [← hW8]
  refine ⟨rfl, hbox, Ft7, fun hf => ?_, ⟨hg8.os.trans (hg7.os.trans HB6.out.os), hg8.tape.trans (hg7.tape.trans HB6.out.tape), hg8.output.trans (hg7.output.trans HB6.out.output), by have := hg7.size; omega, fun k hk hn => ?_, fun k hk => ?_⟩, hd7.keep (by omega) fun k hk => hg8.block k (hd7.1 k hk) (fun e => ?_)⟩
  · rcases hg7.ft v hf with h | h
    · exact HVF.out h
    · have := HVL.out; omega
  · exact (hg8.block k (by have := hg7.size; omega) (fun e => hn (.inr (by injection e)))).trans ((hg7.block k (by omega) (fun h => hn (.inl h))).trans (HB6.out.block k hk))
  · rcases hk with hk | rfl
    · rcases hg7.ft k hk with h | h
      · exact .inl (.inl h)
      · exact .inr (by omega)
    · exact .inl (.inr rfl)
  · injection e with e
    subst e
    rcases hg7.ft k hk with h | h
    · exact HVF.out h
    · have := HVL.out; omega
end
end Go.Proofs.YtclgekmpldeedaaGreat
