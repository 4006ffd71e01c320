/- What is said of no disk is as the document says, and what must come of every program comes. No conditions. -/
import Derived.Test.YtclgekmpldeedaaFlS
import Derived.Test.YtclgekmpldeedaaOpenK
import Derived.SizedLaws
import Derived.ProofKit
import Derived.OpenShut
import Derived.ShutString
import Derived.ChangeOld
import Derived.Below
namespace Go.Proofs.Ytclgekmpldeedaa.FNobody
set_option linter.unusedVariables false
set_option linter.unusedSimpArgs false
open Go.ChangeShapes Go.WideShapes Go.ChangeAt Go.RowKit Go.Joins OpenB
set_option linter.unusedVariables false

theorem own : ownKnob Try.prog.godebug = none := by kernel_rfl
theorem laidOut : laidOutB Try.prog = true := by kernel_rfl

set_option maxHeartbeats 4000000 in
set_option maxRecDepth 100000 in
theorem walk (o : OpV) (w : World) : Calls Try.prog 4 #[.agg o.cells.toArray] w fun e w' => e = .returned (.bool true) ∧ Below w.heap.size w w' := by
  unfold OpV.cells
  obtain ⟨u, hu⟩ : ∃ W, W = w.alloc (.cells #[.int .i64 o.k, .string o.nm, .string o.to, .slice o.A o.l.length o.c, .int .i64 o.n, .int .i64 o.m, .slice o.KA o.kn o.kc] 32) := ⟨_, rfl⟩
  have hb : u.heap[w.heap.size]? = some (.cells #[.int .i64 o.k, .string o.nm, .string o.to, .slice o.A o.l.length o.c, .int .i64 o.n, .int .i64 o.m, .slice o.KA o.kn o.kc] 32 (0, 0)) := by rw [hu]; exact heap_alloc_new w _
  have hbu : Below w.heap.size w u := by rw [hu]; exact (Below.refl _ _).alloc (Nat.le_refl _) _
  have hlt : w.heap.size < u.heap.size := (Array.getElem?_eq_some_iff.1 hb).1
  have HX : Hid (∀ W, Below u.heap.size u W → W.cell? ⟨w.heap.size, 1, none⟩ = some (.string o.nm) ∧ W.cell? ⟨w.heap.size, 2, none⟩ = some (.string o.to) ∧ W.cell? ⟨w.heap.size, 3, none⟩ = some (.slice o.A o.l.length o.c) ∧ W.cell? ⟨w.heap.size, 4, none⟩ = some (.int .i64 o.n) ∧ W.cell? ⟨w.heap.size, 5, none⟩ = some (.int .i64 o.m) ∧ W.cell? ⟨w.heap.size, 6, none⟩ = some (.slice o.KA o.kn o.kc)) := Lib.hid fun W hW => by
    have h := (hW.block _ hlt).trans hb
    exact ⟨Go.Joins.cell_of_block h 1, Go.Joins.cell_of_block h 2, Go.Joins.cell_of_block h 3, Go.Joins.cell_of_block h 4, Go.Joins.cell_of_block h 5, Go.Joins.cell_of_block h 6⟩
  have HBU := Lib.hid hbu
  have HU := Lib.hid hu
  obtain ⟨x1, x2, x3, x4, x5, x6⟩ := HX.out u (Below.refl _ _)
  clear hu hb hbu hlt
  go_enter Try.func4, Try.ntmps4
  go_wp2_with fail
  first | rw [← HU.out] | skip
  refine (read_nil _ _).mono ?_
  rintro e v1 ⟨rfl, hb1⟩
  have HB1 : Hid (Below u.heap.size u v1) := Lib.hid ((Below.refl u.heap.size u).trans (hb1.mono (Below.refl u.heap.size u).size))
  clear x1 x2 x3 x4 x5 x6 hb1
  obtain ⟨x1, x2, x3, x4, x5, x6⟩ := HX.out v1 HB1.out
  go_wp2_with fail
  refine (size_nil _ _).mono ?_
  rintro e v2 ⟨rfl, rfl⟩
  go_wp2_with fail
  refine (lives9_any _).mono ?_
  rintro e v3 ⟨rfl, hb3⟩
  have HB3 : Hid (Below u.heap.size u v3) := Lib.hid (HB1.out.trans (hb3.mono HB1.out.size))
  clear x1 x2 x3 x4 x5 x6 hb3
  obtain ⟨x1, x2, x3, x4, x5, x6⟩ := HX.out v3 HB3.out
  go_wp2_with fail
  refine (append_nil _ _ _ _ _).mono ?_
  rintro e v4 ⟨rfl, hb4⟩
  have HB4 : Hid (Below u.heap.size u v4) := Lib.hid (HB3.out.trans (hb4.mono HB3.out.size))
  clear x1 x2 x3 x4 x5 x6 hb4
  obtain ⟨x1, x2, x3, x4, x5, x6⟩ := HX.out v4 HB4.out
  go_wp2_with fail
  refine (sync_nil _ _).mono ?_
  rintro e v5 ⟨rfl, hb5⟩
  have HB5 : Hid (Below u.heap.size u v5) := Lib.hid (HB4.out.trans (hb5.mono HB4.out.size))
  clear x1 x2 x3 x4 x5 x6 hb5
  obtain ⟨x1, x2, x3, x4, x5, x6⟩ := HX.out v5 HB5.out
  go_wp2_with fail
  refine (cut_nil _ _ _).mono ?_
  rintro e v6 ⟨rfl, hb6⟩
  have HB6 : Hid (Below u.heap.size u v6) := Lib.hid (HB5.out.trans (hb6.mono HB5.out.size))
  clear x1 x2 x3 x4 x5 x6 hb6
  obtain ⟨x1, x2, x3, x4, x5, x6⟩ := HX.out v6 HB6.out
  go_wp2_with fail
  refine (remove_nil _ _).mono ?_
  rintro e v7 ⟨rfl, hb7⟩
  have HB7 : Hid (Below u.heap.size u v7) := Lib.hid (HB6.out.trans (hb7.mono HB6.out.size))
  clear x1 x2 x3 x4 x5 x6 hb7
  obtain ⟨x1, x2, x3, x4, x5, x6⟩ := HX.out v7 HB7.out
  go_wp2_with fail
  refine (rename_nil _ _ _).mono ?_
  rintro e v8 ⟨rfl, hb8⟩
  have HB8 : Hid (Below u.heap.size u v8) := Lib.hid (HB7.out.trans (hb8.mono HB7.out.size))
  clear x1 x2 x3 x4 x5 x6 hb8
  obtain ⟨x1, x2, x3, x4, x5, x6⟩ := HX.out v8 HB8.out
  go_wp2_with fail
  refine (names_nil _).mono ?_
  rintro e v9 ⟨rfl, rfl⟩
  go_wp2_with fail
  refine (stop_nil _ _ _).mono ?_
  rintro e v10 ⟨rfl, rfl⟩
  go_wp2_with fail
  refine (off_nil _).mono ?_
  rintro e v11 ⟨rfl, rfl⟩
  go_wp2_with fail
  refine (crash_nil _ _).mono ?_
  rintro e v12 ⟨rfl, rfl⟩
  go_wp2_with fail
  refine (fork_nil _).mono ?_
  rintro e v13 ⟨rfl, rfl⟩
  go_wp2_with fail
  go_ret
  exact ⟨rfl, HBU.out.trans (HB8.out.mono HBU.out.size)⟩

set_option maxRecDepth 100000 in
theorem lifted (os : Os) (started : os.Started) (H : Type) (enc : TypeId × Value → H) :
    ReturnsInHanded {} Try.checked os 4 .any (Rows.filesNobodySpec.pre6 enc Try.prog Try.f4 Rows.filesNobodyRow.domain false) (Rows.filesNobodySpec.post enc Try.prog Try.f4 false true false false) := by
  refine returnsInHanded_of_change_sized (C := Try.checked) own started (by kernel_rfl) Try.func4
    (ChangeSpec.witness6 (enc := enc) (C := Try.checked) false ⟨#[], #[.agg #[.int .i64 0, .string ByteArray.empty, .string ByteArray.empty, .slice none 0 0, .int .i64 0, .int .i64 0, .slice none 0 0]], []⟩ 8 (by kernel_rfl) (by kernel_rfl) (by kernel_rfl) (by kernel_rfl)) ?_
  intro W base args ds gs before hval0 hW hcnd hsz0 _
  have hval : ∀ (j : Nat) t v, Try.f4.params[j]? = some t → args[j]? = some v → Value.okWide Try.prog W .any base t v := hval0
  have hsz : (DataW.weightsEach Try.prog (Try.f4.params.toList ++ Rows.filesNobodySpec.plain.varTypes Try.prog) (ds ++ gs)).all (· ≤ reachBytes) = true := hsz0
  have hW' := hW
  obtain ⟨p, q, hA0, hV, rfl, hfz, hnd⟩ := hW
  have hA : DataW.TrodAll enc Try.prog W 0 (fun _ => true) true Try.f4.params.toList args.toList ds p := hA0
  rw [Try.params4] at hA hval hsz
  obtain ⟨v0, d0, rfl, rfl, h0⟩ := trodAll_one hA
  obtain ⟨rfl, rfl⟩ := trodVars_none hV
  obtain ⟨a0, rfl, -⟩ := okWide_struct Try.underlying32 (hval 0 32 v0 rfl rfl)
  have k0 := h0
  have lt0 : ∀ x ∈ p, x.block < W.heap.size := by obtain ⟨m, hm⟩ := k0; exact DataW.trod_lt m _ _ _ hm
  have wt0 : ∀ n ∈ d0.weights Try.prog 32, n ≤ reachBytes := fun n hn => by have := List.all_eq_true.1 hsz n (DataW.weights_mem_each (j := 0) rfl rfl n hn); simpa using this
  clear hA0 hval0
  obtain ⟨op0, hop0, hok0⟩ : ∃ o : OpV, a0 = o.cells.toArray ∧ o.Ok W := by
    obtain ⟨m, hm⟩ := k0
    obtain ⟨o, h3, h4⟩ := open_op9 hm wt0
    exact ⟨o, by rw [← h3]; simp [Value.cells], h4⟩
  subst hop0
  refine (walk op0 W).mono fun e W' ⟨he, bel⟩ => ?_
  subst he
  exact ⟨_, rfl, _, _, _, [], _, [], hW', trodAll_mk1 (shut_bool Try.underlying4 _), trodAll_mk1 (Below.trod laidOut (by kernel_rfl) (of_decide_eq_true (by kernel_rfl)) k0 bel lt0), rfl, bel.frame _, fun h => by cases h⟩

/-- The statement. -/
theorem proved : Rows.FilesNobodySaid :=
  OpenClaim.holds_of_wide 4 Try.f4 rfl rfl rfl rfl rfl rfl rfl ⟨rfl, rfl, rfl, rfl, rfl⟩ rfl rfl rfl rfl rfl (by kernel_rfl) Try.func4 (by kernel_rfl)
    (of_decide_eq_true (by kernel_rfl)) (by unfold Func.isWrapper; first | (rw [if_pos (by decide +kernel)]; kernel_rfl) | (rw [if_neg (by decide +kernel)]; exact ⟨rfl, rfl⟩))
    (fun os started H enc _ => lifted os started H enc)

end Go.Proofs.Ytclgekmpldeedaa.FNobody
