/- What is said of no votes and of no disk is as the document says, and what must come of every program comes. No conditions. -/
import Derived.Test.YtflkaladkbkbgaaGreatKVoJ
import Derived.Test.YtflkaladkbkbgaaGreatKOpenB
import Derived.SizedLaws
import Derived.ProofKit
import Derived.OpenShut
import Derived.ShutString
import Derived.ChangeOld
import Derived.Below
namespace Go.Proofs.YtflkaladkbkbgaaGreat.VNobody
set_option linter.unusedVariables false
set_option linter.unusedSimpArgs false
open Go.ChangeShapes Go.WideShapes Go.ChangeAt Go.RowKit Go.Joins OpenB
set_option linter.unusedVariables false

theorem own : ownKnob Tryz.prog.godebug = none := by kernel_rfl
theorem laidOut : laidOutB Tryz.prog = true := by kernel_rfl

set_option maxHeartbeats 4000000 in
set_option maxRecDepth 100000 in
theorem walk (o : OpW) (w : World) : Calls Tryz.prog 5 #[.agg o.cells.toArray] w fun e w' => e = .returned (.bool true) ∧ Below w.heap.size w w' := by
  unfold OpW.cells
  obtain ⟨u, hu⟩ : ∃ W, W = w.alloc (.cells #[.int .i64 o.k, .int .i64 o.t, .int .i64 o.u, .int .i64 o.n, .int .i64 o.m, .slice o.A o.l.length o.c, .slice o.KA o.kn o.kc] 35) := ⟨_, rfl⟩
  have hb : u.heap[w.heap.size]? = some (.cells #[.int .i64 o.k, .int .i64 o.t, .int .i64 o.u, .int .i64 o.n, .int .i64 o.m, .slice o.A o.l.length o.c, .slice o.KA o.kn o.kc] 35 (0, 0)) := by rw [hu]; exact heap_alloc_new w _
  have hbu : Below w.heap.size w u := by rw [hu]; exact (Below.refl _ _).alloc (Nat.le_refl _) _
  have hlt : w.heap.size < u.heap.size := (Array.getElem?_eq_some_iff.1 hb).1
  have HX : Hid (∀ W, Below u.heap.size u W → W.cell? ⟨w.heap.size, 1, none⟩ = some (.int .i64 o.t) ∧ W.cell? ⟨w.heap.size, 2, none⟩ = some (.int .i64 o.u) ∧ W.cell? ⟨w.heap.size, 5, none⟩ = some (.slice o.A o.l.length o.c)) := Lib.hid fun W hW => by
    have h := (hW.block _ hlt).trans hb
    exact ⟨Go.Joins.cell_of_block h 1, Go.Joins.cell_of_block h 2, Go.Joins.cell_of_block h 5⟩
  have HBU := Lib.hid hbu
  have HU := Lib.hid hu
  clear hu hb hbu hlt
  go_enter Tryz.func5, Tryz.ntmps5
  go_wp2_with fail
  first | rw [← HU.out] | skip
  refine (load_nil _).mono ?_
  rintro e v1 ⟨rfl, rfl⟩
  go_wp2_with fail
  refine (lives12_any _).mono ?_
  rintro e v2 ⟨rfl, hb2⟩
  obtain ⟨x1, x2, x5⟩ := HX.out v2 hb2
  have HB2 := Lib.hid hb2
  clear hb2
  go_wp2_with fail
  refine (term_nil _).mono ?_
  rintro e v3 ⟨rfl, rfl⟩
  go_wp2_with fail
  refine (for_nil _).mono ?_
  rintro e v4 ⟨rfl, rfl⟩
  go_wp2_with fail
  refine (set_nil _ _ _).mono ?_
  rintro e v5 ⟨rfl, hb5⟩
  have HB5 := Lib.hid (HB2.out.trans (hb5.mono HB2.out.size))
  clear x1 x2 x5 hb5
  obtain ⟨x1, x2, x5⟩ := HX.out v5 HB5.out
  go_wp2_with fail
  refine (save_nil _ _ _ _).mono ?_
  rintro e v6 ⟨rfl, rfl⟩
  go_wp2_with fail
  go_ret
  exact ⟨rfl, HBU.out.trans (HB5.out.mono HBU.out.size)⟩

set_option maxRecDepth 100000 in
theorem lifted (os : Os) (started : os.Started) (H : Type) (enc : TypeId × Value → H) :
    ReturnsInHanded {} Tryz.checked os 5 .any (Rows.voteNobodySpec.pre6 enc Tryz.prog Tryz.f5 Rows.voteNobodyRow.domain false) (Rows.voteNobodySpec.post enc Tryz.prog Tryz.f5 false true false false) := by
  refine returnsInHanded_of_change_sized (C := Tryz.checked) own started (by kernel_rfl) Tryz.func5
    (ChangeSpec.witness6 (enc := enc) (C := Tryz.checked) false ⟨#[], #[.agg #[.int .i64 0, .int .i64 0, .int .i64 0, .int .i64 0, .int .i64 0, .slice none 0 0, .slice none 0 0]], []⟩ 8 (by kernel_rfl) (by kernel_rfl) (by kernel_rfl) (by kernel_rfl)) ?_
  intro W base args ds gs before hval0 hW hcnd hsz0 _
  have hval : ∀ (j : Nat) t v, Tryz.f5.params[j]? = some t → args[j]? = some v → Value.okWide Tryz.prog W .any base t v := hval0
  have hsz : (DataW.weightsEach Tryz.prog (Tryz.f5.params.toList ++ Rows.voteNobodySpec.plain.varTypes Tryz.prog) (ds ++ gs)).all (· ≤ reachBytes) = true := hsz0
  have hW' := hW
  obtain ⟨p, q, hA0, hV, rfl, hfz, hnd⟩ := hW
  have hA : DataW.TrodAll enc Tryz.prog W 0 (fun _ => true) true Tryz.f5.params.toList args.toList ds p := hA0
  rw [Tryz.params5] at hA hval hsz
  obtain ⟨v0, d0, rfl, rfl, h0⟩ := trodAll_one hA
  obtain ⟨rfl, rfl⟩ := trodVars_none hV
  obtain ⟨a0, rfl, -⟩ := okWide_struct Tryz.underlying35 (hval 0 35 v0 rfl rfl)
  have k0 := h0
  have lt0 : ∀ x ∈ p, x.block < W.heap.size := by obtain ⟨m, hm⟩ := k0; exact DataW.trod_lt m _ _ _ hm
  have wt0 : ∀ n ∈ d0.weights Tryz.prog 35, n ≤ reachBytes := fun n hn => by have := List.all_eq_true.1 hsz n (DataW.weights_mem_each (j := 0) rfl rfl n hn); simpa using this
  clear hA0 hval0
  obtain ⟨op0, hop0, hok0⟩ : ∃ o : OpW, a0 = o.cells.toArray ∧ o.Ok W := by
    obtain ⟨m, hm⟩ := k0
    obtain ⟨o, h3, h4⟩ := open_op12 hm wt0
    exact ⟨o, by rw [← h3]; simp [Value.cells], h4⟩
  subst hop0
  refine (walk op0 W).mono fun e W' ⟨he, bel⟩ => ?_
  subst he
  exact ⟨_, rfl, _, _, _, [], _, [], hW', trodAll_mk1 (shut_bool Tryz.underlying4 _), trodAll_mk1 (Below.trod laidOut (by kernel_rfl) (of_decide_eq_true (by kernel_rfl)) k0 bel lt0), rfl, bel.frame _, fun h => by cases h⟩

/-- The statement. -/
theorem proved : Rows.VoteNobodySaid :=
  OpenClaim.holds_of_wide 5 Tryz.f5 rfl rfl rfl rfl rfl rfl rfl ⟨rfl, rfl, rfl, rfl, rfl⟩ rfl rfl rfl rfl rfl (by kernel_rfl) Tryz.func5 (by kernel_rfl)
    (of_decide_eq_true (by kernel_rfl)) (by unfold Func.isWrapper; first | (rw [if_pos (by decide +kernel)]; kernel_rfl) | (rw [if_neg (by decide +kernel)]; exact ⟨rfl, rfl⟩))
    (fun os started H enc _ => lifted os started H enc)

end Go.Proofs.YtflkaladkbkbgaaGreat.VNobody
