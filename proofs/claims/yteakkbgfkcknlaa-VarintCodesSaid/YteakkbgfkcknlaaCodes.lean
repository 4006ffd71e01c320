/- The codes of any number, any text and any count are the document's, and a count that has none is refused. No conditions. -/
import Derived.Test.YteakkbgfkcknlaaVarL
import Derived.Test.YteakkbgfkcknlaaReg
import Derived.SizedLaws
import Derived.ProofKit
import Derived.OpenShut
import Derived.ShutString
import Derived.ChangeOld
import Derived.Below
namespace Go.Proofs.Yteakkbgfkcknlaa.Codes
open Go.ChangeShapes Go.WideShapes Go.ChangeAt Go.RowKit Go.Joins
open Go.ChangeMaps (open_string shut_string)
set_option linter.unusedVariables false

theorem own : ownKnob Try.prog.godebug = none := by kernel_rfl
theorem laidOut : laidOutB Try.prog = true := by kernel_rfl

set_option maxHeartbeats 1000000 in
theorem walk (x : Int) (s : ByteArray) (w : World) (hx1 : -9223372036854775808 ≤ x) (hx2 : x ≤ 9223372036854775807) (hs : s.size ≤ 140737488351232) :
    Calls Try.prog 3 #[.int .i64 x, .string s] w fun e w' => e = .returned (.bool true) ∧ Below w.heap.size w w' := by
  have X1 := Lib.hid hx1
  have X2 := Lib.hid hx2
  have HS := Lib.hid hs
  clear hx1 hx2 hs
  go_enter Try.func3, Try.ntmps3
  go_wp2_with fail
  refine (count_any x _ X2.out).mono ?_
  rintro e w1 hc
  have HC := Lib.hid hc
  obtain ⟨v, n, rfl⟩ : ∃ v n, e = .returned (.tuple #[v, .int .i64 n]) := by
    rcases hc with ⟨_, _, v, rfl, _⟩ | ⟨_, rfl, _⟩
    · exact ⟨_, _, rfl⟩
    · exact ⟨_, _, rfl⟩
  have hb0 : Below w.heap.size w w1 := by
    rcases hc with ⟨_, _, v, _, _, hb⟩ | ⟨_, _, rfl⟩
    · exact hb
    · exact Below.refl _ _
  have HB0 := Lib.hid hb0
  clear hc hb0
  go_wp2_with fail
  refine wp_region_mix [0, 1, 2, 3, 6, 4, 5, 7, 8, 9, 10, 11, 12, 15, 13, 14, 16, 17, 18, 19] (by kernel_rfl) (by kernel_rfl) (fun _ d _ _ _ h => by cases d <;> exact h) ?_
  simp only [atNats, List.filterMap_cons, List.filterMap_nil, List.getElem?_toArray, List.getElem?_cons_succ, List.getElem?_cons_zero]
  refine mix_call rfl (fun K hK => ?_)
  go_simp
  refine (lives1_any _).mono ?_
  rintro e w2 ⟨rfl, hb⟩
  refine hK _ _ hb ?_
  clear hK K
  try simp only [Act.put]
  have HB1 := Lib.hid (grow_trans HB0.out (below_undrew hb))
  have HG1 := Lib.hid (below_undrew hb)
  clear hb
  refine mix_pure ?_
  simp only [List.takeWhile, List.dropWhile, isPure]
  repeat (go_big_quiet_step (fail))
  refine wpQuiet_nil ?_
  refine mix_call rfl (fun K hK => ?_)
  go_simp
  refine (int_any x _ X1.out X2.out).mono ?_
  rintro e w3 ⟨v3, rfl, hv, hb⟩
  refine hK _ _ hb ?_
  clear hK K
  try simp only [Act.put]
  have hcv := run_later (fun u hu => OwnB.conv (OwnB.below hv hu))
  have HG2 := Lib.hid (grow_trans HG1.out hb)
  clear hv hb
  refine mix_pure ?_
  simp only [List.takeWhile, List.dropWhile, isPure]
  repeat (go_big_quiet_step (fail))
  refine wpQuiet_nil ?_
  refine mix_call rfl (fun K hK => ?_)
  go_simp
  refine (rint_any x _ X1.out X2.out).mono ?_
  rintro e w4 ⟨v4, rfl, hv, hb⟩
  refine hK _ _ hb ?_
  clear hK K
  try simp only [Act.put]
  have hcv2 := run_later (fun u hu => OwnB.conv (OwnB.below hv hu))
  have HG3 := Lib.hid (grow_trans HG2.out hb)
  clear hv hb hcv
  refine mix_pure ?_
  simp only [List.takeWhile, List.dropWhile, isPure]
  repeat (go_big_quiet_step (fail))
  refine wpQuiet_nil ?_
  refine mix_call rfl (fun K hK => ?_)
  go_simp
  refine (text_any s _ HS.out).mono ?_
  rintro e w5 ⟨v5, rfl, hv, hb⟩
  refine hK _ _ hb ?_
  clear hK K
  try simp only [Act.put]
  have hcv := run_later (fun u hu => OwnB.conv (OwnB.below hv hu))
  have HG4 := Lib.hid (grow_trans HG3.out hb)
  clear hv hb hcv2
  refine mix_pure ?_
  simp only [List.takeWhile, List.dropWhile, isPure]
  repeat (go_big_quiet_step (fail))
  refine wpQuiet_nil ?_
  refine mix_call rfl (fun K hK => ?_)
  go_simp
  refine (rtext_any s _ HS.out).mono ?_
  rintro e w6 ⟨v6, rfl, hv, hb⟩
  refine hK _ _ hb ?_
  clear hK K
  try simp only [Act.put]
  have hcv2 := run_later (fun u hu => OwnB.conv (OwnB.below hv hu))
  have HG5 := Lib.hid (grow_trans HG4.out hb)
  clear hv hb hcv
  refine mix_pure ?_
  simp only [List.takeWhile, List.dropWhile, isPure]
  repeat (go_big_quiet_step (fail))
  refine wpQuiet_nil ?_
  unfold wpMix
  clear hcv2 HG1 HG2 HG3 HG4 HB1
  rcases HC.out with ⟨h0, h1, v', he, hv, hb⟩ | ⟨hn, he, hw⟩
  · obtain ⟨rfl, rfl⟩ : v = v' ∧ n = 0 := by simpa using he
    obtain ⟨k, rfl⟩ := Int.eq_ofNat_of_zero_le h0
    have HV := Lib.hid (hv.below HG5.out)
    have HF := Lib.hid (grow_trans HB0.out HG5.out)
    clear he hv hb
    go_wp2_with fail
    refine wp_region_mix [0, 1, 2, 3, 4, 5, 6, 7, 8, 9, 10] (by kernel_rfl) (by kernel_rfl) (fun _ d _ _ _ h => by cases d <;> exact h) ?_
    simp only [atNats, List.filterMap_cons, List.filterMap_nil, List.getElem?_toArray, List.getElem?_cons_succ, List.getElem?_cons_zero]
    have hc0 := run_later (w := w6.drew) (fun u hu => OwnB.conv (OwnB.below HV.out (below_undrew hu)))
    refine mix_pure ?_
    simp only [List.takeWhile, List.dropWhile, isPure]
    repeat (go_big_quiet_step (fail))
    refine wpQuiet_nil ?_
    refine mix_call rfl (fun K hK => ?_)
    go_simp
    refine (rcount_any k _ (by omega)).mono ?_
    rintro e w7 ⟨v7, rfl, hv, hb⟩
    refine hK _ _ hb ?_
    clear hK K
    try simp only [Act.put]
    have hcv := run_later (fun u hu => OwnB.conv (OwnB.below hv hu))
    have HF2 := Lib.hid (grow_trans HF.out (below_undrew hb))
    clear hv hb hc0
    refine mix_pure ?_
    simp only [List.takeWhile, List.dropWhile, isPure]
    repeat (go_big_quiet_step (fail))
    refine wpQuiet_nil ?_
    unfold wpMix
    go_wp2
    go_ret
    exact ⟨rfl, HF2.out⟩
  · obtain ⟨rfl, rfl⟩ : v = .slice none 0 0 ∧ n = 1 := by simpa using he
    have HF := Lib.hid (grow_trans HB0.out HG5.out)
    clear he hw
    rcases hn with hn | hn
    · go_wp2
      go_ret
      exact ⟨rfl, HF.out⟩
    · go_wp2
      go_ret
      exact ⟨rfl, HF.out⟩

set_option maxRecDepth 100000 in
theorem lifted (os : Os) (started : os.Started) (H : Type) (enc : TypeId × Value → H) :
    ReturnsInHanded {} Try.checked os 3 .any (Rows.varintCodesSpec.pre6 enc Try.prog Try.f3 Rows.varintCodesRow.domain false) (Rows.varintCodesSpec.post enc Try.prog Try.f3 false true false false) := by
  refine returnsInHanded_of_change_sized (C := Try.checked) own started (by kernel_rfl) Try.func3
    (ChangeSpec.witness6 (enc := enc) (C := Try.checked) false ⟨#[], #[.int .i64 0, .string ByteArray.empty], []⟩ 8 (by kernel_rfl) (by kernel_rfl) (by kernel_rfl) (by kernel_rfl)) ?_
  intro W base args ds gs before hval0 hW hcnd hsz0 _
  have hval : ∀ (j : Nat) t v, Try.f3.params[j]? = some t → args[j]? = some v → Value.okWide Try.prog W .any base t v := hval0
  have hsz : (DataW.weightsEach Try.prog (Try.f3.params.toList ++ Rows.varintCodesSpec.plain.varTypes Try.prog) (ds ++ gs)).all (· ≤ reachBytes) = true := hsz0
  have hW' := hW
  obtain ⟨p, q, hA0, hV, rfl, hfz, hnd⟩ := hW
  have hA : DataW.TrodAll enc Try.prog W 0 (fun _ => true) true Try.f3.params.toList args.toList ds p := hA0
  rw [Try.params3] at hA hval hsz
  obtain ⟨v0, v1, d0, d1, p0, p1, rfl, rfl, rfl, h0, h1⟩ := trodAll_two hA
  obtain ⟨rfl, rfl⟩ := trodVars_none hV
  obtain ⟨a, rfl, rfl, rfl, wa⟩ := open_int Try.underlying3 (hval 0 3 v0 rfl rfl) h0
  obtain ⟨s, rfl, rfl, rfl, hs⟩ := open_string Try.underlying9 (hval 1 9 v1 rfl rfl) h1
  clear hA0 hval0
  have ha := in64_of_wf wa
  have hs2 : s.size ≤ 140737488351232 := by
    have h3 := sized_string hsz (j := 1) (t := 9) rfl rfl
    simpa [reachBytes] using h3
  refine (walk a s W ha.1 ha.2 hs2).mono fun e W' ⟨he, bel⟩ => ?_
  subst he
  exact ⟨_, rfl, _, _, _, [], _, [], hW', trodAll_mk1 (shut_bool Try.underlying4 _), trodAll_mk2 (shut_int Try.underlying3 wa) (shut_string Try.underlying9 hs), rfl, bel.frame _, fun h => by cases h⟩

/-- The statement. -/
theorem proved : Rows.VarintCodesSaid :=
  OpenClaim.holds_of_wide 3 Try.f3 rfl rfl rfl rfl rfl rfl rfl ⟨rfl, rfl, rfl, rfl, rfl⟩ rfl rfl rfl rfl rfl (by kernel_rfl) Try.func3 (by kernel_rfl)
    (of_decide_eq_true (by kernel_rfl)) (by unfold Func.isWrapper; first | (rw [if_pos (by decide +kernel)]; kernel_rfl) | (rw [if_neg (by decide +kernel)]; exact ⟨rfl, rfl⟩))
    (fun os started H enc _ => lifted os started H enc)
end Go.Proofs.Yteakkbgfkcknlaa.Codes
