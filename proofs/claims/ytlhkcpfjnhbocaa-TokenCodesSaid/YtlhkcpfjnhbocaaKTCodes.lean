/- The code of any token, and that it is decoded: as the document says. No conditions. -/
import Derived.Test.YtlhkcpfjnhbocaaKTkG
import Derived.Test.YtlhkcpfjnhbocaaKOpenN
import Derived.Test.YtlhkcpfjnhbocaaKOpenB
import Derived.SizedLaws
import Derived.ProofKit
import Derived.OpenShut
import Derived.ShutString
import Derived.ChangeOld
import Derived.Below
namespace Go.Proofs.Ytlhkcpfjnhbocaa.TCodes
set_option linter.unusedVariables false
set_option linter.unusedSimpArgs false
open Go.ChangeShapes Go.WideShapes Go.ChangeAt Go.RowKit Go.Joins OpenB
set_option linter.unusedVariables false

theorem own : ownKnob Try.prog.godebug = none := by kernel_rfl
theorem laidOut : laidOutB Try.prog = true := by kernel_rfl

set_option maxHeartbeats 8000000 in
set_option maxRecDepth 100000 in
theorem walk_bad (k i t : Int) (w : World) (h : mayTok k i t = false) : Calls Try.prog 7 #[tokV k i t] w fun e w' => e = .returned (.bool true) ∧ Below w.heap.size w w' := by
  have hx0 := KBox.new w k i t
  have HE := Lib.hid (tenc_bad k i t (w.alloc (.cells #[.int .i64 k, .int .i64 i, .int .i64 t] 37)) h)
  have HB0 : Hid (Below w.heap.size w (w.alloc (.cells #[.int .i64 k, .int .i64 i, .int .i64 t] 37))) := Lib.hid ((Below.refl _ _).alloc (Nat.le_refl _) _)
  have HX0 := Lib.hid hx0
  have HM := Lib.hid h
  clear h hx0
  unfold tokV at HE ⊢
  go_enter Try.func7, Try.ntmps7
  go_wp2_with fail
  refine HE.out.mono ?_
  rintro e w1 ⟨rfl, hb1⟩
  have HX1 := Lib.hid (HX0.out.keep hb1 (by simp))
  have HB1 := Lib.hid (HB0.out.trans (hb1.mono (by simp)))
  clear hb1 HE HX0 HB0
  go_wp2_with fail
  refine wp_region_mix [0, 1, 2, 3, 5, 4, 6, 7, 8] (by kernel_rfl) (by kernel_rfl) (fun _ d _ _ _ h => by cases d <;> exact h) ?_
  simp only [atNats, List.filterMap_cons, List.filterMap_nil, List.getElem?_toArray, List.getElem?_cons_succ, List.getElem?_cons_zero]
  have HX11 : Hid (KBox w1.drew w.heap.size k i t) := Lib.hid HX1.out
  have HB11 : Hid (Below w.heap.size w w1.drew) := Lib.hid HB1.out.drew
  first | refine mix_call rfl (fun K hK => ?_) | refine mix_callB rfl (fun K hK => ?_)
  go_simp
  refine (lives18_any _).mono ?_
  rintro e w2 ⟨rfl, hb⟩
  refine hK _ _ hb ?_
  clear hK K
  try simp only [Act.put]
  have HX2 := Lib.hid (HX11.out.keep hb HX11.out.lt)
  have HB2 := Lib.hid (HB11.out.trans (hb.mono HB11.out.size))
  clear hb
  have z0 := cell_later (B := w2.heap.size) (w := w2) HX2.out.g0 HX2.out.lt
  have z1 := cell_later (B := w2.heap.size) (w := w2) HX2.out.g1 HX2.out.lt
  have z2 := cell_later (B := w2.heap.size) (w := w2) HX2.out.g2 HX2.out.lt
  first | refine mix_pure ?_ | refine mix_pureB ?_
  simp only [List.takeWhile, List.dropWhile, isPure, Nat.reduceBNe]
  repeat (go_big_quiet_step (fail))
  refine wpQuiet_nil ?_
  clear z0 z1 z2
  first | refine mix_call rfl (fun K hK => ?_) | refine mix_callB rfl (fun K hK => ?_)
  go_simp
  refine (tmay_any k i t _).mono ?_
  rintro e w3 ⟨rfl, hb⟩
  refine hK _ _ hb ?_
  clear hK K
  try simp only [Act.put]
  have HX3 := Lib.hid (HX2.out.keep hb HX2.out.lt)
  have HB3 := Lib.hid (HB2.out.trans (hb.mono HB2.out.size))
  clear hb
  first | refine mix_call rfl (fun K hK => ?_) | refine mix_callB rfl (fun K hK => ?_)
  go_simp
  refine (rtmay_any k i t _).mono ?_
  rintro e w4 ⟨rfl, hb⟩
  refine hK _ _ hb ?_
  clear hK K
  try simp only [Act.put]
  have HX4 := Lib.hid (HX3.out.keep hb HX3.out.lt)
  have HB4 := Lib.hid (HB3.out.trans (hb.mono HB3.out.size))
  clear hb
  rw [HM.out]
  first | refine mix_pure ?_ | refine mix_pureB ?_
  simp only [List.takeWhile, List.dropWhile, isPure, Nat.reduceBNe]
  repeat (go_big_quiet_step (fail))
  refine wpQuiet_nil ?_
  unfold wpMix
  have c0 := HX4.out.g0
  have c1 := HX4.out.g1
  have c2 := HX4.out.g2
  clear HX1 HB1 HX11 HB11 HX2 HB2 HX3 HB3
  go_wp2_with fail
  refine (rtmay_any _ _ _ _).mono ?_
  rintro e w5 ⟨rfl, hb⟩
  have HX5 := Lib.hid (HX4.out.keep hb HX4.out.lt)
  have HB5 := Lib.hid (HB4.out.trans (hb.mono HB4.out.size))
  clear hb c0 c1 c2 HX4 HB4
  rw [HM.out]
  go_wp2_with fail
  go_ret
  exact ⟨rfl, HB5.out⟩
set_option maxHeartbeats 8000000 in
set_option maxRecDepth 100000 in
theorem walk_good (k i t : Nat) (w : World) (h : mayTok k i t = true) : Calls Try.prog 7 #[tokV k i t] w fun e w' => e = .returned (.bool true) ∧ Below w.heap.size w w' := by
  obtain ⟨hk, hi, ht⟩ := mayTok_le h
  have hx0 := KBox.new w k i t
  have HE := Lib.hid (tenc_good k i t (w.alloc (.cells #[.int .i64 k, .int .i64 i, .int .i64 t] 37)) h)
  have HB0 : Hid (Below w.heap.size w (w.alloc (.cells #[.int .i64 k, .int .i64 i, .int .i64 t] 37))) := Lib.hid ((Below.refl _ _).alloc (Nat.le_refl _) _)
  have HX0 := Lib.hid hx0
  have HM := Lib.hid h
  have HDC := Lib.hid (dec_codeT h)
  have HLEN : Hid ((codeT k i t).length ≤ 1000) := Lib.hid (by
    have := headT_len k i t
    unfold codeT
    rw [List.length_append, loB_length]
    omega)
  clear h hx0
  unfold tokV at HE ⊢
  go_enter Try.func7, Try.ntmps7
  go_wp2_with fail
  refine HE.out.mono ?_
  rintro e w1 ⟨v, rfl, hv, hb1⟩
  have HX1 := Lib.hid (HX0.out.keep hb1 (by simp))
  have HB1 := Lib.hid (HB0.out.trans (hb1.mono (by simp)))
  have HV1 := Lib.hid hv.rdY
  have HD1 : Hid (w1.heap.size ≤ w1.heap.size) := Lib.hid (Nat.le_refl _)
  clear hb1 HE HX0 HB0 hv
  obtain ⟨A, c, rfl, -⟩ := id HV1.out
  obtain ⟨l, hl⟩ : ∃ l, l = codeT k i t := ⟨_, rfl⟩
  have HL := Lib.hid hl
  rw [← hl] at HV1 HDC HLEN ⊢
  clear hl
  go_wp2_with fail
  refine wp_region_mix [0, 1, 2, 3, 5, 4, 6, 7, 8] (by kernel_rfl) (by kernel_rfl) (fun _ d _ _ _ h => by cases d <;> exact h) ?_
  simp only [atNats, List.filterMap_cons, List.filterMap_nil, List.getElem?_toArray, List.getElem?_cons_succ, List.getElem?_cons_zero]
  have HX11 : Hid (KBox w1.drew w.heap.size k i t) := Lib.hid HX1.out
  have HB11 : Hid (Below w.heap.size w w1.drew) := Lib.hid HB1.out.drew
  first | refine mix_call rfl (fun K hK => ?_) | refine mix_callB rfl (fun K hK => ?_)
  go_simp
  refine (lives18_any _).mono ?_
  rintro e w2 ⟨rfl, hb⟩
  refine hK _ _ hb ?_
  clear hK K
  try simp only [Act.put]
  have HX2 := Lib.hid (HX11.out.keep hb HX11.out.lt)
  have HB2 := Lib.hid (HB11.out.trans (hb.mono HB11.out.size))
  have HV2 := Lib.hid ((show Rd w1.drew w1.heap.size (.slice A l.length c) l from HV1.out).keep hb)
  have hq2 : w1.heap.size ≤ w2.heap.size := hb.size
  clear hb
  have z0 := cell_later (B := w2.heap.size) (w := w2) HX2.out.g0 HX2.out.lt
  have z1 := cell_later (B := w2.heap.size) (w := w2) HX2.out.g1 HX2.out.lt
  have z2 := cell_later (B := w2.heap.size) (w := w2) HX2.out.g2 HX2.out.lt
  first | refine mix_pure ?_ | refine mix_pureB ?_
  simp only [List.takeWhile, List.dropWhile, isPure, Nat.reduceBNe]
  repeat (go_big_quiet_step (fail))
  refine wpQuiet_nil ?_
  clear z0 z1 z2
  first | refine mix_call rfl (fun K hK => ?_) | refine mix_callB rfl (fun K hK => ?_)
  go_simp
  refine (tmay_any k i t _).mono ?_
  rintro e w3 ⟨rfl, hb⟩
  refine hK _ _ hb ?_
  clear hK K
  try simp only [Act.put]
  have HX3 := Lib.hid (HX2.out.keep hb HX2.out.lt)
  have HB3 := Lib.hid (HB2.out.trans (hb.mono HB2.out.size))
  have HV3 := Lib.hid (HV2.out.keep (hb.mono hq2))
  have hq3 : w1.heap.size ≤ w3.heap.size := Nat.le_trans hq2 hb.size
  clear hb
  first | refine mix_call rfl (fun K hK => ?_) | refine mix_callB rfl (fun K hK => ?_)
  go_simp
  refine (rtmay_any k i t _).mono ?_
  rintro e w4 ⟨rfl, hb⟩
  refine hK _ _ hb ?_
  clear hK K
  try simp only [Act.put]
  have HX4 := Lib.hid (HX3.out.keep hb HX3.out.lt)
  have HB4 := Lib.hid (HB3.out.trans (hb.mono HB3.out.size))
  have HV4 := Lib.hid (HV3.out.keep (hb.mono hq3))
  have hq4 : w1.heap.size ≤ w4.heap.size := Nat.le_trans hq3 hb.size
  clear hq2 hq3
  clear hb
  rw [HM.out]
  first | refine mix_pure ?_ | refine mix_pureB ?_
  simp only [List.takeWhile, List.dropWhile, isPure, Nat.reduceBNe]
  repeat (go_big_quiet_step (fail))
  refine wpQuiet_nil ?_
  unfold wpMix
  have c0 := HX4.out.g0
  have c1 := HX4.out.g1
  have c2 := HX4.out.g2
  clear HX1 HB1 HX11 HB11 HX2 HB2 HX3 HB3
  go_wp2_with fail
  refine (rtmay_any _ _ _ _).mono ?_
  rintro e w5 ⟨rfl, hb⟩
  have HX5 := Lib.hid (HX4.out.keep hb HX4.out.lt)
  have HB5 := Lib.hid (HB4.out.trans (hb.mono HB4.out.size))
  have HV5 := Lib.hid (HV4.out.keep (hb.mono hq4))
  have hq5 : w1.heap.size ≤ w5.heap.size := Nat.le_trans hq4 hb.size
  clear hq4 HV2 HV3 HV4
  clear hb c0 c1 c2 HX4 HB4
  rw [HM.out]
  have HD := Lib.hid (tdec_any _ l w5 (HV5.out.upY hq5) (by have := HLEN.out; omega))
  rw [HDC.out] at HD
  unfold tokV at HD
  go_wp2_with fail
  refine HD.out.mono ?_
  rintro e w6 ⟨rfl, hb⟩
  have HX6 := Lib.hid (HX5.out.keep hb HX5.out.lt)
  have HB6 := Lib.hid (HB5.out.trans (hb.mono HB5.out.size))
  have HV6 := Lib.hid (HV5.out.keep (hb.mono hq5))
  have hq6 : w1.heap.size ≤ w6.heap.size := Nat.le_trans hq5 hb.size
  obtain ⟨X, hX⟩ : ∃ X : Obj, X = .cells #[.int .i64 (k : Int), .int .i64 (i : Int), .int .i64 (t : Int)] 37 := ⟨_, rfl⟩
  have hu : KBox (w6.alloc X) w6.heap.size k i t := by rw [hX]; exact KBox.new w6 k i t
  have hx7 := HX6.out.alloc X
  have hb7 := HB6.out.alloc HB6.out.size X
  have hv7 := HV6.out.keep ((Below.refl _ _).alloc hq6 X)
  obtain ⟨w7, hw7⟩ : ∃ W, W = w6.alloc X := ⟨_, rfl⟩
  have hq7 : w1.heap.size ≤ w7.heap.size := by rw [hw7]; simp; omega
  rw [← hw7] at hu hx7 hb7 hv7
  have HWE : Hid (w7 = w6.alloc (.cells #[.int .i64 (k : Int), .int .i64 (i : Int), .int .i64 (t : Int)] 37)) := Lib.hid (by rw [hw7, hX])
  have HU7 := Lib.hid hu
  have HX7 := Lib.hid hx7
  have HB7 := Lib.hid hb7
  have HV7 := Lib.hid hv7
  clear hb HD hX hu hx7 hb7 hv7 hw7 hq5 hq6 HX5 HB5 HV5 HX6 HB6 HV6
  go_wp2_with fail
  rw [← HWE.out]
  clear HWE
  refine wp_region_mix [0, 1, 2, 3, 4, 5, 6, 7, 8, 9, 10, 11, 12, 13, 14, 15, 16, 17, 18, 19] (by kernel_rfl) (by kernel_rfl) (fun _ d _ _ _ h => by cases d <;> exact h) ?_
  simp only [atNats, List.filterMap_cons, List.filterMap_nil, List.getElem?_toArray, List.getElem?_cons_succ, List.getElem?_cons_zero]
  have HU : Hid (KBox w7.drew w6.heap.size k i t) := Lib.hid HU7.out
  have HX : Hid (KBox w7.drew w.heap.size k i t) := Lib.hid HX7.out
  have HB : Hid (Below w.heap.size w w7.drew) := Lib.hid HB7.out.drew
  have z0 := cell_later (B := w7.heap.size) (w := w7.drew) HX.out.g0 HX.out.lt
  have z1 := cell_later (B := w7.heap.size) (w := w7.drew) HX.out.g1 HX.out.lt
  have z2 := cell_later (B := w7.heap.size) (w := w7.drew) HX.out.g2 HX.out.lt
  have cv := run_later (B := w7.heap.size) (w := w7.drew) (s := convert 22 9 (.slice A l.length c)) fun u hu => (HV7.out.keep (Below.mono (show Below w7.heap.size w7 u from ⟨hu.os, hu.tape, hu.output, hu.size, hu.block⟩) hq7)).strY
  first | refine mix_pure ?_ | refine mix_pureB ?_
  simp only [List.takeWhile, List.dropWhile, isPure, Nat.reduceBNe]
  repeat (go_big_quiet_step (fail))
  refine wpQuiet_nil ?_
  clear z0 z1 z2 cv
  first | refine mix_call rfl (fun K hK => ?_) | refine mix_callB rfl (fun K hK => ?_)
  go_simp
  refine (rtcode_any k i t _ hk hi ht).mono ?_
  rintro e w8 ⟨v8, rfl, hv8, hb⟩
  refine hK _ _ hb ?_
  clear hK K
  try simp only [Act.put]
  have HU8 := Lib.hid (HU.out.keep hb HU.out.lt)
  have HX8 := Lib.hid (HX.out.keep hb HX.out.lt)
  have HB8 := Lib.hid (HB.out.trans (hb.mono HB.out.size))
  rw [← HL.out] at hv8
  have cv := run_later (B := w8.heap.size) (w := w8) (s := convert 22 9 v8) fun u hu => (hv8.rdY.keep hu).strY
  have z0 := cell_later (B := w8.heap.size) (w := w8) HX8.out.g0 HX8.out.lt
  have z1 := cell_later (B := w8.heap.size) (w := w8) HX8.out.g1 HX8.out.lt
  have z2 := cell_later (B := w8.heap.size) (w := w8) HX8.out.g2 HX8.out.lt
  have y0 := cell_later (B := w8.heap.size) (w := w8) HU8.out.g0 HU8.out.lt
  have y1 := cell_later (B := w8.heap.size) (w := w8) HU8.out.g1 HU8.out.lt
  have y2 := cell_later (B := w8.heap.size) (w := w8) HU8.out.g2 HU8.out.lt
  have hss : ((⟨l.toArray⟩ : ByteArray).toList == (⟨l.toArray⟩ : ByteArray).toList) = true := by simp
  obtain ⟨xs, hxs⟩ : ∃ x, x = (⟨l.toArray⟩ : ByteArray) := ⟨_, rfl⟩
  rw [← hxs] at cv hss ⊢
  clear hb hv8 hxs
  first | refine mix_pure ?_ | refine mix_pureB ?_
  simp only [List.takeWhile, List.dropWhile, isPure, Nat.reduceBNe]
  repeat (go_big_quiet_step (fail))
  refine wpQuiet_nil ?_
  unfold wpMix
  go_wp2_with fail
  go_ret
  refine ⟨?_, HB8.out⟩
  simp
set_option maxRecDepth 100000 in
theorem walk (k i t : Int) (w : World) : Calls Try.prog 7 #[.agg #[.int .i64 k, .int .i64 i, .int .i64 t]] w fun e w' => e = .returned (.bool true) ∧ Below w.heap.size w w' := by
  cases h : mayTok k i t with
  | false => exact walk_bad k i t w h
  | true =>
    have h0 : 0 ≤ k ∧ 0 ≤ i ∧ 0 ≤ t := by
      unfold mayTok at h
      have := of_decide_eq_true h
      omega
    obtain ⟨k', rfl⟩ : ∃ n : Nat, k = (n : Int) := ⟨k.toNat, by omega⟩
    obtain ⟨i', rfl⟩ : ∃ n : Nat, i = (n : Int) := ⟨i.toNat, by omega⟩
    obtain ⟨t', rfl⟩ : ∃ n : Nat, t = (n : Int) := ⟨t.toNat, by omega⟩
    exact walk_good k' i' t' w h

set_option maxRecDepth 100000 in
theorem lifted (os : Os) (started : os.Started) (H : Type) (enc : TypeId × Value → H) :
    ReturnsInHanded {} Try.checked os 7 .any (Rows.tokenCodesSpec.pre6 enc Try.prog Try.f7 Rows.tokenCodesRow.domain false) (Rows.tokenCodesSpec.post enc Try.prog Try.f7 false true false false) := by
  refine returnsInHanded_of_change_sized (C := Try.checked) own started (by kernel_rfl) Try.func7
    (ChangeSpec.witness6 (enc := enc) (C := Try.checked) false ⟨#[], #[.agg #[.int .i64 0, .int .i64 0, .int .i64 0]], []⟩ 8 (by kernel_rfl) (by kernel_rfl) (by kernel_rfl) (by kernel_rfl)) ?_
  intro W base args ds gs before hval0 hW hcnd hsz0 _
  have hval : ∀ (j : Nat) t v, Try.f7.params[j]? = some t → args[j]? = some v → Value.okWide Try.prog W .any base t v := hval0
  have hsz : (DataW.weightsEach Try.prog (Try.f7.params.toList ++ Rows.tokenCodesSpec.plain.varTypes Try.prog) (ds ++ gs)).all (· ≤ reachBytes) = true := hsz0
  have hW' := hW
  obtain ⟨p, q, hA0, hV, rfl, hfz, hnd⟩ := hW
  have hA : DataW.TrodAll enc Try.prog W 0 (fun _ => true) true Try.f7.params.toList args.toList ds p := hA0
  rw [Try.params7] at hA hval hsz
  obtain ⟨v0, d0, rfl, rfl, h0⟩ := trodAll_one hA
  obtain ⟨rfl, rfl⟩ := trodVars_none hV
  obtain ⟨a0, rfl, -⟩ := okWide_struct Try.underlying37 (hval 0 37 v0 rfl rfl)
  have k0 := h0
  have lt0 : ∀ x ∈ p, x.block < W.heap.size := by obtain ⟨m, hm⟩ := k0; exact DataW.trod_lt m _ _ _ hm
  have wt0 : ∀ n ∈ d0.weights Try.prog 37, n ≤ reachBytes := fun n hn => by have := List.all_eq_true.1 hsz n (DataW.weights_mem_each (j := 0) rfl rfl n hn); simpa using this
  clear hA0 hval0
  obtain ⟨tk0, ti0, tt0, ha0, hk0, hi0, ht0⟩ : ∃ k i t : Int, a0 = #[.int .i64 k, .int .i64 i, .int .i64 t] ∧ (-9223372036854775808 ≤ k ∧ k ≤ 9223372036854775807) ∧ (-9223372036854775808 ≤ i ∧ i ≤ 9223372036854775807) ∧ (-9223372036854775808 ≤ t ∧ t ≤ 9223372036854775807) := by
    obtain ⟨m, hm⟩ := k0
    obtain ⟨k, i, t, e, r⟩ := open_tok hm
    refine ⟨k, i, t, ?_, r⟩
    have e2 : a0.toList = [.int .i64 k, .int .i64 i, .int .i64 t] := by simpa [Value.cells] using e
    rw [← Array.toArray_toList (xs := a0), e2]
  subst ha0
  refine (walk tk0 ti0 tt0 W).mono fun e W' ⟨he, bel⟩ => ?_
  subst he
  exact ⟨_, rfl, _, _, _, [], _, [], hW', trodAll_mk1 (shut_bool Try.underlying4 _), trodAll_mk1 (Below.trod laidOut (by kernel_rfl) (of_decide_eq_true (by kernel_rfl)) k0 bel lt0), rfl, bel.frame _, fun h => by cases h⟩

/-- The statement. -/
theorem proved : Rows.TokenCodesSaid :=
  OpenClaim.holds_of_wide 7 Try.f7 rfl rfl rfl rfl rfl rfl rfl ⟨rfl, rfl, rfl, rfl, rfl⟩ rfl rfl rfl rfl rfl (by kernel_rfl) Try.func7 (by kernel_rfl)
    (of_decide_eq_true (by kernel_rfl)) (by unfold Func.isWrapper; first | (rw [if_pos (by decide +kernel)]; kernel_rfl) | (rw [if_neg (by decide +kernel)]; exact ⟨rfl, rfl⟩))
    (fun os started H enc _ => lifted os started H enc)

end Go.Proofs.Ytlhkcpfjnhbocaa.TCodes
