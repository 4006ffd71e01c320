/- A free list of changes, done a second time to what it made, changes nothing. No conditions. -/
import Derived.Test.YtnamdlljdgllmaaGreatKDlR
import Derived.Test.YtnamdlljdgllmaaGreatKDmB
import Derived.Test.YtnamdlljdgllmaaGreatKDmD
import Derived.Test.YtnamdlljdgllmaaGreatKLook
import Derived.SizedLaws
import Derived.ProofKit
import Derived.OpenShut
import Derived.ShutString
import Derived.ChangeOld
import Derived.Below
import Derived.Deep.Slices
namespace Go.Proofs.YtnamdlljdgllmaaGreat.DTwice
set_option linter.unusedVariables false
set_option linter.unusedSimpArgs false
open Go.ChangeShapes Go.WideShapes Go.ChangeAt Go.RowKit Go.Joins Go.Deep
set_option linter.unusedVariables false

theorem own : ownKnob Tryz.prog.godebug = none := by kernel_rfl
theorem laidOut : laidOutB Tryz.prog = true := by kernel_rfl
set_option maxHeartbeats 16000000 in
set_option maxRecDepth 100000 in
theorem walk (t : VT) (v : Value) (A : Option Addr) (c : Nat) (l : List DelT) (w : World) (h : LV w (fun b => b < w.heap.size) t v) (hl : DelsL w (fun b => b < w.heap.size) A l) (hcp : CapsD w A l) (hn : l.length ≤ 1172812402961) :
    Calls Tryz.prog 5 #[v, .slice A l.length c] w fun e w' => e = .returned (.bool true) ∧ Below w.heap.size w w' := by
  obtain ⟨A0, c0, A0', c0', rfl, -, -, -, hV, hb0⟩ := one_var (fun _ h => h) h
  have HV := Lib.hid hV
  have HB := Lib.hid hb0
  have HL := Lib.hid hl
  have HCP := Lib.hid hcp
  have hn2 : l.length ≤ 140737488351232 := by omega
  have y0 := hV.x.c0
  have y1 := hV.x.c1
  have y2 := hV.x.c2
  have y3 := hV.x.c3
  have y4 := hV.x.c4
  have HLG := Lib.hid (r6large_any (fun b => b < w.heap.size) A c l _ (fun b hb => Nat.lt_of_lt_of_le hb hb0.size) (hl.below (fun _ h => h) hb0) hn2)
  clear h hV hb0 hl hcp
  go_enter Tryz.func5, Tryz.ntmps5
  go_wp2_with fail
  refine HLG.out.mono ?_
  rintro e w2 ⟨rfl, hb⟩
  have HV2 := Lib.hid (HV.out.call hb)
  have HB2 := Lib.hid (toStart HB.out hb)
  clear hb HLG HV HB y0 y1 y2 y3 y4
  cases hlg : largeD l with
  | true =>
    clear hlg
    go_wp2_with fail
    refine (lives6_any _).mono ?_
    rintro e w9 ⟨rfl, hb⟩
    have HF := Lib.hid (toStart HB2.out hb)
    clear hb
    go_wp2_with fail
    go_ret
    exact ⟨rfl, HF.out⟩
  | false =>
  have HSM := Lib.hid (dels_small HL.out hlg)
  have y0 := HV2.out.x.c0
  have y1 := HV2.out.x.c1
  have y2 := HV2.out.x.c2
  have y3 := HV2.out.x.c3
  have y4 := HV2.out.x.c4
  have HLT := Lib.hid (HV2.out.large rfl)
  clear hlg
  go_wp2_with fail
  refine HLT.out.mono ?_
  rintro e w3 ⟨rfl, hb⟩
  have HV3 := Lib.hid (HV2.out.call hb)
  have HB3 := Lib.hid (toStart HB2.out hb)
  clear hb HLT HV2 HB2 y0 y1 y2 y3 y4
  cases hlt : largeT t with
  | true =>
    clear hlt
    go_wp2_with fail
    refine (lives6_any _).mono ?_
    rintro e w9 ⟨rfl, hb⟩
    have HF := Lib.hid (toStart HB3.out hb)
    clear hb
    go_wp2_with fail
    go_ret
    exact ⟨rfl, HF.out⟩
  | false =>
  have HLN := Lib.hid (lens_of hlt)
  have HDP := Lib.hid (depth_small hlt)
  have HFR := Lib.hid (r6free_any (fun b => b < w.heap.size) A c l w3 (fun b hb => Nat.lt_of_lt_of_le hb HB3.out.size) (HL.out.below (fun _ h => h) HB3.out) hn2)
  clear hlt
  go_wp2_with fail
  refine HFR.out.mono ?_
  rintro e w4 ⟨rfl, hb⟩
  have HV4 := Lib.hid (HV3.out.call hb)
  have HB4 := Lib.hid (toStart HB3.out hb)
  clear hb HFR HV3 HB3
  cases hfr : freeD l with
  | false =>
    clear hfr
    go_wp2_with fail
    refine (lives6_any _).mono ?_
    rintro e w9 ⟨rfl, hb⟩
    have HF := Lib.hid (toStart HB4.out hb)
    clear hb
    go_wp2_with fail
    go_ret
    exact ⟨rfl, HF.out⟩
  | true =>
  have HFRE := Lib.hid hfr
  have y0 := HV4.out.x.c0
  have y1 := HV4.out.x.c1
  have y2 := HV4.out.x.c2
  have y3 := HV4.out.x.c3
  have y4 := HV4.out.x.c4
  have HAP := Lib.hid (dlapply_any (fun b => b < w4.heap.size) t _ A c l w4 3000 41 (fun _ h => h) (HV4.out.v.imp HV4.out.s) HDP.out HLN.out (by omega) (by omega) ((HL.out.below (fun _ h => h) HB4.out).imp fun b hb => Nat.lt_of_lt_of_le hb HB4.out.size) (HCP.out.below HL.out (fun _ h => h) HB4.out) hn2 HSM.out)
  clear hfr
  go_wp2_with fail
  refine HAP.out.mono ?_
  rintro e w5 ⟨v5, rfl, hv5, hb5⟩
  have hcs := apply_cases HSM.out HLN.out HDP.out
  obtain ⟨res, hres⟩ : ∃ r, r = applyD l t := ⟨_, rfl⟩
  rw [← hres] at hv5 hcs ⊢
  obtain ⟨x, R⟩ := res
  simp only at hv5 hcs ⊢
  obtain ⟨E, e1, E', e2, rfl, -⟩ := hv5.shape
  have HV6 := Lib.hid (Vr.new (fun b hb => hb.2) hv5)
  have HB5 := Lib.hid (toStart HB4.out hb5)
  have HB6 := Lib.hid (toStart HB5.out (below_box (w := w5) (.cells #[.int .i64 R.kind, .int .i64 R.num, .string R.text, .slice E R.items.length e1, .slice E' R.names.length e2] 29)))
  have HCS := Lib.hid hcs
  have HLV := Lib.hid (lives6_any (w5.alloc (.cells #[.int .i64 R.kind, .int .i64 R.num, .string R.text, .slice E R.items.length e1, .slice E' R.names.length e2] 29)))
  clear hv5 hb5 hcs hres HAP HV4 HB4 y0 y1 y2 y3 y4
  go_wp2_with fail
  refine HLV.out.mono ?_
  rintro e w7 ⟨rfl, hb⟩
  have HV7 := Lib.hid (HV6.out.call hb)
  have HB7 := Lib.hid (toStart HB6.out hb)
  clear hb HLV HV6 HB6 HB5
  by_cases hx : x = 0
  rotate_left
  · have d1 : (x != 0) = true := by simpa using hx
    clear hx
    go_wp2_with fail
    refine (lives6_any _).mono ?_
    rintro e w9 ⟨rfl, hb⟩
    have HF := Lib.hid (toStart HB7.out hb)
    clear hb
    go_wp2_with fail
    go_ret
    exact ⟨rfl, HF.out⟩
  subst hx
  obtain ⟨hck, hdb, hdo, hdk⟩ : checkD l = 0 ∧ docB t = true ∧ doL l t = (0, R) ∧ DocK (3000 + 64) (41 + 1024) R := by
    rcases HCS.out with ⟨R', e, h1, h2, h3, h4⟩ | ⟨h, -⟩
    · injection e with _ e
      subst e
      exact ⟨h1, h2, h3, h4⟩
    · exact absurd rfl h
  have HTW := Lib.hid (apply_twice HSM.out HLN.out HDP.out HFRE.out hck hdb hdo hdk.doc)
  have y0 := HV7.out.x.c0
  have y1 := HV7.out.x.c1
  have y2 := HV7.out.x.c2
  have y3 := HV7.out.x.c3
  have y4 := HV7.out.x.c4
  have HAP := Lib.hid (dlapply_any (fun b => b < w7.heap.size) R _ A c l w7 3064 1065 (fun _ h => h) (HV7.out.v.imp HV7.out.s) hdk.deep hdk.lens (by omega) (by omega) ((HL.out.below (fun _ h => h) HB7.out).imp fun b hb => Nat.lt_of_lt_of_le hb HB7.out.size) (HCP.out.below HL.out (fun _ h => h) HB7.out) hn2 (fun h => ⟨(HSM.out h).1, (HSM.out h).2.1, fun d hd => lens_mono (by omega) _ ((HSM.out h).2.2 d hd)⟩))
  rw [HTW.out] at HAP
  clear hck hdb hdo hdk HTW HCS
  go_wp2_with fail
  refine HAP.out.mono ?_
  rintro e w8 ⟨v8, rfl, hv8, hb8⟩
  replace hv8 : LV w8 (Iv w7.heap.size w8.heap.size) R v8 := hv8
  obtain ⟨F, f1, F', f2, rfl, -⟩ := hv8.shape
  have hW := below_box (w := w8) (.cells #[.int .i64 R.kind, .int .i64 R.num, .string R.text, .slice F R.items.length f1, .slice F' R.names.length f2] 29)
  have hV9 := (HV7.out.call hb8).call hW
  have hX9 : Vr (w8.alloc (.cells #[.int .i64 R.kind, .int .i64 R.num, .string R.text, .slice F R.items.length f1, .slice F' R.names.length f2] 29)) _ w8.heap.size R F f1 F' f2 := Vr.new (fun b hb => hb.2) hv8
  have HB9 := Lib.hid (toStart (toStart HB7.out hb8) hW)
  have HSA := Lib.hid (rsame_any (fun b => b < (w8.alloc (.cells #[.int .i64 R.kind, .int .i64 R.num, .string R.text, .slice F R.items.length f1, .slice F' R.names.length f2] 29)).heap.size) (depthT R) R R _ _ _ (Nat.le_refl _) (fun _ h => h) (hV9.v.imp hV9.s) (hX9.v.imp hX9.s))
  have z0 := hV9.x.c0
  have z1 := hV9.x.c1
  have z2 := hV9.x.c2
  have z3 := hV9.x.c3
  have z4 := hV9.x.c4
  clear hv8 hb8 hW hV9 hX9 HAP HV7 HB7 y0 y1 y2 y3 y4
  go_wp2_with fail
  refine HSA.out.mono ?_
  rintro e w10 ⟨⟨r, rfl, hr⟩, hb⟩
  obtain rfl : r = true := hr.2 trivial
  have HF := Lib.hid (toStart HB9.out hb)
  clear hr hb HSA z0 z1 z2 z3 z4
  go_wp2_with fail
  go_ret
  exact ⟨rfl, HF.out⟩

set_option maxRecDepth 100000 in
theorem lifted (os : Os) (started : os.Started) (H : Type) (enc : TypeId × Value → H) :
    ReturnsInHanded {} Tryz.checked os 5 .any (Rows.deltaTwiceSpec.pre6 enc Tryz.prog Tryz.f5 Rows.deltaTwiceRow.domain false) (Rows.deltaTwiceSpec.post enc Tryz.prog Tryz.f5 false true false false) := by
  refine returnsInHanded_of_change_sized (C := Tryz.checked) own started (by kernel_rfl) Tryz.func5
    (ChangeSpec.witness6 (enc := enc) (C := Tryz.checked) false ⟨#[], #[.agg #[.int .i64 0, .int .i64 0, .string ByteArray.empty, .slice none 0 0, .slice none 0 0], .slice none 0 0], []⟩ 8 (by kernel_rfl) (by kernel_rfl) (by kernel_rfl) (by kernel_rfl)) ?_
  intro W base args ds gs before hval0 hW hcnd hsz0 _
  have hval : ∀ (j : Nat) t v, Tryz.f5.params[j]? = some t → args[j]? = some v → Value.okWide Tryz.prog W .any base t v := hval0
  have hsz : (DataW.weightsEach Tryz.prog (Tryz.f5.params.toList ++ Rows.deltaTwiceSpec.plain.varTypes Tryz.prog) (ds ++ gs)).all (· ≤ reachBytes) = true := hsz0
  have hW' := hW
  obtain ⟨p, q, hA0, hV, rfl, hfz, hnd⟩ := hW
  have hA : DataW.TrodAll enc Tryz.prog W 0 (fun _ => true) true Tryz.f5.params.toList args.toList ds p := hA0
  rw [Tryz.params5] at hA hval hsz
  obtain ⟨v0, v1, d0, d1, p0, p1, rfl, rfl, rfl, h0, h1⟩ := trodAll_two hA
  obtain ⟨rfl, rfl⟩ := trodVars_none hV
  obtain ⟨a0, rfl, -⟩ := okWide_struct Tryz.underlying29 (hval 0 29 v0 rfl rfl)
  have k0 := h0
  have lt0 : ∀ x ∈ p0, x.block < W.heap.size := by obtain ⟨m, hm⟩ := k0; exact DataW.trod_lt m _ _ _ hm
  have wt0 : ∀ n ∈ d0.weights Tryz.prog 29, n ≤ reachBytes := fun n hn => by have := List.all_eq_true.1 hsz n (DataW.weights_mem_each (j := 0) rfl rfl n hn); simpa using this
  obtain ⟨A1, n1, c1, rfl⟩ := okWide_slice Tryz.underlying22 (hval 1 22 v1 rfl rfl)
  have k1 := h1
  have lt1 : ∀ x ∈ p1, x.block < W.heap.size := by obtain ⟨m, hm⟩ := k1; exact DataW.trod_lt m _ _ _ hm
  have wt1 : ∀ n ∈ d1.weights Tryz.prog 22, n ≤ reachBytes := fun n hn => by have := List.all_eq_true.1 hsz n (DataW.weights_mem_each (j := 1) rfl rfl n hn); simpa using this
  clear hA0 hval0
  obtain ⟨t0, ht0⟩ : ∃ t, LV W (fun b => b < W.heap.size) t (.agg a0) := by
    obtain ⟨m, hm⟩ := k0
    have h3 := open_val m _ _ hm wt0
    simpa [Value.cells] using h3
  obtain ⟨os1, hn1, ho1, hc1, hl1, hos1, hcp1⟩ : ∃ os : List DelT, n1 = os.length ∧ (A1 = none → c1 = 0 ∧ os = []) ∧ os.length ≤ c1 ∧ os.length ≤ 1172812402961 ∧ DelsL W (fun b => b < W.heap.size) A1 os ∧ CapsD W A1 os := by
    obtain ⟨m, hm⟩ := k1
    obtain ⟨B, e, os, he, g0, g1, g2, g3, g4⟩ := open_dels hm wt1
    have he' : [Value.slice A1 n1 c1] = [Value.slice B os.length e] := he
    simp only [List.cons.injEq, Value.slice.injEq, and_true] at he'
    obtain ⟨rfl, rfl, rfl⟩ := he'
    exact ⟨os, rfl, g0, g1, g2, g3, g4⟩
  subst hn1
  refine (walk t0 _ A1 c1 os1 W ht0 hos1 hcp1 hl1).mono fun e W' ⟨he, bel⟩ => ?_
  subst he
  exact ⟨_, rfl, _, _, _, [], _, [], hW', trodAll_mk1 (shut_bool Tryz.underlying4 _), trodAll_mk2 (Below.trod laidOut (by kernel_rfl) (of_decide_eq_true (by kernel_rfl)) k0 bel lt0) (Below.trod laidOut (by kernel_rfl) (of_decide_eq_true (by kernel_rfl)) k1 bel lt1), rfl, bel.frame _, fun h => by cases h⟩

/-- The statement. -/
theorem proved : Rows.DeltaTwiceSaid :=
  OpenClaim.holds_of_wide 5 Tryz.f5 rfl rfl rfl rfl rfl rfl rfl ⟨rfl, rfl, rfl, rfl, rfl⟩ rfl rfl rfl rfl rfl (by kernel_rfl) Tryz.func5 (by kernel_rfl)
    (of_decide_eq_true (by kernel_rfl)) (by unfold Func.isWrapper; first | (rw [if_pos (by decide +kernel)]; kernel_rfl) | (rw [if_neg (by decide +kernel)]; exact ⟨rfl, rfl⟩))
    (fun os started H enc _ => lifted os started H enc)

end Go.Proofs.YtnamdlljdgllmaaGreat.DTwice
