/- Any changes of any value make what the document says, and leave the value as it was. No conditions. -/
import Derived.Test.YtnamdlljdgllmaaGreatKDlR
import Derived.Test.YtnamdlljdgllmaaGreatKDmE
import Derived.Test.YtnamdlljdgllmaaGreatKDlT
import Derived.Test.YtnamdlljdgllmaaGreatKRefM
import Derived.Test.YtnamdlljdgllmaaGreatKTtB
import Derived.SizedLaws
import Derived.ProofKit
import Derived.OpenShut
import Derived.ShutString
import Derived.ChangeOld
import Derived.Below
import Derived.Deep.Slices
namespace Go.Proofs.YtnamdlljdgllmaaGreat.DApplies
set_option linter.unusedVariables false
set_option linter.unusedSimpArgs false
open Go.ChangeShapes Go.WideShapes Go.ChangeAt Go.RowKit Go.Joins Go.Deep
set_option linter.unusedVariables false

theorem own : ownKnob Tryz.prog.godebug = none := by kernel_rfl
theorem laidOut : laidOutB Tryz.prog = true := by kernel_rfl
set_option maxHeartbeats 4000000 in
set_option maxRecDepth 100000 in
theorem r6check_w (S : Nat → Prop) (A : Option Addr) (c : Nat) (l : List DelT) (w : World) (hS : ∀ b, S b → b < w.heap.size) (h : DelsL w S A l) (hn : l.length ≤ 140737488351232) (hd : l.length ≤ 64 → SmallD l) :
    Calls Tryz.prog 14 #[.slice A l.length c] w fun e w' => e = .returned (.int .i64 (checkD l)) ∧ Below w.heap.size w w' := by
  by_cases h64 : 64 < l.length
  · have hr : checkD l = 3 := by unfold checkD; rw [if_pos h64]
    rw [hr]
    have d1 : decide ((l.length : Int) > 64) = true := decide_eq_true (by omega)
    clear h hS hd hr
    go_enter Tryz.func14, Tryz.ntmps14
    go_wp2_with fail
    go_ret
    exact ⟨rfl, Below.refl _ _⟩
  · exact r6check_any S A c l w hS h hn (hd (by omega))
set_option maxHeartbeats 16000000 in
set_option maxRecDepth 100000 in
theorem walk (t : VT) (v : Value) (A : Option Addr) (c : Nat) (l : List DelT) (w : World) (h : LV w (fun b => b < w.heap.size) t v) (hl : DelsL w (fun b => b < w.heap.size) A l) (hcp : CapsD w A l) (hn : l.length ≤ 1172812402961) :
    Calls Tryz.prog 4 #[v, .slice A l.length c] w fun e w' => e = .returned (.bool true) ∧ Below w.heap.size w w' := by
  obtain ⟨A0, c0, A0', c0', rfl, -, -, -, hV, hb0⟩ := one_var (fun _ h => h) h
  have HV := Lib.hid hV
  have HB := Lib.hid hb0
  have HL := Lib.hid hl
  have HCP := Lib.hid hcp
  have hn2 : l.length ≤ 140737488351232 := by omega
  have y0 := hV.x.c0
  have y1 := hV.x.c1
  have y2 := hV.x.c2
  have y3 := hV.x.c3
  have y4 := hV.x.c4
  have HLG := Lib.hid (r6large_any (fun b => b < w.heap.size) A c l _ (fun b hb => Nat.lt_of_lt_of_le hb hb0.size) (hl.below (fun _ h => h) hb0) hn2)
  clear h hV hb0 hl hcp
  go_enter Tryz.func4, Tryz.ntmps4
  go_wp2_with fail
  refine HLG.out.mono ?_
  rintro e w2 ⟨rfl, hb⟩
  have HV2 := Lib.hid (HV.out.call hb)
  have HB2 := Lib.hid (toStart HB.out hb)
  clear hb HLG HV HB y0 y1 y2 y3 y4
  cases hlg : largeD l with
  | true =>
    clear hlg
    go_wp2_with fail
    refine (lives6_any _).mono ?_
    rintro e w9 ⟨rfl, hb⟩
    have HF := Lib.hid (toStart HB2.out hb)
    clear hb
    go_wp2_with fail
    go_ret
    exact ⟨rfl, HF.out⟩
  | false =>
  have HSM := Lib.hid (dels_small HL.out hlg)
  have y0 := HV2.out.x.c0
  have y1 := HV2.out.x.c1
  have y2 := HV2.out.x.c2
  have y3 := HV2.out.x.c3
  have y4 := HV2.out.x.c4
  have HLT := Lib.hid (HV2.out.large rfl)
  clear hlg
  go_wp2_with fail
  refine HLT.out.mono ?_
  rintro e w3 ⟨rfl, hb⟩
  have HV3 := Lib.hid (HV2.out.call hb)
  have HB3 := Lib.hid (toStart HB2.out hb)
  clear hb HLT HV2 HB2 y0 y1 y2 y3 y4
  cases hlt : largeT t with
  | true =>
    clear hlt
    go_wp2_with fail
    refine (lives6_any _).mono ?_
    rintro e w9 ⟨rfl, hb⟩
    have HF := Lib.hid (toStart HB3.out hb)
    clear hb
    go_wp2_with fail
    go_ret
    exact ⟨rfl, HF.out⟩
  | false =>
  have HLN := Lib.hid (lens_of hlt)
  have HDP := Lib.hid (depth_small hlt)
  have y0 := HV3.out.x.c0
  have y1 := HV3.out.x.c1
  have y2 := HV3.out.x.c2
  have y3 := HV3.out.x.c3
  have y4 := HV3.out.x.c4
  have HCL := Lib.hid (rclone_any (fun b => b < w3.heap.size) t _ w3 (fun _ h => h) (HV3.out.v.imp HV3.out.s))
  clear hlt
  go_wp2_with fail
  refine HCL.out.mono ?_
  rintro e w4 ⟨vb, rfl, hov, hb⟩
  have hv := hov.lv
  obtain ⟨E, e1, E', e2, rfl, -⟩ := hv.shape
  have hbn := below_box (w := w4) (.cells #[.int .i64 t.kind, .int .i64 t.num, .string t.text, .slice E t.items.length e1, .slice E' t.names.length e2] 29)
  have HV5 := Lib.hid ((HV3.out.call hb).call hbn)
  have HO5 := Lib.hid (show Vr (w4.alloc (.cells #[.int .i64 t.kind, .int .i64 t.num, .string t.text, .slice E t.items.length e1, .slice E' t.names.length e2] 29)) _ w4.heap.size t E e1 E' e2 from Vr.new (fun b hb => hb.2) hv)
  have HB5 := Lib.hid (toStart (toStart HB3.out hb) hbn)
  obtain ⟨w5, hw5⟩ : ∃ W, W = w4.alloc (.cells #[.int .i64 t.kind, .int .i64 t.num, .string t.text, .slice E t.items.length e1, .slice E' t.names.length e2] 29) := ⟨_, rfl⟩
  rw [← hw5] at HV5 HO5 HB5
  have HAP := Lib.hid (dlapply_any (fun b => b < w5.heap.size) t _ A c l w5 3000 41 (fun _ h => h) (HO5.out.v.imp HO5.out.s) HDP.out HLN.out (by omega) (by omega) ((HL.out.below (fun _ h => h) HB5.out).imp fun b hb => Nat.lt_of_lt_of_le hb HB5.out.size) (HCP.out.below HL.out (fun _ h => h) HB5.out) hn2 HSM.out)
  rw [hw5] at HAP
  have HW5 := Lib.hid hw5
  clear hov hv hb hbn hw5 HCL HV3 HB3 y0 y1 y2 y3 y4
  go_wp2_with fail
  refine HAP.out.mono ?_
  rintro e w6 ⟨v6, rfl, hv6, hb6⟩
  rw [← HW5.out] at hv6 hb6
  have hcs := apply_cases HSM.out HLN.out HDP.out
  obtain ⟨res, hres⟩ : ∃ r, r = applyD l t := ⟨_, rfl⟩
  have HRES := Lib.hid hres
  rw [← hres] at hv6 hcs ⊢
  obtain ⟨x, R⟩ := res
  simp only at hv6 hcs ⊢
  obtain ⟨F, f1, F', f2, rfl, -⟩ := hv6.shape
  have hbn := below_box (w := w6) (.cells #[.int .i64 R.kind, .int .i64 R.num, .string R.text, .slice F R.items.length f1, .slice F' R.names.length f2] 29)
  have HX7 := Lib.hid (show Vr (w6.alloc (.cells #[.int .i64 R.kind, .int .i64 R.num, .string R.text, .slice F R.items.length f1, .slice F' R.names.length f2] 29)) _ w6.heap.size R F f1 F' f2 from Vr.new (fun b hb => hb.2) hv6)
  have HV7 := Lib.hid ((HV5.out.call hb6).call hbn)
  have HO7 := Lib.hid ((HO5.out.call hb6).call hbn)
  have HB7 := Lib.hid (toStart (toStart HB5.out hb6) hbn)
  have HLV := Lib.hid (lives6_any (w6.alloc (.cells #[.int .i64 R.kind, .int .i64 R.num, .string R.text, .slice F R.items.length f1, .slice F' R.names.length f2] 29)))
  have HCS := Lib.hid hcs
  generalize hg5 : w4.heap.size = g5 at *
  clear hv6 hb6 hbn hres hcs HAP HV5 HO5 HB5 HW5 hg5
  go_wp2_with fail
  refine HLV.out.mono ?_
  rintro e w8 ⟨rfl, hb⟩
  have HX8 := Lib.hid (HX7.out.call hb)
  have HV8 := Lib.hid (HV7.out.call hb)
  have HO8 := Lib.hid (HO7.out.call hb)
  have HB8 := Lib.hid (toStart HB7.out hb)
  have HSA := Lib.hid (rsame_any (fun b => b < w8.heap.size) (depthT t) t t _ _ w8 (Nat.le_refl _) (fun _ h => h) (HO8.out.v.imp HO8.out.s) (HV8.out.v.imp HV8.out.s))
  have y0 := HV8.out.x.c0
  have y1 := HV8.out.x.c1
  have y2 := HV8.out.x.c2
  have y3 := HV8.out.x.c3
  have y4 := HV8.out.x.c4
  have z0 := HO8.out.x.c0
  have z1 := HO8.out.x.c1
  have z2 := HO8.out.x.c2
  have z3 := HO8.out.x.c3
  have z4 := HO8.out.x.c4
  clear hb HLV HX7 HV7 HO7 HB7
  go_wp2_with fail
  refine HSA.out.mono ?_
  rintro e w9 ⟨⟨r, rfl, hr⟩, hb⟩
  obtain rfl : r = true := hr.2 trivial
  have HX9 := Lib.hid (HX8.out.call hb)
  have HV9 := Lib.hid (HV8.out.call hb)
  have HB9 := Lib.hid (toStart HB8.out hb)
  have HCK := Lib.hid (r6check_w (fun b => b < w.heap.size) A c l w9 (fun b hb => Nat.lt_of_lt_of_le hb HB9.out.size) (HL.out.below (fun _ h => h) HB9.out) hn2 (fun h => (HSM.out h).1))
  clear hr hb HSA HX8 HV8 HO8 HB8 y0 y1 y2 y3 y4 z0 z1 z2 z3 z4
  go_wp2_with fail
  refine HCK.out.mono ?_
  rintro e wa ⟨rfl, hb⟩
  have HXa := Lib.hid (HX9.out.call hb)
  have HVa := Lib.hid (HV9.out.call hb)
  have HBa := Lib.hid (toStart HB9.out hb)
  obtain ⟨f, hf⟩ : ∃ f, f = checkD l := ⟨_, rfl⟩
  rw [← hf]
  have HFC := Lib.hid hf
  clear hb hf HCK HX9 HV9 HB9
  by_cases hf0 : f = 0
  rotate_left
  · have d1 : (f != 0) = true := by simpa using hf0
    have hap : applyD l t = (f, nilT) := by unfold applyD; rw [← HFC.out, if_pos hf0]
    rw [hap] at HRES
    obtain ⟨rfl, rfl⟩ : x = f ∧ R = nilT := by have := HRES.out; injection this with a b; exact ⟨a, b⟩
    have x0 : wa.cell? ⟨w6.heap.size, 0, none⟩ = some (.int .i64 0) := HXa.out.x.c0
    have d2 : (x == x) = true := by simp
    clear hf0 hap
    go_wp2_with fail
    go_ret
    exact ⟨rfl, HBa.out⟩
  subst hf0
  have hda := doc_any (fun b => b < wa.heap.size) t _ wa (fun _ h => h) (HVa.out.v.imp HVa.out.s)
  have HDA := Lib.hid hda
  have y0 := HVa.out.x.c0
  have y1 := HVa.out.x.c1
  have y2 := HVa.out.x.c2
  have y3 := HVa.out.x.c3
  have y4 := HVa.out.x.c4
  clear hda
  go_wp2_with fail
  refine HDA.out.mono ?_
  rintro e wb ⟨rfl, hb⟩
  have HXb := Lib.hid (HXa.out.call hb)
  have HVb := Lib.hid (HVa.out.call hb)
  have HBb := Lib.hid (toStart HBa.out hb)
  clear hb HDA HXa HVa HBa y0 y1 y2 y3 y4
  cases hdb : docB t with
  | false =>
    have hap : applyD l t = (20, nilT) := by unfold applyD; rw [← HFC.out, if_neg (by simp), if_neg (by rw [hdb]; simp)]
    rw [hap] at HRES
    obtain ⟨rfl, rfl⟩ : x = 20 ∧ R = nilT := by have := HRES.out; injection this with a b; exact ⟨a, b⟩
    have x0 : wb.cell? ⟨w6.heap.size, 0, none⟩ = some (.int .i64 0) := HXb.out.x.c0
    clear hap hdb
    go_wp2_with fail
    go_ret
    exact ⟨rfl, HBb.out⟩
  | true =>
  have hap : applyD l t = doL l t := by unfold applyD; rw [← HFC.out, if_neg (by simp), if_pos hdb]
  rw [hap] at HRES
  have hz := checkD_zero HFC.out.symm
  have hsm := HSM.out hz.1
  have HRA := Lib.hid (r6apply_any (fun b => b < wb.heap.size) t _ A c l wb 3000 41 (fun _ h => h) (HVb.out.v.imp HVb.out.s) ⟨hdb, HLN.out, HDP.out⟩ (by omega) ((HL.out.below (fun _ h => h) HBb.out).imp fun b hb => Nat.lt_of_lt_of_le hb HBb.out.size) (HCP.out.below HL.out (fun _ h => h) HBb.out) hz.1 hz.2 hsm.2.1 hsm.2.2)
  rw [← HRES.out] at HRA
  have y0 := HVb.out.x.c0
  have y1 := HVb.out.x.c1
  have y2 := HVb.out.x.c2
  have y3 := HVb.out.x.c3
  have y4 := HVb.out.x.c4
  have hxk : (x = 0) ∨ (x = 40 ∧ R = nilT) := by
    rcases doL_doc l t 3000 41 (fun d hd => ⟨hz.2 d hd, hsm.2.1 d hd, hsm.2.2 d hd⟩) ⟨hdb, HLN.out, HDP.out⟩ with ⟨R', e', -⟩ | e'
    · have := HRES.out.trans e'; injection this with a b; exact .inl a
    · have := HRES.out.trans e'; injection this with a b; exact .inr ⟨a, b⟩
  have HXK := Lib.hid hxk
  clear hap hz hsm hdb hxk
  go_wp2_with fail
  refine HRA.out.mono ?_
  rintro e wc ⟨vc, rfl, hvc, hbc⟩
  obtain ⟨P, p1, P', p2, rfl, -⟩ := hvc.shape
  have hbn := below_box (w := wc) (.cells #[.int .i64 R.kind, .int .i64 R.num, .string R.text, .slice P R.items.length p1, .slice P' R.names.length p2] 29)
  have hzc := hbc.size
  have HP7 := Lib.hid (show Vr (wc.alloc (.cells #[.int .i64 R.kind, .int .i64 R.num, .string R.text, .slice P R.items.length p1, .slice P' R.names.length p2] 29)) (fun b => b < wc.heap.size) wc.heap.size R P p1 P' p2 from Vr.new (fun b hb => hb) (hvc.imp fun b hb => hb.elim (fun e => by have : b < wb.heap.size := e; omega) fun e => e.2))
  have HX7 := Lib.hid ((HXb.out.call hbc).call hbn)
  have HB7 := Lib.hid (toStart (toStart HBb.out hbc) hbn)
  clear hvc hbc hbn hzc HRA HXb HVb HBb y0 y1 y2 y3 y4
  simp only
  rcases HXK.out with hx | ⟨hx, hR⟩
  · subst hx
    have dd : (decide ((0 : Int) = 0)) = true := by simp
    rw [dd]
    have HSB := Lib.hid (rsame_any (fun b => b < (wc.alloc (.cells #[.int .i64 R.kind, .int .i64 R.num, .string R.text, .slice P R.items.length p1, .slice P' R.names.length p2] 29)).heap.size) (depthT R) R R _ _ _ (Nat.le_refl _) (fun _ h => h) (HX7.out.v.imp HX7.out.s) (HP7.out.v.imp HP7.out.s))
    have y0 := HX7.out.x.c0
    have y1 := HX7.out.x.c1
    have y2 := HX7.out.x.c2
    have y3 := HX7.out.x.c3
    have y4 := HX7.out.x.c4
    go_wp2_with fail
    refine HSB.out.mono ?_
    rintro e wd ⟨⟨r, rfl, hr⟩, hb⟩
    obtain rfl : r = true := hr.2 trivial
    have HF := Lib.hid (toStart HB7.out hb)
    clear hr hb HSB y0 y1 y2 y3 y4
    go_wp2_with fail
    go_ret
    exact ⟨rfl, HF.out⟩
  · subst hx
    have dd : (decide ((40 : Int) = 0)) = false := by simp
    rw [dd]
    have x0 : (wc.alloc (.cells #[.int .i64 R.kind, .int .i64 R.num, .string R.text, .slice P R.items.length p1, .slice P' R.names.length p2] 29)).cell? ⟨w6.heap.size, 0, none⟩ = some (.int .i64 0) := by
      exact HX7.out.x.c0.trans (by rw [show R.kind = 0 from by rw [hR]; rfl])
    clear hR
    go_wp2_with fail
    go_ret
    exact ⟨rfl, HB7.out⟩

set_option maxRecDepth 100000 in
theorem lifted (os : Os) (started : os.Started) (H : Type) (enc : TypeId × Value → H) :
    ReturnsInHanded {} Tryz.checked os 4 .any (Rows.deltaAppliesSpec.pre6 enc Tryz.prog Tryz.f4 Rows.deltaAppliesRow.domain false) (Rows.deltaAppliesSpec.post enc Tryz.prog Tryz.f4 false true false false) := by
  refine returnsInHanded_of_change_sized (C := Tryz.checked) own started (by kernel_rfl) Tryz.func4
    (ChangeSpec.witness6 (enc := enc) (C := Tryz.checked) false ⟨#[], #[.agg #[.int .i64 0, .int .i64 0, .string ByteArray.empty, .slice none 0 0, .slice none 0 0], .slice none 0 0], []⟩ 8 (by kernel_rfl) (by kernel_rfl) (by kernel_rfl) (by kernel_rfl)) ?_
  intro W base args ds gs before hval0 hW hcnd hsz0 _
  have hval : ∀ (j : Nat) t v, Tryz.f4.params[j]? = some t → args[j]? = some v → Value.okWide Tryz.prog W .any base t v := hval0
  have hsz : (DataW.weightsEach Tryz.prog (Tryz.f4.params.toList ++ Rows.deltaAppliesSpec.plain.varTypes Tryz.prog) (ds ++ gs)).all (· ≤ reachBytes) = true := hsz0
  have hW' := hW
  obtain ⟨p, q, hA0, hV, rfl, hfz, hnd⟩ := hW
  have hA : DataW.TrodAll enc Tryz.prog W 0 (fun _ => true) true Tryz.f4.params.toList args.toList ds p := hA0
  rw [Tryz.params4] at hA hval hsz
  obtain ⟨v0, v1, d0, d1, p0, p1, rfl, rfl, rfl, h0, h1⟩ := trodAll_two hA
  obtain ⟨rfl, rfl⟩ := trodVars_none hV
  obtain ⟨a0, rfl, -⟩ := okWide_struct Tryz.underlying29 (hval 0 29 v0 rfl rfl)
  have k0 := h0
  have lt0 : ∀ x ∈ p0, x.block < W.heap.size := by obtain ⟨m, hm⟩ := k0; exact DataW.trod_lt m _ _ _ hm
  have wt0 : ∀ n ∈ d0.weights Tryz.prog 29, n ≤ reachBytes := fun n hn => by have := List.all_eq_true.1 hsz n (DataW.weights_mem_each (j := 0) rfl rfl n hn); simpa using this
  obtain ⟨A1, n1, c1, rfl⟩ := okWide_slice Tryz.underlying22 (hval 1 22 v1 rfl rfl)
  have k1 := h1
  have lt1 : ∀ x ∈ p1, x.block < W.heap.size := by obtain ⟨m, hm⟩ := k1; exact DataW.trod_lt m _ _ _ hm
  have wt1 : ∀ n ∈ d1.weights Tryz.prog 22, n ≤ reachBytes := fun n hn => by have := List.all_eq_true.1 hsz n (DataW.weights_mem_each (j := 1) rfl rfl n hn); simpa using this
  clear hA0 hval0
  obtain ⟨t0, ht0⟩ : ∃ t, LV W (fun b => b < W.heap.size) t (.agg a0) := by
    obtain ⟨m, hm⟩ := k0
    have h3 := open_val m _ _ hm wt0
    simpa [Value.cells] using h3
  obtain ⟨os1, hn1, ho1, hc1, hl1, hos1, hcp1⟩ : ∃ os : List DelT, n1 = os.length ∧ (A1 = none → c1 = 0 ∧ os = []) ∧ os.length ≤ c1 ∧ os.length ≤ 1172812402961 ∧ DelsL W (fun b => b < W.heap.size) A1 os ∧ CapsD W A1 os := by
    obtain ⟨m, hm⟩ := k1
    obtain ⟨B, e, os, he, g0, g1, g2, g3, g4⟩ := open_dels hm wt1
    have he' : [Value.slice A1 n1 c1] = [Value.slice B os.length e] := he
    simp only [List.cons.injEq, Value.slice.injEq, and_true] at he'
    obtain ⟨rfl, rfl, rfl⟩ := he'
    exact ⟨os, rfl, g0, g1, g2, g3, g4⟩
  subst hn1
  refine (walk t0 _ A1 c1 os1 W ht0 hos1 hcp1 hl1).mono fun e W' ⟨he, bel⟩ => ?_
  subst he
  exact ⟨_, rfl, _, _, _, [], _, [], hW', trodAll_mk1 (shut_bool Tryz.underlying4 _), trodAll_mk2 (Below.trod laidOut (by kernel_rfl) (of_decide_eq_true (by kernel_rfl)) k0 bel lt0) (Below.trod laidOut (by kernel_rfl) (of_decide_eq_true (by kernel_rfl)) k1 bel lt1), rfl, bel.frame _, fun h => by cases h⟩

theorem proved : Rows.DeltaAppliesSaid :=
  OpenClaim.holds_of_wide 4 Tryz.f4 rfl rfl rfl rfl rfl rfl rfl ⟨rfl, rfl, rfl, rfl, rfl⟩ rfl rfl rfl rfl rfl (by kernel_rfl) Tryz.func4 (by kernel_rfl)
    (of_decide_eq_true (by kernel_rfl)) (by unfold Func.isWrapper; first | (rw [if_pos (by decide +kernel)]; kernel_rfl) | (rw [if_neg (by decide +kernel)]; exact ⟨rfl, rfl⟩))
    (fun os started H enc _ => lifted os started H enc)

end Go.Proofs.YtnamdlljdgllmaaGreat.DApplies
