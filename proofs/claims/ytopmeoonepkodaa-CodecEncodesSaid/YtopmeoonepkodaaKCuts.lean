/- No beginning of a value's code is one, and nothing behind a code: as the document says. No conditions. -/
import Derived.Test.YtopmeoonepkodaaKCodB
import Derived.Test.YtopmeoonepkodaaKRefZ
import Derived.Test.YtopmeoonepkodaaKVr
import Derived.Test.YtopmeoonepkodaaKOpen
import Derived.SizedLaws
import Derived.ProofKit
import Derived.OpenShut
import Derived.ShutString
import Derived.ChangeOld
import Derived.Below
namespace Go.Proofs.Ytopmeoonepkodaa
set_option linter.unusedVariables false
set_option linter.unusedSimpArgs false
open Go.RowKit
theorem Rd.take {w : World} {B n cap : Nat} {A : Option Addr} {l : List UInt8} (h : Rd w B (.slice A l.length cap) l) (hn : n ≤ l.length) : Rd w B (.slice A n cap) (l.take n) := by
  obtain ⟨A', cap', hv, h2, h3, h4⟩ := h
  injection hv with e1 e2 e3
  subst e1 e3
  have hl : (l.take n).length = n := by simp; omega
  refine ⟨A, cap, by rw [hl], by omega, h3, fun hp => ?_⟩
  obtain ⟨b, off, e, hb, hc⟩ := h4 (by omega)
  refine ⟨b, off, e, hb, fun i hi => ?_⟩
  rw [List.getElem_take]
  exact hc i (by omega)
theorem decE_ten {l : List UInt8} (h : ∀ u, readS l ≠ some (u, [])) : decE l = 10 := by
  unfold decE
  rw [readO_some]
  cases hr : readS l with
  | none => rfl
  | some p =>
    obtain ⟨u, r⟩ := p
    cases r with
    | nil => exact absurd hr (h u)
    | cons a r => rfl
theorem whole_of {w : World} {S : Nat → Prop} {t : VT} {v : Value} (h : LV w S t v) (hl : largeT t = false) (hc : checkT t = 0) : Whole t ∧ rngT t := by
  obtain ⟨h1, h2, h3⟩ := (check_zero (size_small h hl)).1 hc
  exact ⟨⟨h1, h2, h3⟩, rng_lv _ t v (Nat.le_refl _) h⟩
theorem dep1000 {t : VT} (hl : largeT t = false) : depthT t ≤ 1000 := Nat.le_trans (depth_small hl) (by decide)
end Go.Proofs.Ytopmeoonepkodaa
namespace Go.Proofs.Ytopmeoonepkodaa.Cuts
open Go.ChangeShapes Go.WideShapes Go.ChangeAt Go.RowKit Go.Joins
set_option linter.unusedVariables false

theorem own : ownKnob Try.prog.godebug = none := by kernel_rfl
theorem laidOut : laidOutB Try.prog = true := by kernel_rfl

set_option maxHeartbeats 4000000 in
set_option maxRecDepth 100000 in
theorem walk (t : VT) (v : Value) (n : Int) (w : World) (S : Nat → Prop) (hS : ∀ b, S b → b < w.heap.size) (h : LV w S t v) (hn1 : -9223372036854775808 ≤ n) (hn2 : n ≤ 9223372036854775807) :
    Calls Try.prog 6 #[v, .int .i64 n] w fun e w' => e = .returned (.bool true) ∧ Below w.heap.size w w' := by
  obtain ⟨A, c, A', c', rfl, -, -, -, v1, hb0⟩ := one_var hS h
  have P := Lib.hid v1
  have HB := Lib.hid hb0
  obtain ⟨l, hl⟩ : ∃ x, x = largeT t := ⟨_, rfl⟩
  obtain ⟨R, hR⟩ : ∃ x, x = checkT t := ⟨_, rfl⟩
  have HL := Lib.hid hl
  have HR := Lib.hid hR
  clear h v1 hb0 hl hR
  go_enter Try.func6, Try.ntmps6
  go_wp2_with fail
  generalize (w.alloc (.cells #[.int .i64 t.kind, .int .i64 t.num, .string t.text, .slice A t.items.length c, .slice A' t.names.length c'] 25)) = w1 at *
  refine (P.out.large HL.out).mono ?_
  rintro e u1 ⟨rfl, hb⟩
  have P := Lib.hid (P.out.call hb)
  have HB := Lib.hid (toStart HB.out hb)
  clear hb
  cases l
  rotate_left
  · go_wp2_with fail
    refine (lives3_any _).mono ?_
    rintro e v9 ⟨rfl, hb⟩
    have HF := Lib.hid (toStart HB.out hb)
    clear hb
    go_wp2_with fail
    go_ret
    exact ⟨rfl, HF.out⟩
  have q0 := P.out.x.c0
  have q1 := P.out.x.c1
  have q2 := P.out.x.c2
  have q3 := P.out.x.c3
  have q4 := P.out.x.c4
  go_wp2_with fail
  clear q0 q1 q2 q3 q4
  refine (rcheck_any S t _ u1 (dep1000 HL.out.symm) P.out.s P.out.v).mono ?_
  rintro e u2 ⟨rfl, hb⟩
  rw [← HR.out]
  have P := Lib.hid (P.out.call hb)
  have HB := Lib.hid (toStart HB.out hb)
  clear hb
  by_cases h0 : R = 0
  rotate_left
  · have h1 : (R == 0) = false := beq_false_of_ne h0
    have h2 : (R != 0) = true := by simp [h0]
    go_wp2_with fail
    refine (lives3_any _).mono ?_
    rintro e v9 ⟨rfl, hb⟩
    have HF := Lib.hid (toStart HB.out hb)
    clear hb
    go_wp2_with fail
    go_ret
    exact ⟨rfl, HF.out⟩
  subst h0
  have q0 := P.out.x.c0
  have q1 := P.out.x.c1
  have q2 := P.out.x.c2
  have q3 := P.out.x.c3
  have q4 := P.out.x.c4
  go_wp2_with fail
  clear q0 q1 q2 q3 q4
  have HWH := Lib.hid (whole_of P.out.v HL.out.symm HR.out.symm)
  have hlen : (encT t).length ≤ 4096 := by rw [enc_len t HWH.out.1.may]; exact HWH.out.1.size
  refine (enc_ok (depthT t) t (Nat.le_refl _) HWH.out.1.may S _ u2 P.out.s P.out.v (by omega)).mono ?_
  rintro e u3 ⟨bv, rfl, hown, hb⟩
  have P := Lib.hid (P.out.call hb)
  have hbs := toStart HB.out hb
  have HU := Lib.hid hb.size
  clear hb HB
  have HB := Lib.hid hbs
  clear hbs
  have hpos : 1 ≤ (encT t).length := by rw [enc_len t HWH.out.1.may]; exact sizeT_pos t
  obtain ⟨g, cap, rfl, hBg, hgl, hcap⟩ := hown.shape hpos
  have HO := Lib.hid hown
  clear hown
  obtain ⟨L, hL⟩ : ∃ L, L = (encT t).length := ⟨_, rfl⟩
  have HLE := Lib.hid hL
  rw [← hL] at hlen hpos hcap ⊢
  clear hL
  by_cases hneg : n < 0
  · have hneg2 : decide (n < 0) = true := decide_eq_true hneg
    go_wp2_with fail
    refine (lives3_any _).mono ?_
    rintro e v9 ⟨rfl, hb⟩
    have HF := Lib.hid (toStart HB.out hb)
    clear hb
    go_wp2_with fail
    go_ret
    exact ⟨rfl, HF.out⟩
  have hneg2 : decide (n < 0) = false := decide_eq_false hneg
  by_cases hge : n ≥ (L : Int)
  · have hge2 : decide (n ≥ (L : Int)) = true := decide_eq_true hge
    go_wp2_with fail
    refine (lives3_any _).mono ?_
    rintro e v9 ⟨rfl, hb⟩
    have HF := Lib.hid (toStart HB.out hb)
    clear hb
    go_wp2_with fail
    go_ret
    exact ⟨rfl, HF.out⟩
  have hge2 : decide (n ≥ (L : Int)) = false := decide_eq_false hge
  obtain ⟨k, rfl⟩ : ∃ k : Nat, n = k := ⟨n.toNat, by omega⟩
  have hkL : k < L := by omega
  go_wp2_with fail
  have hkl : k < (encT t).length := by rw [← HLE.out]; exact hkL
  have hr := HO.out.rd.take (Nat.le_of_lt hkl)
  have hcut := decE_ten (readS_cut HWH.out.1 HWH.out.2 k hkl)
  refine (cdecode_any _ _ u3 hr (by simp; omega)).mono ?_
  rintro e u4 ⟨vd, rfl, hvd, hb⟩
  rw [hcut]
  obtain ⟨T3, d3, T4, d4, rfl, -⟩ := hvd.shape
  clear hvd hr hcut
  generalize decT ((encT t).take k) = td at *
  have HO4 := Lib.hid (HO.out.below hb)
  have hB4 := HB.out.trans (hb.mono HB.out.size)
  have hbx := below_box (w := u4) (.cells #[.int .i64 td.kind, .int .i64 td.num, .string td.text, .slice T3 td.items.length d3, .slice T4 td.names.length d4] 25)
  have HO5 := Lib.hid (HO4.out.below hbx)
  have hB5 := hB4.trans (hbx.mono hB4.size)
  obtain ⟨u5, hu5⟩ : ∃ u5, u5 = u4.alloc (.cells #[.int .i64 td.kind, .int .i64 td.num, .string td.text, .slice T3 td.items.length d3, .slice T4 td.names.length d4] 25) := ⟨_, rfl⟩
  rw [← hu5] at HO5 hB5
  have hbz := below_box (w := u5) (.cells #[] 5)
  have HO6 := Lib.hid (HO5.out.below hbz)
  have hB6 := hB5.trans (hbz.mono hB5.size)
  have HZ6 : Hid (OwnB (u5.alloc (.cells #[] 5)) u5.heap.size (.slice (some ⟨u5.heap.size, 0, none⟩) 0 0) []) := Lib.hid ⟨rfl, .inr ⟨_, 0, #[], rfl, Nat.le_refl _, heap_alloc_new u5 _, Nat.le_refl _, by decide, rfl, rfl⟩⟩
  have HB6 := Lib.hid hB6
  have hz6 : u5.heap.size ≤ (u5.alloc (.cells #[] 5)).heap.size := by simp
  have hz5 : u5.heap.size = u4.heap.size + 1 := by rw [hu5]; simp
  have hbb6 : Below u5.heap.size u5 (u5.alloc (.cells #[] 5)) := hbz
  have HBB6 := Lib.hid hbb6
  have HB5 := Lib.hid hB5
  clear hb hB4 hbx hB5 hbz hB6 hbb6 HO4
  subst hu5
  have hll : (encT t).length ≤ 4096 := by rw [← HLE.out]; exact hlen
  have hz := HZ6.out
  rw [hz5] at hz
  have HZ := Lib.hid hz
  rw [hz5] at hz6
  clear hz HZ6
  have ho6 := HO6.out.rd
  rw [← HLE.out] at ho6
  have HR6 := Lib.hid ho6
  clear ho6
  go_wp2_with (at_builtin; go_must (refine wpList_append_bytes rfl _ _ rfl (u4.heap.size + 1) _ [] rfl HZ.out _ _ (encT t) rfl HR6.out hz6 (by simp only [List.length_nil]; omega) ?_))
  intro v7 w7 hv7 hg7
  have hb7 := below_own (HBB6.out.mono (by rw [hz5]; exact Nat.le_refl _)) HZ.out hz6 hg7
  have HB7 := Lib.hid (HB5.out.trans (hb7.mono (by have := HB5.out.size; rw [hz5] at this; exact this)))
  have HO7 := Lib.hid hv7
  have HB5' := Lib.hid (show w.heap.size ≤ u4.heap.size + 1 by have := HB5.out.size; rw [hz5] at this; exact this)
  have hz7 : u4.heap.size + 1 ≤ w7.heap.size := Nat.le_trans hz6 hg7.size
  clear hb7 hv7 hg7 HZ HR6 HO6 HO5 HBB6 HB5 hz6 HB6
  have hbo := fun x : Value => below_box (w := w7) (.cells #[x] 5)
  have hO7 := fun x : Value => HO7.out.below (hbo x)
  have hz8 := fun x : Value => Nat.le_trans hz7 (hbo x).size
  have HQ := Lib.hid (And.intro hO7 hz8)
  clear hO7 hz8 hbo
  go_wp2_with (at_builtin; go_must (refine wpList_append_bytes rfl _ _ rfl (u4.heap.size + 1) _ (encT t) rfl (HQ.out.1 _) _ _ [UInt8.ofNat (k % 256)] rfl (Rd.one' rfl (UInt8.ofNat (k % 256)) ?_) (HQ.out.2 _) ?_ ?_))
  · rw [ofNat_toNat _ (by omega)]; omega
  · simp only [List.length_singleton]; omega
  intro v8 w8 hv8 hg8
  have hb8 := below_own (a := w7) (B := u4.heap.size + 1) ((below_box (w := w7) _).mono hz7) (HQ.out.1 _) (HQ.out.2 _) hg8
  have HB8 := Lib.hid (HB7.out.trans (hb8.mono (by have := HB5'.out; omega)))
  have hrd8 := hv8.rd
  have hmore := decE_ten (readS_more HWH.out.1 HWH.out.2 (UInt8.ofNat (k % 256)))
  have HD := Lib.hid (cdecode_any _ _ w8 hrd8 (by simp only [List.length_append, List.length_singleton]; omega))
  have HM := Lib.hid hmore
  clear hb8 hrd8 hmore hv8 hg8 HQ HO7
  go_wp2_with fail
  refine HD.out.mono ?_
  rintro e u9 ⟨ve, rfl, hve, hb9⟩
  rw [HM.out]
  obtain ⟨T5, d5, T6, d6, rfl, -⟩ := hve.shape
  clear hve HD
  generalize decT (encT t ++ [UInt8.ofNat (k % 256)]) = te at *
  have hB9 := HB8.out.trans (hb9.mono HB8.out.size)
  have hbx := below_box (w := u9) (.cells #[.int .i64 te.kind, .int .i64 te.num, .string te.text, .slice T5 te.items.length d5, .slice T6 te.names.length d6] 25)
  have HB9 := Lib.hid (hB9.trans (hbx.mono hB9.size))
  clear hB9 hbx hb9 HB8 HM
  go_wp2_with fail
  refine (lives3_any _).mono ?_
  rintro e v9 ⟨rfl, hb⟩
  have HF := Lib.hid (toStart HB9.out hb)
  clear hb
  go_wp2_with fail
  go_ret
  exact ⟨rfl, HF.out⟩

set_option maxRecDepth 100000 in
theorem lifted (os : Os) (started : os.Started) (H : Type) (enc : TypeId × Value → H) :
    ReturnsInHanded {} Try.checked os 6 .any (Rows.codecCutsSpec.pre6 enc Try.prog Try.f6 Rows.codecCutsRow.domain false) (Rows.codecCutsSpec.post enc Try.prog Try.f6 false true false false) := by
  refine returnsInHanded_of_change_sized (C := Try.checked) own started (by kernel_rfl) Try.func6
    (ChangeSpec.witness6 (enc := enc) (C := Try.checked) false ⟨#[], #[.agg #[.int .i64 0, .int .i64 0, .string ByteArray.empty, .slice none 0 0, .slice none 0 0], .int .i64 0], []⟩ 8 (by kernel_rfl) (by kernel_rfl) (by kernel_rfl) (by kernel_rfl)) ?_
  intro W base args ds gs before hval0 hW hcnd hsz0 _
  have hval : ∀ (j : Nat) t v, Try.f6.params[j]? = some t → args[j]? = some v → Value.okWide Try.prog W .any base t v := hval0
  have hsz : (DataW.weightsEach Try.prog (Try.f6.params.toList ++ Rows.codecCutsSpec.plain.varTypes Try.prog) (ds ++ gs)).all (· ≤ reachBytes) = true := hsz0
  have hW' := hW
  obtain ⟨p, q, hA0, hV, rfl, hfz, hnd⟩ := hW
  have hA : DataW.TrodAll enc Try.prog W 0 (fun _ => true) true Try.f6.params.toList args.toList ds p := hA0
  rw [Try.params6] at hA hval hsz
  obtain ⟨v0, v1, d0, d1, p0, p1, rfl, rfl, rfl, h0, h1⟩ := trodAll_two hA
  obtain ⟨rfl, rfl⟩ := trodVars_none hV
  obtain ⟨a0, rfl, -⟩ := okWide_struct Try.underlying25 (hval 0 25 v0 rfl rfl)
  have k0 := h0
  have lt0 : ∀ x ∈ p0, x.block < W.heap.size := by obtain ⟨m, hm⟩ := k0; exact DataW.trod_lt m _ _ _ hm
  have wt0 : ∀ n ∈ d0.weights Try.prog 25, n ≤ reachBytes := fun n hn => by have := List.all_eq_true.1 hsz n (DataW.weights_mem_each (j := 0) rfl rfl n hn); simpa using this
  obtain ⟨a1, rfl, rfl, rfl, wa1⟩ := open_int Try.underlying3 (hval 1 3 v1 rfl rfl) h1
  clear hA0 hval0
  obtain ⟨t0, ht0⟩ : ∃ t, LV W (fun b => b < W.heap.size) t (.agg a0) := by
    obtain ⟨m, hm⟩ := k0
    have h3 := open_val m _ _ hm wt0
    simpa [Value.cells] using h3
  have ha1 := in64_of_wf wa1
  refine (walk t0 _ a1 W _ (fun _ h => h) ht0 ha1.1 ha1.2).mono fun e W' ⟨he, bel⟩ => ?_
  subst he
  exact ⟨_, rfl, _, _, _, [], _, [], hW', trodAll_mk1 (shut_bool Try.underlying4 _), trodAll_mk2 (Below.trod laidOut (by kernel_rfl) (of_decide_eq_true (by kernel_rfl)) k0 bel lt0) (shut_int Try.underlying3 wa1), rfl, bel.frame _, fun h => by cases h⟩

/-- The statement. -/
theorem proved : Rows.CodecCutsSaid :=
  OpenClaim.holds_of_wide 6 Try.f6 rfl rfl rfl rfl rfl rfl rfl ⟨rfl, rfl, rfl, rfl, rfl⟩ rfl rfl rfl rfl rfl (by kernel_rfl) Try.func6 (by kernel_rfl)
    (of_decide_eq_true (by kernel_rfl)) (by unfold Func.isWrapper; first | (rw [if_pos (by decide +kernel)]; kernel_rfl) | (rw [if_neg (by decide +kernel)]; exact ⟨rfl, rfl⟩))
    (fun os started H enc _ => lifted os started H enc)
end Go.Proofs.Ytopmeoonepkodaa.Cuts
