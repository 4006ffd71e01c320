/- The code of any value, and that it is decoded: as the document says. No conditions. -/
import Derived.Test.YtopmeoonepkodaaKCuts
import Derived.Test.YtopmeoonepkodaaKDecodes
import Derived.Laws.MakeOwn
namespace Go.Proofs.Ytopmeoonepkodaa
set_option linter.unusedVariables false
set_option linter.unusedSimpArgs false
open Go.RowKit
theorem bytes_cat (a b : List UInt8) : (⟨(a ++ b).toArray⟩ : ByteArray) = ⟨a.toArray⟩ ++ ⟨b.toArray⟩ := by
  apply ByteArray.ext
  simp
theorem dec_code {t : VT} (h : Whole t) (hr : rngT t) : decE (encT t) = 0 ∧ decT (encT t) = t := by
  have h1 := readO_code h hr []
  rw [List.append_nil] at h1
  have h2 : decE (encT t) = 0 := by unfold decE; rw [h1]; rfl
  refine ⟨h2, ?_⟩
  unfold decT
  unfold decE at h2
  rw [if_pos h2, h1]
theorem make_bytes (w : World) (n : Nat) (hk : n ≤ 140737488351232) : ∃ w', (Instr.makeSlice 26 (.int .i64 0) (.int .i64 ((n : Int) + 9))).run Try.prog w = .ok (.slice (some ⟨w.heap.size, 0, none⟩) 0 (n + 9)) w' ∧ OwnB w' w.heap.size (.slice (some ⟨w.heap.size, 0, none⟩) 0 (n + 9)) [] ∧ Below w.heap.size w w' := by
  obtain ⟨i0, hi, hi0, hi1, hi2⟩ := info_parts Try.infoU8
  obtain ⟨w', h1, h2, h3⟩ := run_make_own (P := Try.prog) (w := w) w.heap.size 26 5 i0 _ 1 Try.underlying26 hi hi0 hi1 .i64 .i64 (n + 9) (by rw [hi2]; omega) (by unfold maxLen; omega) (Nat.le_refl _)
  have e : ((n + 9 : Nat) : Int) = (n : Int) + 9 := by omega
  rw [e] at h1
  exact ⟨w', h1, h2, ⟨h3.os, h3.tape, h3.output, h3.size, fun b hb => h3.block b hb (by simp)⟩⟩
end Go.Proofs.Ytopmeoonepkodaa
namespace Go.Proofs.Ytopmeoonepkodaa.Encodes
open Go.ChangeShapes Go.WideShapes Go.ChangeAt Go.RowKit Go.Joins OpenB
set_option linter.unusedVariables false

theorem own : ownKnob Try.prog.godebug = none := by kernel_rfl
theorem laidOut : laidOutB Try.prog = true := by kernel_rfl

set_option maxHeartbeats 4000000 in
set_option maxRecDepth 100000 in
theorem walk (t : VT) (v : Value) (A : Option Addr) (cap : Nat) (m : List UInt8) (w : World) (S : Nat → Prop) (hS : ∀ b, S b → b < w.heap.size) (h : LV w S t v) (hr : Rd w w.heap.size (.slice A m.length cap) m) (hm : m.length ≤ 140737488351232) :
    Calls Try.prog 3 #[v, .slice A m.length cap] w fun e w' => e = .returned (.bool true) ∧ Below w.heap.size w w' := by
  obtain ⟨A0, c0, A0', c0', rfl, -, -, -, v1, hb0⟩ := one_var hS h
  obtain ⟨n, hn⟩ : ∃ n, n = m.length := ⟨_, rfl⟩
  have HN := Lib.hid hn
  rw [← hn] at hr hm ⊢
  have P := Lib.hid v1
  have HB := Lib.hid hb0
  have HR0 := Lib.hid hr
  obtain ⟨l, hl⟩ : ∃ x, x = largeT t := ⟨_, rfl⟩
  obtain ⟨R, hR⟩ : ∃ x, x = checkT t := ⟨_, rfl⟩
  have HL := Lib.hid hl
  have HR := Lib.hid hR
  clear h v1 hb0 hl hR hr hn
  go_enter Try.func3, Try.ntmps3
  go_wp2_with fail
  generalize (w.alloc (.cells #[.int .i64 t.kind, .int .i64 t.num, .string t.text, .slice A0 t.items.length c0, .slice A0' t.names.length c0'] 25)) = w1 at *
  refine (P.out.large HL.out).mono ?_
  rintro e u1 ⟨rfl, hb⟩
  have P := Lib.hid (P.out.call hb)
  have HB := Lib.hid (toStart HB.out hb)
  clear hb
  cases l
  rotate_left
  · go_wp2_with fail
    refine (lives3_any _).mono ?_
    rintro e v9 ⟨rfl, hb⟩
    have HF := Lib.hid (toStart HB.out hb)
    clear hb
    go_wp2_with fail
    go_ret
    exact ⟨rfl, HF.out⟩
  have q0 := P.out.x.c0
  have q1 := P.out.x.c1
  have q2 := P.out.x.c2
  have q3 := P.out.x.c3
  have q4 := P.out.x.c4
  go_wp2_with fail
  clear q0 q1 q2 q3 q4
  have hsz := size_small P.out.v HL.out.symm
  have hdp := dep1000 HL.out.symm
  refine (cencode_any S t _ u1 P.out.s P.out.v (by omega) hsz).mono ?_
  rintro e u2 ⟨bv, rfl, hown, hb⟩
  rw [← HR.out]
  have hel := encO_length hsz
  obtain ⟨Ab, cb, hbv⟩ := hown.slice
  obtain ⟨L, hL⟩ : ∃ L, L = (encO t).length := ⟨_, rfl⟩
  rw [← hL] at hbv hel
  subst hbv
  have P := Lib.hid (P.out.call hb)
  have HB := Lib.hid (toStart HB.out hb)
  have HO := Lib.hid hown
  have HLE := Lib.hid hL
  have HSZ := Lib.hid hsz
  clear hb hown hL hsz
  obtain ⟨wm, hmk, hom, hbm⟩ := make_bytes u2 n hm
  have HOM := Lib.hid hom
  have hR3 := (HR0.out.keep HB.out).up HB.out.size
  have HR3 := Lib.hid (hR3.keep hbm)
  have HB0 := Lib.hid hbm
  have hz0 := hbm.size
  clear hom hR3 hbm
  go_wp2_with (at_builtin; go_must (refine wpList_append_bytes rfl _ _ rfl u2.heap.size _ [] rfl HOM.out _ _ m rfl HR3.out hz0 (by have := HN.out; simp only [List.length_nil]; omega) ?_))
  intro ov u3 hov hg3
  have hb3 := below_own HB0.out HOM.out hz0 hg3
  have P := Lib.hid (P.out.call hb3)
  have HO := Lib.hid (HO.out.below hb3)
  have HB := Lib.hid (toStart HB.out hb3)
  have HOV := Lib.hid hov
  clear hb3 hov hg3 HOM HR3 HB0 hz0 hmk
  have q0 := P.out.x.c0
  have q1 := P.out.x.c1
  have q2 := P.out.x.c2
  have q3 := P.out.x.c3
  have q4 := P.out.x.c4
  go_wp2_with fail
  clear q0 q1 q2 q3 q4
  refine (cputs_any S t _ ov m u3 P.out.s P.out.v (by omega) HSZ.out (by have := HN.out; omega) HOV.out.rd).mono ?_
  rintro e u4 ⟨pv, rfl, hpv, hb⟩
  have P := Lib.hid (P.out.call hb)
  have HO := Lib.hid (HO.out.below hb)
  have HOV := Lib.hid (HOV.out.below hb)
  have HB := Lib.hid (toStart HB.out hb)
  have HPV := Lib.hid hpv
  clear hb hpv
  go_wp2_with fail
  refine (lives3_any _).mono ?_
  rintro e u5 ⟨rfl, hb⟩
  have P := Lib.hid (P.out.call hb)
  have HO := Lib.hid (HO.out.below hb)
  have HOV := Lib.hid (HOV.out.below hb)
  have HPV := Lib.hid (HPV.out.below hb)
  have HB := Lib.hid (toStart HB.out hb)
  clear hb
  obtain ⟨sa, hsa⟩ : ∃ sa : ByteArray, sa = ⟨m.toArray⟩ := ⟨_, rfl⟩
  have HSA := Lib.hid hsa
  have cvo : (convert 26 9 ov).run Try.prog u5 = .ok (.string sa) u5 := by rw [hsa]; exact HOV.out.rd.str
  have cva : (convert 26 9 (.slice A n cap)).run Try.prog u5 = .ok (.string sa) u5 := by rw [hsa]; exact (HR0.out.keep HB.out).str
  clear hsa
  have q0 := P.out.x.c0
  have q1 := P.out.x.c1
  have q2 := P.out.x.c2
  have q3 := P.out.x.c3
  have q4 := P.out.x.c4
  go_wp2_with fail
  clear q0 q1 q2 q3 q4 cvo cva
  refine (rcheck_any S t _ u5 hdp P.out.s P.out.v).mono ?_
  rintro e u6 ⟨rfl, hb⟩
  rw [← HR.out]
  have P := Lib.hid (P.out.call hb)
  have HO := Lib.hid (HO.out.below hb)
  have HPV := Lib.hid (HPV.out.below hb)
  have HB := Lib.hid (toStart HB.out hb)
  clear hb
  by_cases h0 : R = 0
  rotate_left
  · have h1 : (R == 0) = false := beq_false_of_ne h0
    have h2 : (R != 0) = true := by simp [h0]
    have he : encO t = [] := by unfold encO; exact if_neg (fun h => h0 (HR.out.trans h))
    have hL0 : L = 0 := by rw [HLE.out, he]; rfl
    subst hL0
    have hp := HPV.out
    rw [he, List.append_nil] at hp
    have cvp : (convert 26 9 pv).run Try.prog u6 = .ok (.string sa) u6 := by rw [HSA.out]; exact hp.rd.str
    have cva : (convert 26 9 (.slice A n cap)).run Try.prog u6 = .ok (.string sa) u6 := by rw [HSA.out]; exact (HR0.out.keep HB.out).str
    have HF := Lib.hid HB.out
    clear hp he
    go_wp2_with fail
    go_ret
    exact ⟨by simp, HF.out⟩
  subst h0
  have HWH := Lib.hid (whole_of P.out.v HL.out.symm HR.out.symm)
  have he : encO t = encT t := by unfold encO; exact if_pos HR.out.symm
  have ho := HO.out
  have hp := HPV.out
  have hle := HLE.out
  rw [he] at ho hp hle
  obtain ⟨hd1, hd2⟩ := dec_code HWH.out.1 HWH.out.2
  have HD := Lib.hid (cdecode_any _ _ u6 ho.rd (by omega))
  have HO := Lib.hid ho
  have HPV := Lib.hid hp
  have HLE := Lib.hid hle
  clear ho hp hle he
  go_wp2_with fail
  refine HD.out.mono ?_
  rintro e u7 ⟨vd, rfl, hvd, hb⟩
  rw [hd1]
  rw [hd2] at hvd
  obtain ⟨T3, d3, T4, d4, rfl, -⟩ := hvd.shape
  have P := Lib.hid (P.out.call hb)
  have HO := Lib.hid (HO.out.below hb)
  have HPV := Lib.hid (HPV.out.below hb)
  have HB := Lib.hid (toStart HB.out hb)
  have hbx := below_box (w := u7) (.cells #[.int .i64 t.kind, .int .i64 t.num, .string t.text, .slice T3 t.items.length d3, .slice T4 t.names.length d4] 25)
  have Q := Lib.hid (Vr.new (u := u7) (S := fun b => b < u7.heap.size) (fun _ h => h) (hvd.imp fun b hb => hb.2))
  have P := Lib.hid ((P.out.mono (S' := fun b => b < u7.heap.size) (fun b hb => P.out.s b hb) (fun _ h => h)).call hbx)
  have HO := Lib.hid (HO.out.below hbx)
  have HPV := Lib.hid (HPV.out.below hbx)
  have HB := Lib.hid (toStart HB.out hbx)
  clear hb hbx hvd hd1 hd2 HD
  go_wp2_with fail
  generalize u7.alloc (.cells #[.int .i64 t.kind, .int .i64 t.num, .string t.text, .slice T3 t.items.length d3, .slice T4 t.names.length d4] 25) = u8 at *
  obtain ⟨sb, hsb⟩ : ∃ sb : ByteArray, sb = ⟨(encT t).toArray⟩ := ⟨_, rfl⟩
  have HSB := Lib.hid hsb
  clear hsb
  refine wp_region_mix [0, 1, 2, 3, 4, 5, 6, 7, 8, 9, 10, 11, 12, 13, 14, 15, 16, 17, 18, 19, 20, 21, 22, 23, 24, 25, 26, 27, 28, 29, 30, 31, 32, 33, 34, 35, 36] (by kernel_rfl) (by kernel_rfl) (fun _ d _ _ _ h => by cases d <;> exact h) ?_
  simp only [atNats, List.filterMap_cons, List.filterMap_nil, List.getElem?_toArray, List.getElem?_cons_succ, List.getElem?_cons_zero]
  have hbd : Below u8.heap.size u8 u8.drew := (Below.refl _ _).drew
  have P := Lib.hid (P.out.call hbd)
  have Q := Lib.hid (Q.out.call hbd)
  have HO := Lib.hid (HO.out.below hbd)
  have HPV := Lib.hid (HPV.out.below hbd)
  have HB := Lib.hid (toStart HB.out hbd)
  clear hbd
  generalize u8.drew = v0 at *
  have q0 := cell_later (B := v0.heap.size) (w := v0) P.out.x.c0 P.out.x.lt
  have q1 := cell_later (B := v0.heap.size) (w := v0) P.out.x.c1 P.out.x.lt
  have q2 := cell_later (B := v0.heap.size) (w := v0) P.out.x.c2 P.out.x.lt
  have q3 := cell_later (B := v0.heap.size) (w := v0) P.out.x.c3 P.out.x.lt
  have q4 := cell_later (B := v0.heap.size) (w := v0) P.out.x.c4 P.out.x.lt
  have fb := run_later (B := v0.heap.size) (w := v0) (fun u hu => by have h := (OwnB.below HO.out hu).rd.str; rw [← HSB.out] at h; exact h)
  first | refine mix_pure ?_ | refine mix_pureB ?_
  simp only [List.takeWhile, List.dropWhile, isPure, Nat.reduceBNe]
  repeat (go_big_quiet_step (fail))
  refine wpQuiet_nil ?_
  clear q0 q1 q2 q3 q4 fb
  first | refine mix_call rfl (fun K hK => ?_) | refine mix_callB rfl (fun K hK => ?_)
  go_simp
  refine (enc_ok (depthT t) t (Nat.le_refl _) HWH.out.1.may _ _ v0 P.out.s P.out.v (by have := HLE.out; omega)).mono ?_
  rintro e v1 ⟨xr, rfl, hxr, hb⟩
  refine hK _ _ hb ?_
  clear hK K
  try simp only [Act.put]
  have P := Lib.hid (P.out.call hb)
  have Q := Lib.hid (Q.out.call hb)
  have HO := Lib.hid (HO.out.below hb)
  have HPV := Lib.hid (HPV.out.below hb)
  have HB := Lib.hid (toStart HB.out hb)
  have HXR := Lib.hid hxr
  clear hb hxr
  have q0 := cell_later (B := v1.heap.size) (w := v1) P.out.x.c0 P.out.x.lt
  have q1 := cell_later (B := v1.heap.size) (w := v1) P.out.x.c1 P.out.x.lt
  have q2 := cell_later (B := v1.heap.size) (w := v1) P.out.x.c2 P.out.x.lt
  have q3 := cell_later (B := v1.heap.size) (w := v1) P.out.x.c3 P.out.x.lt
  have q4 := cell_later (B := v1.heap.size) (w := v1) P.out.x.c4 P.out.x.lt
  have fr := run_later (B := v1.heap.size) (w := v1) (fun u hu => by have h := (OwnB.below HXR.out hu).rd.str; rw [← HSB.out] at h; exact h)
  have hwz : wrap64 (sizeT t) = (L : Int) := by
    have h1 := enc_len t HWH.out.1.may
    have h2 := HWH.out.1.size
    have h3 := HLE.out
    unfold wrap64
    omega
  have HWZ := Lib.hid hwz
  clear hwz
  first | refine mix_pure ?_ | refine mix_pureB ?_
  simp only [List.takeWhile, List.dropWhile, isPure, Nat.reduceBNe]
  repeat (go_big_quiet_step (fail))
  refine wpQuiet_nil ?_
  clear q0 q1 q2 q3 q4 fr
  first | refine mix_call rfl (fun K hK => ?_) | refine mix_callB rfl (fun K hK => ?_)
  go_simp
  refine (((rsize_any _ (depthT t) t _ v1 (Nat.le_refl _) HWH.out.1.may P.out.s P.out.v).mono fun e u' h => (⟨by rw [h.1, HWZ.out], h.2⟩ : e = .returned (.int .i64 (L : Int)) ∧ Below v1.heap.size v1 u'))).mono ?_
  rintro e v2 ⟨rfl, hb⟩
  refine hK _ _ hb ?_
  clear hK K
  try simp only [Act.put]
  have P := Lib.hid (P.out.call hb)
  have Q := Lib.hid (Q.out.call hb)
  have HO := Lib.hid (HO.out.below hb)
  have HPV := Lib.hid (HPV.out.below hb)
  have HB := Lib.hid (toStart HB.out hb)
  clear hb
  have q0 := cell_later (B := v2.heap.size) (w := v2) P.out.x.c0 P.out.x.lt
  have q1 := cell_later (B := v2.heap.size) (w := v2) P.out.x.c1 P.out.x.lt
  have q2 := cell_later (B := v2.heap.size) (w := v2) P.out.x.c2 P.out.x.lt
  have q3 := cell_later (B := v2.heap.size) (w := v2) P.out.x.c3 P.out.x.lt
  have q4 := cell_later (B := v2.heap.size) (w := v2) P.out.x.c4 P.out.x.lt
  have y0 := cell_later (B := v2.heap.size) (w := v2) Q.out.x.c0 Q.out.x.lt
  have y1 := cell_later (B := v2.heap.size) (w := v2) Q.out.x.c1 Q.out.x.lt
  have y2 := cell_later (B := v2.heap.size) (w := v2) Q.out.x.c2 Q.out.x.lt
  have y3 := cell_later (B := v2.heap.size) (w := v2) Q.out.x.c3 Q.out.x.lt
  have y4 := cell_later (B := v2.heap.size) (w := v2) Q.out.x.c4 Q.out.x.lt
  have fb := run_later (B := v2.heap.size) (w := v2) (fun u hu => by have h := (OwnB.below HO.out hu).rd.str; rw [← HSB.out] at h; exact h)
  have fa := run_later (B := v2.heap.size) (w := v2) (fun u hu => by have h := (HR0.out.keep (HB.out.trans (hu.mono HB.out.size))).str; rw [← HSA.out] at h; exact h)
  have fp := run_later (B := v2.heap.size) (w := v2) (fun u hu => by have h := (OwnB.below HPV.out hu).rd.str; rw [bytes_cat, ← HSA.out, ← HSB.out] at h; exact h)
  have hsa : sa.size ≤ 140737488351232 := by
    rw [HSA.out]
    show m.toArray.size ≤ _
    rw [List.size_toArray, ← HN.out]; exact hm
  have hsb : sb.size ≤ 4096 := by
    rw [HSB.out]
    show (encT t).toArray.size ≤ _
    rw [List.size_toArray, ← HLE.out]; exact hel
  first | refine mix_pure ?_ | refine mix_pureB ?_
  simp only [List.takeWhile, List.dropWhile, isPure, Nat.reduceBNe]
  repeat (go_big_quiet_step (fail))
  refine wpQuiet_nil ?_
  clear q0 q1 q2 q3 q4 y0 y1 y2 y3 y4 fa fb fp hsa hsb
  first | refine mix_call rfl (fun K hK => ?_) | refine mix_callB rfl (fun K hK => ?_)
  go_simp
  refine (same_two P.out.s Q.out.v P.out.v).mono ?_
  rintro e v3 ⟨rfl, hb⟩
  refine hK _ _ hb ?_
  clear hK K
  try simp only [Act.put]
  have HF := Lib.hid (toStart HB.out hb)
  clear hb
  first | refine mix_pure ?_ | refine mix_pureB ?_
  simp only [List.takeWhile, List.dropWhile, isPure]
  repeat (go_big_quiet_step (fail))
  refine wpQuiet_nil ?_
  unfold wpMix
  go_wp2_with fail
  go_ret
  exact ⟨by simp, HF.out⟩

set_option maxRecDepth 100000 in
theorem lifted (os : Os) (started : os.Started) (H : Type) (enc : TypeId × Value → H) :
    ReturnsInHanded {} Try.checked os 3 .any (Rows.codecEncodesSpec.pre6 enc Try.prog Try.f3 Rows.codecEncodesRow.domain false) (Rows.codecEncodesSpec.post enc Try.prog Try.f3 false true false false) := by
  refine returnsInHanded_of_change_sized (C := Try.checked) own started (by kernel_rfl) Try.func3
    (ChangeSpec.witness6 (enc := enc) (C := Try.checked) false ⟨#[], #[.agg #[.int .i64 0, .int .i64 0, .string ByteArray.empty, .slice none 0 0, .slice none 0 0], .slice none 0 0], []⟩ 8 (by kernel_rfl) (by kernel_rfl) (by kernel_rfl) (by kernel_rfl)) ?_
  intro W base args ds gs before hval0 hW hcnd hsz0 _
  have hval : ∀ (j : Nat) t v, Try.f3.params[j]? = some t → args[j]? = some v → Value.okWide Try.prog W .any base t v := hval0
  have hsz : (DataW.weightsEach Try.prog (Try.f3.params.toList ++ Rows.codecEncodesSpec.plain.varTypes Try.prog) (ds ++ gs)).all (· ≤ reachBytes) = true := hsz0
  have hW' := hW
  obtain ⟨p, q, hA0, hV, rfl, hfz, hnd⟩ := hW
  have hA : DataW.TrodAll enc Try.prog W 0 (fun _ => true) true Try.f3.params.toList args.toList ds p := hA0
  rw [Try.params3] at hA hval hsz
  obtain ⟨v0, v1, d0, d1, p0, p1, rfl, rfl, rfl, h0, h1⟩ := trodAll_two hA
  obtain ⟨rfl, rfl⟩ := trodVars_none hV
  obtain ⟨a0, rfl, -⟩ := okWide_struct Try.underlying25 (hval 0 25 v0 rfl rfl)
  have k0 := h0
  have lt0 : ∀ x ∈ p0, x.block < W.heap.size := by obtain ⟨m, hm⟩ := k0; exact DataW.trod_lt m _ _ _ hm
  have wt0 : ∀ n ∈ d0.weights Try.prog 25, n ≤ reachBytes := fun n hn => by have := List.all_eq_true.1 hsz n (DataW.weights_mem_each (j := 0) rfl rfl n hn); simpa using this
  obtain ⟨A1, n1, c1, rfl⟩ := okWide_slice Try.underlying26 (hval 1 26 v1 rfl rfl)
  have k1 := h1
  have lt1 : ∀ x ∈ p1, x.block < W.heap.size := by obtain ⟨m, hm⟩ := k1; exact DataW.trod_lt m _ _ _ hm
  clear hA0 hval0
  obtain ⟨t0, ht0⟩ : ∃ t, LV W (fun b => b < W.heap.size) t (.agg a0) := by
    obtain ⟨m, hm⟩ := k0
    have h3 := open_val m _ _ hm wt0
    simpa [Value.cells] using h3
  obtain ⟨l1, hll1, hrd1, hln1⟩ : ∃ l : List UInt8, n1 = l.length ∧ Rd W W.heap.size (.slice A1 l.length c1) l ∧ n1 ≤ 140737488351232 := by
    obtain ⟨fuel, hf⟩ := k1
    obtain ⟨⟨l, hll, hrd⟩, hshape⟩ := open_bytes hf
    refine ⟨l, hll, hrd, ?_⟩
    rcases hshape with h0 | ⟨es, rs, hd, hes⟩
    · omega
    · simp only [] at hd
      subst hd
      have h3 := sized_slice hsz (j := 1) (t := 26) (e := 5) rfl rfl Try.underlying26
      have hb : Try.prog.bytesOf 5 = 1 := by kernel_rfl
      rw [hb] at h3
      simp only [reachBytes] at h3
      omega
  subst hll1
  refine (walk t0 _ A1 c1 l1 W _ (fun _ h => h) ht0 hrd1 hln1).mono fun e W' ⟨he, bel⟩ => ?_
  subst he
  exact ⟨_, rfl, _, _, _, [], _, [], hW', trodAll_mk1 (shut_bool Try.underlying4 _), trodAll_mk2 (Below.trod laidOut (by kernel_rfl) (of_decide_eq_true (by kernel_rfl)) k0 bel lt0) (Below.trod laidOut (by kernel_rfl) (of_decide_eq_true (by kernel_rfl)) k1 bel lt1), rfl, bel.frame _, fun h => by cases h⟩

/-- The statement. -/
theorem proved : Rows.CodecEncodesSaid :=
  OpenClaim.holds_of_wide 3 Try.f3 rfl rfl rfl rfl rfl rfl rfl ⟨rfl, rfl, rfl, rfl, rfl⟩ rfl rfl rfl rfl rfl (by kernel_rfl) Try.func3 (by kernel_rfl)
    (of_decide_eq_true (by kernel_rfl)) (by unfold Func.isWrapper; first | (rw [if_pos (by decide +kernel)]; kernel_rfl) | (rw [if_neg (by decide +kernel)]; exact ⟨rfl, rfl⟩))
    (fun os started H enc _ => lifted os started H enc)

end Go.Proofs.Ytopmeoonepkodaa.Encodes
