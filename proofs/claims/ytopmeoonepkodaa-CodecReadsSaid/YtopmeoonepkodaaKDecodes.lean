/- What any bytes are as a value, and that what was decoded has that code: as the document says. No conditions. -/
import Derived.Test.YtopmeoonepkodaaKCodB
import Derived.Test.YtopmeoonepkodaaKRdC
import Derived.Test.YtopmeoonepkodaaKVr
import Derived.Test.YtopmeoonepkodaaKOpen
import Derived.Test.YtopmeoonepkodaaKOpenB
import Derived.SizedLaws
import Derived.ProofKit
import Derived.OpenShut
import Derived.ShutString
import Derived.ChangeOld
import Derived.Below
namespace Go.Proofs.Ytopmeoonepkodaa
set_option linter.unusedVariables false
set_option linter.unusedSimpArgs false
open Go.RowKit
theorem decE_read {l : List UInt8} (h : decE l = 0) (hl : l.length ≤ 9223372036854775807) : Whole (decT l) ∧ rngT (decT l) ∧ encT (decT l) = l ∧ checkT (decT l) = 0 := by
  have h2 : decT l = (readO (some l)).1 := by unfold decT; exact if_pos h
  unfold decE at h
  rw [readO_some] at h h2
  cases hr : readS l with
  | none => rw [hr] at h; exact absurd h (by decide)
  | some p =>
    obtain ⟨u, r⟩ := p
    rw [hr] at h h2
    simp only at h h2
    have hr0 : r = [] := by
      cases r with
      | nil => rfl
      | cons a r => exact absurd h (by simp [doneOf])
    subst hr0
    obtain ⟨k1, k2, k3, k4, k5⟩ := readS_some hr hl
    rw [List.append_nil] at k3
    rw [h2]
    exact ⟨k1, k2, k3.symm, k5⟩
theorem own_zero (w : World) : OwnB (w.alloc (.cells #[] 5)) w.heap.size (.slice (some ⟨w.heap.size, 0, none⟩) 0 0) [] := ⟨rfl, .inr ⟨_, 0, #[], rfl, Nat.le_refl _, heap_alloc_new w _, Nat.le_refl _, by decide, rfl, rfl⟩⟩
/-- Two values that read as one are the same. -/
theorem same_two {u : World} {S : Nat → Prop} {t : VT} {va vb : Value} (hs : ∀ b, S b → b < u.heap.size) (ha : LV u S t va) (hb : LV u S t vb) : Calls Try.prog 15 #[va, vb] u fun e u' => e = .returned (.bool true) ∧ Below u.heap.size u u' :=
  (rsame_any S (depthT t) t t _ _ u (Nat.le_refl _) hs ha hb).mono fun e u' ⟨⟨r, h1, h2⟩, h3⟩ => ⟨by rw [h1, h2.2 rfl], h3⟩
theorem Vr.mono {u : World} {S S' : Nat → Prop} {g : Nat} {t : VT} {A : Option Addr} {c : Nat} {A' : Option Addr} {c' : Nat} (h : Vr u S g t A c A' c') (h1 : ∀ b, S b → S' b) (h2 : ∀ b, S' b → b < u.heap.size) : Vr u S' g t A c A' c' := ⟨h.x, h.v.imp h1, h2⟩
end Go.Proofs.Ytopmeoonepkodaa
namespace Go.Proofs.Ytopmeoonepkodaa.Decodes
open Go.ChangeShapes Go.WideShapes Go.ChangeAt Go.RowKit Go.Joins OpenB
set_option linter.unusedVariables false

theorem own : ownKnob Try.prog.godebug = none := by kernel_rfl
theorem laidOut : laidOutB Try.prog = true := by kernel_rfl

set_option maxHeartbeats 4000000 in
set_option maxRecDepth 100000 in
theorem walk (A : Option Addr) (cap : Nat) (l : List UInt8) (w : World) (hr : Rd w w.heap.size (.slice A l.length cap) l) (hl : l.length ≤ 140737488351232) :
    Calls Try.prog 4 #[.slice A l.length cap] w fun e w' => e = .returned (.bool true) ∧ Below w.heap.size w w' := by
  obtain ⟨n, hn⟩ : ∃ n, n = l.length := ⟨_, rfl⟩
  have HN := Lib.hid hn
  rw [← hn] at hr hl ⊢
  have HR := Lib.hid hr
  clear hr hn
  go_enter Try.func4, Try.ntmps4
  by_cases hbig : (n : Int) > 20000
  · have hbig2 : decide ((n : Int) > 20000) = true := decide_eq_true hbig
    go_wp2_with fail
    refine (lives3_any _).mono ?_
    rintro e v9 ⟨rfl, hb⟩
    have HF := Lib.hid hb
    clear hb
    go_wp2_with fail
    go_ret
    exact ⟨rfl, HF.out⟩
  have hbig2 : decide ((n : Int) > 20000) = false := decide_eq_false hbig
  have hb0 := below_box (w := w) (.cells #[] 5)
  have HO0 := Lib.hid (own_zero w)
  have HR0 := Lib.hid (HR.out.keep hb0)
  have HB0 := Lib.hid hb0
  have hz0 := hb0.size
  have hn20 : n ≤ 20000 := by omega
  clear hb0
  go_wp2_with (at_builtin; go_must (refine wpList_append_bytes rfl _ _ rfl w.heap.size _ [] rfl HO0.out _ _ l rfl HR0.out hz0 (by have := HN.out; simp only [List.length_nil]; omega) ?_))
  intro v1 w1 hv1 hg1
  have hb1 := below_own HB0.out HO0.out hz0 hg1
  have HB1 := Lib.hid hb1
  have HR1 := Lib.hid (HR.out.keep hb1)
  have HD := Lib.hid (cdecode_any v1 l w1 (OwnB.rd hv1) (by have := HN.out; omega))
  clear hb1 hv1 hg1 HO0 HR0 HB0
  go_wp2_with fail
  refine HD.out.mono ?_
  rintro e w2 ⟨va, rfl, hva, hb2⟩
  obtain ⟨t, ht⟩ : ∃ t, t = decT l := ⟨_, rfl⟩
  obtain ⟨x, hx⟩ : ∃ x, x = decE l := ⟨_, rfl⟩
  have HT := Lib.hid ht
  have HX := Lib.hid hx
  rw [← ht] at hva
  rw [← hx]
  obtain ⟨Ta, da, Ua, ea, rfl, -⟩ := hva.shape
  have hB2 := HB1.out.trans (hb2.mono HB1.out.size)
  have hP2 := Vr.new (u := w2) (S := fun b => b < w2.heap.size) (fun _ h => h) (hva.imp fun b hb => hb.2)
  have hbx := below_box (w := w2) (.cells #[.int .i64 t.kind, .int .i64 t.num, .string t.text, .slice Ta t.items.length da, .slice Ua t.names.length ea] 25)
  have hB3 := hB2.trans (hbx.mono hB2.size)
  have HP3 := Lib.hid hP2
  have HB3 := Lib.hid hB3
  have hr3 := HR.out.keep hB3
  have HR3 := Lib.hid hr3
  have HD3 := Lib.hid (rdecode_any (.slice A n cap) l _ (hr3.up hB3.size))
  clear hB2 hP2 hbx hB3 hr3 hva hb2 ht hx HD HB1 HR1
  go_wp2_with fail
  generalize hW3 : w2.alloc (.cells #[.int .i64 t.kind, .int .i64 t.num, .string t.text, .slice Ta t.items.length da, .slice Ua t.names.length ea] 25) = w3 at *
  refine HD3.out.mono ?_
  rintro e w4 ⟨vb, rfl, hvb, hb4⟩
  rw [← HX.out]
  rw [← HT.out] at hvb
  obtain ⟨Tb, db, Ub, eb, rfl, -⟩ := hvb.shape
  have hB4 := HB3.out.trans (hb4.mono HB3.out.size)
  have hP4 := HP3.out.call hb4
  have hbx := below_box (w := w4) (.cells #[.int .i64 t.kind, .int .i64 t.num, .string t.text, .slice Tb t.items.length db, .slice Ub t.names.length eb] 25)
  have hB5 := hB4.trans (hbx.mono hB4.size)
  have hP5 := (hP4.call hbx).mono (S' := fun b => b < (w4.alloc (.cells #[.int .i64 t.kind, .int .i64 t.num, .string t.text, .slice Tb t.items.length db, .slice Ub t.names.length eb] 25)).heap.size) (fun b hb => by have := hP4.s b hb; simp; omega) (fun _ h => h)
  have hQ5 := (Vr.new (u := w4) (S := fun b => b < w4.heap.size) (fun _ h => h) (hvb.imp fun b hb => hb.2)).mono (S' := fun b => b < (w4.alloc (.cells #[.int .i64 t.kind, .int .i64 t.num, .string t.text, .slice Tb t.items.length db, .slice Ub t.names.length eb] 25)).heap.size) (fun b hb => by simp; omega) (fun _ h => h)
  have HP5 := Lib.hid hP5
  have HQ5 := Lib.hid hQ5
  have HB5 := Lib.hid hB5
  clear hB4 hP4 hbx hB5 hP5 hQ5 hvb hb4 HP3 HB3 HR3 HD3
  go_wp2_with fail
  generalize hW5 : w4.alloc (.cells #[.int .i64 t.kind, .int .i64 t.num, .string t.text, .slice Tb t.items.length db, .slice Ub t.names.length eb] 25) = w5 at *
  refine (lives3_any _).mono ?_
  rintro e u6 ⟨rfl, hb⟩
  have P := Lib.hid (HP5.out.call hb)
  have Q := Lib.hid (HQ5.out.call hb)
  have HB := Lib.hid (HB5.out.trans (hb.mono HB5.out.size))
  clear hb HP5 HQ5 HB5
  have q0 := P.out.x.c0
  have q1 := P.out.x.c1
  have q2 := P.out.x.c2
  have q3 := P.out.x.c3
  have q4 := P.out.x.c4
  have y0 := Q.out.x.c0
  have y1 := Q.out.x.c1
  have y2 := Q.out.x.c2
  have y3 := Q.out.x.c3
  have y4 := Q.out.x.c4
  go_wp2_with fail
  clear q0 q1 q2 q3 q4 y0 y1 y2 y3 y4
  refine (same_two P.out.s P.out.v Q.out.v).mono ?_
  rintro e u7 ⟨rfl, hb⟩
  have P := Lib.hid (P.out.call hb)
  have HB := Lib.hid (HB.out.trans (hb.mono HB.out.size))
  clear hb
  by_cases h0 : x = 0
  rotate_left
  · have h1 : (x == 0) = false := beq_false_of_ne h0
    have h2 : (x != 0) = true := by simp [h0]
    go_wp2_with fail
    go_ret
    exact ⟨rfl, HB.out⟩
  subst h0
  have q0 := P.out.x.c0
  have q1 := P.out.x.c1
  have q2 := P.out.x.c2
  have q3 := P.out.x.c3
  have q4 := P.out.x.c4
  go_wp2_with fail
  clear q0 q1 q2 q3 q4
  obtain ⟨k1, k2, k3, k4⟩ := decE_read HX.out.symm (by have := HN.out; omega)
  rw [← HT.out] at k1 k2 k3 k4
  refine (cencode_any _ t _ u7 P.out.s P.out.v (by have := k1.depth; omega) (by have := k1.size; omega)).mono ?_
  rintro e u8 ⟨vc, rfl, hown, hb⟩
  have he : encO t = l := by unfold encO; rw [if_pos k4, k3]
  rw [he] at hown
  rw [k4]
  have HB8 := HB.out.trans (hb.mono HB.out.size)
  have cv1 : (convert 26 9 vc).run Try.prog u8 = .ok (.string ⟨l.toArray⟩) u8 := hown.rd.str
  have cv2 : (convert 26 9 (.slice A n cap)).run Try.prog u8 = .ok (.string ⟨l.toArray⟩) u8 := (HR.out.keep HB8).str
  have HF := Lib.hid HB8
  clear hown hb HB8 k1 k2 k3 k4 he
  go_wp2_with fail
  go_ret
  exact ⟨by simp, HF.out⟩

set_option maxRecDepth 100000 in
theorem lifted (os : Os) (started : os.Started) (H : Type) (enc : TypeId × Value → H) :
    ReturnsInHanded {} Try.checked os 4 .any (Rows.codecDecodesSpec.pre6 enc Try.prog Try.f4 Rows.codecDecodesRow.domain false) (Rows.codecDecodesSpec.post enc Try.prog Try.f4 false true false false) := by
  refine returnsInHanded_of_change_sized (C := Try.checked) own started (by kernel_rfl) Try.func4
    (ChangeSpec.witness6 (enc := enc) (C := Try.checked) false ⟨#[], #[.slice none 0 0], []⟩ 8 (by kernel_rfl) (by kernel_rfl) (by kernel_rfl) (by kernel_rfl)) ?_
  intro W base args ds gs before hval0 hW hcnd hsz0 _
  have hval : ∀ (j : Nat) t v, Try.f4.params[j]? = some t → args[j]? = some v → Value.okWide Try.prog W .any base t v := hval0
  have hsz : (DataW.weightsEach Try.prog (Try.f4.params.toList ++ Rows.codecDecodesSpec.plain.varTypes Try.prog) (ds ++ gs)).all (· ≤ reachBytes) = true := hsz0
  have hW' := hW
  obtain ⟨p, q, hA0, hV, rfl, hfz, hnd⟩ := hW
  have hA : DataW.TrodAll enc Try.prog W 0 (fun _ => true) true Try.f4.params.toList args.toList ds p := hA0
  rw [Try.params4] at hA hval hsz
  obtain ⟨v0, d0, rfl, rfl, h0⟩ := trodAll_one hA
  obtain ⟨rfl, rfl⟩ := trodVars_none hV
  obtain ⟨A0, n0, c0, rfl⟩ := okWide_slice Try.underlying26 (hval 0 26 v0 rfl rfl)
  have k0 := h0
  have lt0 : ∀ x ∈ p, x.block < W.heap.size := by obtain ⟨m, hm⟩ := k0; exact DataW.trod_lt m _ _ _ hm
  clear hA0 hval0
  obtain ⟨l0, hll0, hrd0, hln0⟩ : ∃ l : List UInt8, n0 = l.length ∧ Rd W W.heap.size (.slice A0 l.length c0) l ∧ n0 ≤ 140737488351232 := by
    obtain ⟨fuel, hf⟩ := k0
    obtain ⟨⟨l, hll, hrd⟩, hshape⟩ := open_bytes hf
    refine ⟨l, hll, hrd, ?_⟩
    rcases hshape with h0 | ⟨es, rs, hd, hes⟩
    · omega
    · simp only [] at hd
      subst hd
      have h3 := sized_slice hsz (j := 0) (t := 26) (e := 5) rfl rfl Try.underlying26
      have hb : Try.prog.bytesOf 5 = 1 := by kernel_rfl
      rw [hb] at h3
      simp only [reachBytes] at h3
      omega
  subst hll0
  refine (walk A0 c0 l0 W hrd0 hln0).mono fun e W' ⟨he, bel⟩ => ?_
  subst he
  exact ⟨_, rfl, _, _, _, [], _, [], hW', trodAll_mk1 (shut_bool Try.underlying4 _), trodAll_mk1 (Below.trod laidOut (by kernel_rfl) (of_decide_eq_true (by kernel_rfl)) k0 bel lt0), rfl, bel.frame _, fun h => by cases h⟩

/-- The statement. -/
theorem proved : Rows.CodecDecodesSaid :=
  OpenClaim.holds_of_wide 4 Try.f4 rfl rfl rfl rfl rfl rfl rfl ⟨rfl, rfl, rfl, rfl, rfl⟩ rfl rfl rfl rfl rfl (by kernel_rfl) Try.func4 (by kernel_rfl)
    (of_decide_eq_true (by kernel_rfl)) (by unfold Func.isWrapper; first | (rw [if_pos (by decide +kernel)]; kernel_rfl) | (rw [if_neg (by decide +kernel)]; exact ⟨rfl, rfl⟩))
    (fun os started H enc _ => lifted os started H enc)

end Go.Proofs.Ytopmeoonepkodaa.Decodes
