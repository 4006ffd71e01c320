/- Which frames stand in any bytes is as the document says. No conditions. -/
import Derived.Test.YtlhkcpfjnhbocaaKFrmL
import Derived.Test.YtlhkcpfjnhbocaaKOpenB
import Derived.SizedLaws
import Derived.ProofKit
import Derived.OpenShut
import Derived.ShutString
import Derived.ChangeOld
import Derived.Below
namespace Go.Proofs.Ytlhkcpfjnhbocaa.FScans
set_option linter.unusedVariables false
set_option linter.unusedSimpArgs false
open Go.ChangeShapes Go.WideShapes Go.ChangeAt Go.RowKit Go.Joins OpenB
set_option linter.unusedVariables false

theorem own : ownKnob Try.prog.godebug = none := by kernel_rfl
theorem laidOut : laidOutB Try.prog = true := by kernel_rfl

set_option maxHeartbeats 4000000 in
set_option maxRecDepth 100000 in
theorem walk (A : Option Addr) (cap : Nat) (l : List UInt8) (w : World) (hr : Rd w w.heap.size (.slice A l.length cap) l) (hl : l.length ≤ 140737488351232) :
    Calls Try.prog 5 #[.slice A l.length cap] w fun e w' => e = .returned (.bool true) ∧ Below w.heap.size w w' := by
  obtain ⟨bs, m, hsc, hml⟩ := scan_exists l.length l (Nat.le_refl _)
  obtain ⟨n, hn⟩ : ∃ n, n = l.length := ⟨_, rfl⟩
  have HN := Lib.hid hn
  have HSC := Lib.hid hsc
  rw [← hn] at hr hl hml ⊢
  have HR := Lib.hid hr
  clear hr hn hsc
  go_enter Try.func5, Try.ntmps5
  by_cases hbig : (5000 : Int) < (n : Int)
  · go_wp2_with fail
    refine (lives10_any _).mono ?_
    rintro e v9 ⟨rfl, hb⟩
    have HF := Lib.hid hb
    clear hb
    go_wp2_with fail
    go_ret
    exact ⟨rfl, HF.out⟩
  have hb0 : Below w.heap.size w (w.alloc (.cells #[] 5)) := (Below.refl _ _).alloc (Nat.le_refl _) _
  have HO0 := Lib.hid (own_zeroY w)
  have HR0 := Lib.hid (HR.out.keep hb0)
  have HB0 := Lib.hid hb0
  have hz0 := hb0.size
  clear hb0
  go_wp2_with (at_builtin; go_must (refine append_bytesY rfl _ _ rfl w.heap.size _ [] rfl HO0.out _ _ l rfl HR0.out hz0 (by have := HN.out; simp only [List.length_nil]; omega) ?_))
  intro v1 w1 hv1 hg1
  have hb1 := below_ownY HB0.out HO0.out hz0 hg1
  have HB1 := Lib.hid hb1
  have HR1 := Lib.hid (HR.out.keep hb1)
  have HD := Lib.hid (fscan_any v1 l bs m w1 (OwnB.rdY hv1) (by have := HN.out; omega) HSC.out)
  clear hb1 hv1 hg1 HO0 HR0 HB0
  go_wp2_with fail
  refine HD.out.mono ?_
  rintro e w2 ⟨va, rfl, hva, hb2⟩
  have HB2 := Lib.hid (HB1.out.trans (hb2.mono HB1.out.size))
  have HR2 := Lib.hid (HR.out.keep HB2.out)
  have HVA := Lib.hid hva
  clear hva hb2 HD HR1
  go_wp2_with fail
  have hz2 := HB2.out.size
  have HE := Lib.hid (rscan_any (.slice A n cap) l bs m w2 (HR2.out.upY hz2) (by have := HN.out; omega) HSC.out)
  refine HE.out.mono ?_
  rintro e w3 ⟨vb, rfl, hvb, hb3⟩
  have HB3 := Lib.hid (HB2.out.trans (hb3.mono hz2))
  have HVA3 := Lib.hid (HVA.out.below hb3)
  have HVB3 := Lib.hid hvb
  have hz3 := HB3.out.size
  clear hvb hb3 HE HVA HR2
  go_wp2_with fail
  refine (lives10_any _).mono ?_
  rintro e w4 ⟨rfl, hb⟩
  have HB4 := Lib.hid (HB3.out.trans (hb.mono hz3))
  have hva := HVA3.out.below hb
  have hvb := HVB3.out.below hb
  obtain ⟨A1, c1, e1, -, -⟩ := hva.shape
  obtain ⟨A2, c2, e2, -, -⟩ := hvb.shape
  have ha := hva.at e1
  have hb' := hvb.at e2
  have hk : bs.length ≤ 9223372036854775000 := by
    have : ∀ {l bs m}, ScanR l bs m → bs.length ≤ l.length := by
      intro l bs m h
      induction h with
      | stop _ => simp
      | step h _ ih => have := nextF_le h; rw [List.length_drop] at ih; simp only [List.length_cons]; omega
    have := this HSC.out
    have := HN.out
    omega
  have HS := Lib.hid (rsameB_any A1 A2 c1 c2 bs bs w4.heap.size w4 (Nat.le_refl _) ha hb' hk hk)
  subst e1 e2
  clear hb hva hvb ha hb' hk
  go_wp2_with fail
  refine HS.out.mono ?_
  rintro e w5 ⟨rfl, hb5⟩
  have HB5 := Lib.hid (HB4.out.trans (hb5.mono HB4.out.size))
  clear hb5 HS
  simp only [decide_true]
  go_wp2_with fail
  go_ret
  exact ⟨by simp, HB5.out⟩

set_option maxRecDepth 100000 in
theorem lifted (os : Os) (started : os.Started) (H : Type) (enc : TypeId × Value → H) :
    ReturnsInHanded {} Try.checked os 5 .any (Rows.frameScansSpec.pre6 enc Try.prog Try.f5 Rows.frameScansRow.domain false) (Rows.frameScansSpec.post enc Try.prog Try.f5 false true false false) := by
  refine returnsInHanded_of_change_sized (C := Try.checked) own started (by kernel_rfl) Try.func5
    (ChangeSpec.witness6 (enc := enc) (C := Try.checked) false ⟨#[], #[.slice none 0 0], []⟩ 8 (by kernel_rfl) (by kernel_rfl) (by kernel_rfl) (by kernel_rfl)) ?_
  intro W base args ds gs before hval0 hW hcnd hsz0 _
  have hval : ∀ (j : Nat) t v, Try.f5.params[j]? = some t → args[j]? = some v → Value.okWide Try.prog W .any base t v := hval0
  have hsz : (DataW.weightsEach Try.prog (Try.f5.params.toList ++ Rows.frameScansSpec.plain.varTypes Try.prog) (ds ++ gs)).all (· ≤ reachBytes) = true := hsz0
  have hW' := hW
  obtain ⟨p, q, hA0, hV, rfl, hfz, hnd⟩ := hW
  have hA : DataW.TrodAll enc Try.prog W 0 (fun _ => true) true Try.f5.params.toList args.toList ds p := hA0
  rw [Try.params5] at hA hval hsz
  obtain ⟨v0, d0, rfl, rfl, h0⟩ := trodAll_one hA
  obtain ⟨rfl, rfl⟩ := trodVars_none hV
  obtain ⟨A0, n0, c0, rfl⟩ := okWide_slice Try.underlying22 (hval 0 22 v0 rfl rfl)
  have k0 := h0
  have lt0 : ∀ x ∈ p, x.block < W.heap.size := by obtain ⟨m, hm⟩ := k0; exact DataW.trod_lt m _ _ _ hm
  clear hA0 hval0
  obtain ⟨l0, hll0, hrd0, hln0⟩ : ∃ l : List UInt8, n0 = l.length ∧ Rd W W.heap.size (.slice A0 l.length c0) l ∧ n0 ≤ 140737488351232 := by
    obtain ⟨fuel, hf⟩ := k0
    obtain ⟨⟨l, hll, hrd⟩, hshape⟩ := open_bytes hf
    refine ⟨l, hll, hrd, ?_⟩
    rcases hshape with h0 | ⟨es, rs, hd, hes⟩
    · omega
    · simp only [] at hd
      subst hd
      have h3 := sized_slice hsz (j := 0) (t := 22) (e := 5) rfl rfl Try.underlying22
      have hb : Try.prog.bytesOf 5 = 1 := by kernel_rfl
      rw [hb] at h3
      simp only [reachBytes] at h3
      omega
  subst hll0
  refine (walk A0 c0 l0 W hrd0 hln0).mono fun e W' ⟨he, bel⟩ => ?_
  subst he
  exact ⟨_, rfl, _, _, _, [], _, [], hW', trodAll_mk1 (shut_bool Try.underlying4 _), trodAll_mk1 (Below.trod laidOut (by kernel_rfl) (of_decide_eq_true (by kernel_rfl)) k0 bel lt0), rfl, bel.frame _, fun h => by cases h⟩

/-- The statement. -/
theorem proved : Rows.FrameScansSaid :=
  OpenClaim.holds_of_wide 5 Try.f5 rfl rfl rfl rfl rfl rfl rfl ⟨rfl, rfl, rfl, rfl, rfl⟩ rfl rfl rfl rfl rfl (by kernel_rfl) Try.func5 (by kernel_rfl)
    (of_decide_eq_true (by kernel_rfl)) (by unfold Func.isWrapper; first | (rw [if_pos (by decide +kernel)]; kernel_rfl) | (rw [if_neg (by decide +kernel)]; exact ⟨rfl, rfl⟩))
    (fun os started H enc _ => lifted os started H enc)

end Go.Proofs.Ytlhkcpfjnhbocaa.FScans
