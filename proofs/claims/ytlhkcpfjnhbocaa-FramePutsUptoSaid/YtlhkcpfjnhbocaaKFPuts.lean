/- The frame of any body, put behind any bytes, is the document's; where the two arguments hold together at most 1048576 values and letters. -/
import Derived.Test.YtlhkcpfjnhbocaaKFrmL
import Derived.Test.YtlhkcpfjnhbocaaKOpenB
import Derived.SizedLaws
import Derived.ProofKit
import Derived.OpenShut
import Derived.ShutString
import Derived.ChangeOld
import Derived.Below
import Derived.JoinedCond
import Derived.Deep.CondSized
namespace Go.Proofs.Ytlhkcpfjnhbocaa.FPuts
set_option linter.unusedVariables false
set_option linter.unusedSimpArgs false
open Go.ChangeShapes Go.WideShapes Go.ChangeAt Go.RowKit Go.Joins OpenB
set_option linter.unusedVariables false

theorem own : ownKnob Try.prog.godebug = none := by kernel_rfl
theorem laidOut : laidOutB Try.prog = true := by kernel_rfl

set_option maxHeartbeats 4000000 in
set_option maxRecDepth 100000 in
theorem walk (A : Option Addr) (cap : Nat) (a : List UInt8) (A2 : Option Addr) (cap2 : Nat) (l : List UInt8) (w : World) (ha : Rd w w.heap.size (.slice A a.length cap) a) (hl : Rd w w.heap.size (.slice A2 l.length cap2) l) (hs : a.length ≤ 1048576) (hs2 : l.length ≤ 1048576) :
    Calls Try.prog 4 #[.slice A a.length cap, .slice A2 l.length cap2] w fun e w' => e = .returned (.bool true) ∧ Below w.heap.size w w' := by
  obtain ⟨i0, hi, hz0, hz1, hz2⟩ := info_parts Try.infoU8
  obtain ⟨n, hn⟩ : ∃ n, n = a.length := ⟨_, rfl⟩
  obtain ⟨m, hm⟩ : ∃ m, m = l.length := ⟨_, rfl⟩
  have HN := Lib.hid hn
  have HM := Lib.hid hm
  rw [← hn] at ha hs ⊢
  rw [← hm] at hl hs2 ⊢
  have HA := Lib.hid ha
  have HL := Lib.hid hl
  clear ha hl hn hm
  go_enter Try.func4, Try.ntmps4
  by_cases hbig : (131072 : Int) < (m : Int)
  · go_wp2_with fail
    refine (lives10_any _).mono ?_
    rintro e v9 ⟨rfl, hb⟩
    have HF := Lib.hid hb
    clear hb
    go_wp2_with fail
    go_ret
    exact ⟨rfl, HF.out⟩
  go_wp2_with (at_make; go_must (refine wpList_make_own _ rfl _ _ 22 rfl w.heap.size 5 i0 (.int .u8 0) 1 Try.underlying22 hi hz0 hz1 _ _ _ (n + 9) rfl rfl ?b0 ?b1 ?b2 ?b3 ?_))
  case b1 => omega
  case b2 => unfold maxLen; omega
  intro w0 hown0 hg0
  have hb0 : Below w.heap.size w w0 := below_of_grown hg0 (Nat.le_refl _) (fun k hk => by cases hk)
  have hz00 := hb0.size
  have HO0 : Hid (OwnB w0 w.heap.size (.slice (some ⟨w.heap.size, 0, none⟩) 0 (n + 9)) []) := hown0
  have HB0 := Lib.hid hb0
  have HA0 := Lib.hid (HA.out.keep hb0)
  clear hown0 hg0 hb0
  go_wp2_with (at_builtin; go_must (refine append_bytesY rfl _ _ rfl w.heap.size _ [] rfl HO0.out _ _ a rfl HA0.out hz00 (by have := HN.out; simp only [List.length_nil]; omega) ?_))
  intro v1 w1 hv1 hg1
  have hb1 := below_ownY HB0.out HO0.out hz00 hg1
  have HB1 := Lib.hid hb1
  have hz1 := hb1.size
  have HV1 := Lib.hid hv1
  have HL1 := Lib.hid (HL.out.keep hb1)
  have HA1 := Lib.hid (HA.out.keep hb1)
  clear hb1 hv1 hg1 HO0 HA0 HB0
  by_cases hlong : 65536 < m
  · have h6 : (65536 : Int) < (m : Int) := by omega
    go_wp2_with fail
    refine (fput_long v1 A2 m cap2 w1 (by omega) hlong).mono ?_
    rintro e w1' ⟨rfl, rfl⟩
    go_wp2_with fail
    refine (lives10_any _).mono ?_
    rintro e w2 ⟨rfl, hb⟩
    have HB2 := Lib.hid (HB1.out.trans (hb.mono hz1))
    have e1 : (convert 22 9 v1).run Try.prog w2 = .ok (.string ⟨a.toArray⟩) w2 := (HV1.out.below hb).rdY.strY
    have e2 : (convert 22 9 (.slice A n cap)).run Try.prog w2 = .ok (.string ⟨a.toArray⟩) w2 := (HA.out.keep HB2.out).strY
    clear hb
    go_wp2_with fail
    clear e1 e2
    refine (fsize_any A2 m cap2 w2 (by omega)).mono ?_
    rw [if_neg (by omega)]
    rintro e w3 ⟨rfl, hb3⟩
    have HB3 := Lib.hid (HB2.out.trans (hb3.mono HB2.out.size))
    clear hb3
    go_wp2_with fail
    go_ret
    exact ⟨rfl, HB3.out⟩
  have h6 : ¬ ((65536 : Int) < (m : Int)) := by omega
  have HP := Lib.hid (fput_any v1 (.slice A2 m cap2) a l w1 HV1.out.rdY (HL1.out.upY hz1) (by have := HM.out; omega) (by have := HN.out; omega))
  go_wp2_with fail
  refine HP.out.mono ?_
  rintro e w2 ⟨v2, rfl, hv2, hb2⟩
  have HB2 := Lib.hid (HB1.out.trans (hb2.mono hz1))
  have HV12 := Lib.hid (HV1.out.below hb2)
  have HV2 := Lib.hid hv2
  have hz22 := HB2.out.size
  clear hv2 hb2 HP HV1 HL1 HA1
  go_wp2_with fail
  refine (lives10_any _).mono ?_
  rintro e w3 ⟨rfl, hb⟩
  have HB3 := Lib.hid (HB2.out.trans (hb.mono hz22))
  have HV3 := Lib.hid (HV2.out.below hb)
  have hz3 := HB3.out.size
  have e1 : (convert 22 9 v1).run Try.prog w3 = .ok (.string ⟨a.toArray⟩) w3 := (HV12.out.below hb).rdY.strY
  have e2 : (convert 22 9 (.slice A n cap)).run Try.prog w3 = .ok (.string ⟨a.toArray⟩) w3 := (HA.out.keep HB3.out).strY
  have HFR := Lib.hid (rframe_any (.slice A2 m cap2) l w3 ((HL.out.keep HB3.out).upY hz3) (by have := HM.out; omega))
  clear hb HV2 HV12
  go_wp2_with fail
  clear e1 e2
  refine HFR.out.mono ?_
  rintro e w4 ⟨v4, rfl, hv4, hb4⟩
  have HB4 := Lib.hid (HB3.out.trans (hb4.mono hz3))
  have hv24 := HV3.out.below hb4
  have f1 : (convert 22 9 v2).run Try.prog w4 = .ok (.string ⟨(a ++ frameF l).toArray⟩) w4 := hv24.rdY.strY
  have f2 : (convert 22 9 (.slice A n cap)).run Try.prog w4 = .ok (.string ⟨a.toArray⟩) w4 := (HA.out.keep HB4.out).strY
  have f3 : (convert 22 9 v4).run Try.prog w4 = .ok (.string ⟨(frameF l).toArray⟩) w4 := hv4.rdY.strY
  have hfl := frameF_length l
  rw [← HM.out] at hfl
  obtain ⟨q, hq⟩ : ∃ q, q = frameLen m := ⟨_, rfl⟩
  have hq1 : 1 ≤ q ∧ q ≤ 70000 := by
    have := (grp_length m).1
    rw [hq]; unfold frameLen; omega
  rw [← hq] at hfl
  obtain ⟨g, cg, e4, -, -, -⟩ := hv4.shape (by rw [hfl]; exact hq1.1)
  rw [hfl] at e4
  obtain ⟨F, hF⟩ : ∃ F, F = frameF l := ⟨_, rfl⟩
  rw [← hF] at f1 f3 hfl
  have HFL := Lib.hid hfl
  have HQ := Lib.hid hq
  subst e4
  have sz1 : (⟨a.toArray⟩ : ByteArray).size ≤ 1048576 := by rw [size_mk, ← HN.out]; exact hs
  have sz2 : (⟨F.toArray⟩ : ByteArray).size ≤ 70000 := by rw [size_mk, hfl]; exact hq1.2
  have happ : (⟨a.toArray⟩ : ByteArray) ++ ⟨F.toArray⟩ = ⟨(a ++ F).toArray⟩ := by
    apply ByteArray.ext
    simp [ByteArray.data_append]
  have hal : a.length ≤ 1048576 := by rw [← HN.out]; exact hs
  have hFl : F.length ≤ 70000 := by rw [hfl]; exact hq1.2
  clear hv4 hb4 hv24 hfl hq hF HFR HV3
  go_wp2_with fail
  clear f1 f2 f3 happ sz1 sz2
  refine (fsize_any A2 m cap2 w4 (by omega)).mono ?_
  rw [if_pos (by omega), ← HQ.out]
  rintro e w5 ⟨rfl, hb5⟩
  have HB5 := Lib.hid (HB4.out.trans (hb5.mono HB4.out.size))
  clear hb5
  go_wp2_with fail
  go_ret
  exact ⟨by simp, HB5.out⟩

theorem bulk_one {H : Type} (d : DataW H) : 1 ≤ Rows.uptoBulk d := by
  cases d with
  | lit l => cases l <;> simp [Rows.uptoBulk]
  | nil => simp [Rows.uptoBulk]
  | ptr d => simp [Rows.uptoBulk]
  | slice elems spare => simp [Rows.uptoBulk]
  | agg parts => simp [Rows.uptoBulk]
  | iface t d => simp [Rows.uptoBulk]
  | map entries => simp [Rows.uptoBulk]
  | held h => simp [Rows.uptoBulk]
theorem bulk_length {H : Type} (l : List (DataW H)) : l.length ≤ Rows.uptoBulkAll l := by
  induction l with
  | nil => simp [Rows.uptoBulkAll]
  | cons x r ih => have := bulk_one x; simp only [Rows.uptoBulkAll, List.length_cons]; omega
theorem bulk_slice {H : Type} (es rs : List (DataW H)) : es.length + 1 ≤ Rows.uptoBulk (.slice es rs) := by
  have := bulk_length es
  simp only [Rows.uptoBulk]
  omega

set_option maxRecDepth 100000 in
theorem lifted (os : Os) (started : os.Started) (H : Type) (enc : TypeId × Value → H) (F : Stop.Interp) :
    ReturnsInHanded {} Try.checked os 4 .any ((Rows.OpenSpec.upto Rows.framePutsSpec).pre6 enc Try.prog Try.f4 Rows.framePutsUptoRow.domain false) (((Rows.OpenSpec.upto Rows.framePutsSpec).at F).post enc Try.prog Try.f4 false true false false) := by
  refine returnsInHanded_of_cond_sized (C := Try.checked) (s := Rows.OpenSpec.upto Rows.framePutsSpec) (k := Rows.uptoSmall) rfl own started (by kernel_rfl) Try.func4
    (OpenSpec.witness (enc := enc) (C := Try.checked) (s := Rows.OpenSpec.upto Rows.framePutsSpec) (k := Rows.uptoSmall) rfl false ⟨#[], #[.slice none 0 0, .slice none 0 0], []⟩ 8 (by kernel_rfl) (by kernel_rfl) (by kernel_rfl)
      (x := ([.nil, .nil], [], [])) (by kernel_rfl) rfl (by kernel_rfl)) ?_
  intro W base args ds gs before hval0 hW hcnd hk hsz0 _
  have hval : ∀ (j : Nat) t v, Try.f4.params[j]? = some t → args[j]? = some v → Value.okWide Try.prog W .any base t v := hval0
  have hsz : (DataW.weightsEach Try.prog (Try.f4.params.toList ++ Rows.framePutsSpec.plain.varTypes Try.prog) (ds ++ gs)).all (· ≤ reachBytes) = true := hsz0
  have hW' := hW
  obtain ⟨p, q, hA0, hV, rfl, hfz, hnd⟩ := hW
  have hA : DataW.TrodAll enc Try.prog W 0 (fun _ => true) true Try.f4.params.toList args.toList ds p := hA0
  rw [Try.params4] at hA hval hsz
  obtain ⟨v0, v1, d0, d1, p0, p1, rfl, rfl, rfl, h0, h1⟩ := trodAll_two hA
  obtain ⟨rfl, rfl⟩ := trodVars_none hV
  obtain ⟨A0, n0, c0, rfl⟩ := okWide_slice Try.underlying22 (hval 0 22 v0 rfl rfl)
  have k0 := h0
  have lt0 : ∀ x ∈ p0, x.block < W.heap.size := by obtain ⟨m, hm⟩ := k0; exact DataW.trod_lt m _ _ _ hm
  obtain ⟨A1, n1, c1, rfl⟩ := okWide_slice Try.underlying22 (hval 1 22 v1 rfl rfl)
  have k1 := h1
  have lt1 : ∀ x ∈ p1, x.block < W.heap.size := by obtain ⟨m, hm⟩ := k1; exact DataW.trod_lt m _ _ _ hm
  clear hA0 hval0
  obtain ⟨l0, hll0, hrd0, hln0⟩ : ∃ l : List UInt8, n0 = l.length ∧ Rd W W.heap.size (.slice A0 l.length c0) l ∧ n0 ≤ 140737488351232 := by
    obtain ⟨fuel, hf⟩ := k0
    obtain ⟨⟨l, hll, hrd⟩, hshape⟩ := open_bytes hf
    refine ⟨l, hll, hrd, ?_⟩
    rcases hshape with h0 | ⟨es, rs, hd, hes⟩
    · omega
    · simp only [] at hd
      subst hd
      have h3 := sized_slice hsz (j := 0) (t := 22) (e := 5) rfl rfl Try.underlying22
      have hb : Try.prog.bytesOf 5 = 1 := by kernel_rfl
      rw [hb] at h3
      simp only [reachBytes] at h3
      omega
  subst hll0
  obtain ⟨l1, hll1, hrd1, hln1⟩ : ∃ l : List UInt8, n1 = l.length ∧ Rd W W.heap.size (.slice A1 l.length c1) l ∧ n1 ≤ 140737488351232 := by
    obtain ⟨fuel, hf⟩ := k1
    obtain ⟨⟨l, hll, hrd⟩, hshape⟩ := open_bytes hf
    refine ⟨l, hll, hrd, ?_⟩
    rcases hshape with h0 | ⟨es, rs, hd, hes⟩
    · omega
    · simp only [] at hd
      subst hd
      have h3 := sized_slice hsz (j := 1) (t := 22) (e := 5) rfl rfl Try.underlying22
      have hb : Try.prog.bytesOf 5 = 1 := by kernel_rfl
      rw [hb] at h3
      simp only [reachBytes] at h3
      omega
  subst hll1
  have hk2 : Rows.uptoBulkAll ([d0, d1] ++ []) ≤ 1048576 := of_decide_eq_true hk
  simp only [List.cons_append, List.nil_append, Rows.uptoBulkAll] at hk2
  have hb0 : l0.length ≤ 1048576 := by
    obtain ⟨fuel, hf⟩ := k0
    rcases (open_bytes hf).2 with h0 | ⟨es, rs, hd, hes⟩
    · omega
    · simp only [] at hd
      subst hd
      have h1 := bulk_slice es rs
      omega
  have hb1 : l1.length ≤ 1048576 := by
    obtain ⟨fuel, hf⟩ := k1
    rcases (open_bytes hf).2 with h0 | ⟨es, rs, hd, hes⟩
    · omega
    · simp only [] at hd
      subst hd
      have h1 := bulk_slice es rs
      omega
  refine (walk A0 c0 l0 A1 c1 l1 W hrd0 hrd1 hb0 hb1).mono fun e W' ⟨he, bel⟩ => ?_
  subst he
  exact ⟨_, rfl, _, _, _, [], _, [], hW', trodAll_mk1 (shut_bool Try.underlying4 _), trodAll_mk2 (Below.trod laidOut (by kernel_rfl) (of_decide_eq_true (by kernel_rfl)) k0 bel lt0) (Below.trod laidOut (by kernel_rfl) (of_decide_eq_true (by kernel_rfl)) k1 bel lt1), rfl, bel.frame _, fun h => by cases h⟩

/-- The statement. -/
theorem proved : Rows.FramePutsUptoSaid :=
  OpenClaim.holds_of_cond 4 Try.f4 rfl rfl rfl rfl rfl rfl rfl ⟨rfl, rfl, rfl, rfl, rfl⟩ rfl rfl rfl rfl rfl (by kernel_rfl) Try.func4 (by kernel_rfl)
    (of_decide_eq_true (by kernel_rfl)) (by unfold Func.isWrapper; first | (rw [if_pos (by decide +kernel)]; kernel_rfl) | (rw [if_neg (by decide +kernel)]; exact ⟨rfl, rfl⟩))
    (fun os started H enc _ F => lifted os started H enc F)

end Go.Proofs.Ytlhkcpfjnhbocaa.FPuts
