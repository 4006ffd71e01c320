/- What any bytes are as a token: as the document says. No conditions. -/
import Derived.Test.YtlhkcpfjnhbocaaKTkG
import Derived.Test.YtlhkcpfjnhbocaaKOpenN
import Derived.Test.YtlhkcpfjnhbocaaKOpenB
import Derived.SizedLaws
import Derived.ProofKit
import Derived.OpenShut
import Derived.ShutString
import Derived.ChangeOld
import Derived.Below
namespace Go.Proofs.Ytlhkcpfjnhbocaa.TDecodes
set_option linter.unusedVariables false
set_option linter.unusedSimpArgs false
open Go.ChangeShapes Go.WideShapes Go.ChangeAt Go.RowKit Go.Joins OpenB
set_option linter.unusedVariables false

theorem own : ownKnob Try.prog.godebug = none := by kernel_rfl
theorem laidOut : laidOutB Try.prog = true := by kernel_rfl

set_option maxHeartbeats 8000000 in
set_option maxRecDepth 100000 in
theorem walk_true (A : Option Addr) (cap : Nat) (l : List UInt8) (w : World) (hr : Rd w w.heap.size (.slice A l.length cap) l) (hn : l.length ≤ 1000) (hok : okTok l = true) :
    Calls Try.prog 8 #[.slice A l.length cap] w fun e w' => e = .returned (.bool true) ∧ Below w.heap.size w w' := by
  have hd : decTok l = .tuple #[.agg #[.int .i64 ((rdK0 l).1 : Int), .int .i64 ((rdK1 l).1 : Int), .int .i64 ((rdK2 l).1 : Int)], .int .i64 0] := by unfold decTok; rw [hok]; rfl
  have hrd : rdecTok l = .tuple #[.agg #[.int .i64 ((rdK0 l).1 : Int), .int .i64 ((rdK1 l).1 : Int), .int .i64 ((rdK2 l).1 : Int)], .bool true] := by unfold rdecTok; rw [hok]; rfl
  obtain ⟨x0, hx0⟩ : ∃ x : Int, x = ((rdK0 l).1 : Int) := ⟨_, rfl⟩
  obtain ⟨x1, hx1⟩ : ∃ x : Int, x = ((rdK1 l).1 : Int) := ⟨_, rfl⟩
  obtain ⟨x2, hx2⟩ : ∃ x : Int, x = ((rdK2 l).1 : Int) := ⟨_, rfl⟩
  rw [← hx0, ← hx1, ← hx2] at hd hrd
  have HD := Lib.hid hd
  have HRD := Lib.hid hrd
  clear hd hrd hx0 hx1 hx2
  have HL := Lib.hid hn
  obtain ⟨n, hn2⟩ : ∃ n, n = l.length := ⟨_, rfl⟩
  have HN := Lib.hid hn2
  rw [← hn2] at hr hn ⊢
  have HR := Lib.hid hr
  clear hr hn2 hok
  have hbig : ¬ (1000 : Int) < (n : Int) := by omega
  have hb0 : Below w.heap.size w (w.alloc (.cells #[] 5)) := (Below.refl _ _).alloc (Nat.le_refl _) _
  have HO0 := Lib.hid (show OwnB (w.alloc (.cells #[] 5)) w.heap.size (.slice (some ⟨w.heap.size, 0, none⟩) 0 0) [] from own_lit w [] (by decide))
  have HR0 := Lib.hid (HR.out.keep hb0)
  have HB0 := Lib.hid hb0
  have hz0 := hb0.size
  clear hb0
  go_enter Try.func8, Try.ntmps8
  go_wp2_with (at_builtin; go_must (refine append_bytesY rfl _ _ rfl w.heap.size _ [] rfl HO0.out _ _ l rfl HR0.out hz0 (by have := HL.out; simp only [List.length_nil]; omega) ?_))
  intro v1 w1 hv1 hg1
  have hb1 := below_ownY HB0.out HO0.out hz0 hg1
  have HB1 := Lib.hid hb1
  have HR1 := Lib.hid (HR.out.keep hb1)
  have HDC := Lib.hid (tdec_any v1 l w1 hv1.rdY (by have := HL.out; omega))
  rw [HD.out] at HDC
  clear hb1 hv1 hg1 HO0 HR0 HB0 hz0 HD
  go_wp2_with fail
  refine HDC.out.mono ?_
  rintro e w2 ⟨rfl, hb⟩
  obtain ⟨X, hX⟩ : ∃ X : Obj, X = .cells #[.int .i64 x0, .int .i64 x1, .int .i64 x2] 37 := ⟨_, rfl⟩
  have hb2 := HB1.out.trans (hb.mono HB1.out.size)
  have hb3 := hb2.alloc hb2.size X
  have hx3 : KBox (w2.alloc X) w2.heap.size x0 x1 x2 := by rw [hX]; exact KBox.new w2 _ _ _
  have hr3 := HR.out.keep hb3
  have HRC := Lib.hid (rtdec_any _ l (w2.alloc X) (hr3.upY hb3.size) (by have := HL.out; omega))
  rw [HRD.out] at HRC
  have HX3 := Lib.hid hx3
  have HB3 := Lib.hid hb3
  rw [hX] at HRC HX3 HB3
  clear hb hX hb2 hb3 hx3 hr3 HDC HB1 HR1 HRD
  go_wp2_with fail
  refine HRC.out.mono ?_
  rintro e w4 ⟨rfl, hb⟩
  obtain ⟨X, hX⟩ : ∃ X : Obj, X = .cells #[.int .i64 x0, .int .i64 x1, .int .i64 x2] 37 := ⟨_, rfl⟩
  have hb4 := HB3.out.trans (hb.mono HB3.out.size)
  have hb5 := hb4.alloc hb4.size X
  have hx5 := (HX3.out.keep hb HX3.out.lt).alloc X
  have hy5 : KBox (w4.alloc X) w4.heap.size x0 x1 x2 := by rw [hX]; exact KBox.new w4 _ _ _
  have HB5 := Lib.hid hb5
  have HX5 := Lib.hid hx5
  have HY5 := Lib.hid hy5
  rw [hX] at HB5 HX5 HY5
  clear hb hX hb4 hb5 hx5 hy5 HRC HX3 HB3
  go_wp2_with fail
  refine (lives18_any _).mono ?_
  rintro e w6 ⟨rfl, hb⟩
  have HX6 := Lib.hid (HX5.out.keep hb HX5.out.lt)
  have HY6 := Lib.hid (HY5.out.keep hb HY5.out.lt)
  have HB6 := Lib.hid (HB5.out.trans (hb.mono HB5.out.size))
  have c0 := HX6.out.g0
  have c1 := HX6.out.g1
  have c2 := HX6.out.g2
  have d0 := HY6.out.g0
  have d1 := HY6.out.g1
  have d2 := HY6.out.g2
  clear hb HX5 HY5 HB5
  go_wp2_with fail
  go_ret
  exact ⟨by first | rfl | simp, HB6.out⟩
set_option maxHeartbeats 8000000 in
set_option maxRecDepth 100000 in
theorem walk_false (A : Option Addr) (cap : Nat) (l : List UInt8) (w : World) (hr : Rd w w.heap.size (.slice A l.length cap) l) (hn : l.length ≤ 1000) (hok : okTok l = false) :
    Calls Try.prog 8 #[.slice A l.length cap] w fun e w' => e = .returned (.bool true) ∧ Below w.heap.size w w' := by
  have hd : decTok l = .tuple #[.agg #[.int .i64 0, .int .i64 0, .int .i64 0], .int .i64 180] := by unfold decTok; rw [hok]; rfl
  have hrd : rdecTok l = .tuple #[.agg #[.int .i64 0, .int .i64 0, .int .i64 0], .bool false] := by unfold rdecTok; rw [hok]; rfl
  have HD := Lib.hid hd
  have HRD := Lib.hid hrd
  clear hd hrd
  have HL := Lib.hid hn
  obtain ⟨n, hn2⟩ : ∃ n, n = l.length := ⟨_, rfl⟩
  have HN := Lib.hid hn2
  rw [← hn2] at hr hn ⊢
  have HR := Lib.hid hr
  clear hr hn2 hok
  have hbig : ¬ (1000 : Int) < (n : Int) := by omega
  have hb0 : Below w.heap.size w (w.alloc (.cells #[] 5)) := (Below.refl _ _).alloc (Nat.le_refl _) _
  have HO0 := Lib.hid (show OwnB (w.alloc (.cells #[] 5)) w.heap.size (.slice (some ⟨w.heap.size, 0, none⟩) 0 0) [] from own_lit w [] (by decide))
  have HR0 := Lib.hid (HR.out.keep hb0)
  have HB0 := Lib.hid hb0
  have hz0 := hb0.size
  clear hb0
  go_enter Try.func8, Try.ntmps8
  go_wp2_with (at_builtin; go_must (refine append_bytesY rfl _ _ rfl w.heap.size _ [] rfl HO0.out _ _ l rfl HR0.out hz0 (by have := HL.out; simp only [List.length_nil]; omega) ?_))
  intro v1 w1 hv1 hg1
  have hb1 := below_ownY HB0.out HO0.out hz0 hg1
  have HB1 := Lib.hid hb1
  have HR1 := Lib.hid (HR.out.keep hb1)
  have HDC := Lib.hid (tdec_any v1 l w1 hv1.rdY (by have := HL.out; omega))
  rw [HD.out] at HDC
  clear hb1 hv1 hg1 HO0 HR0 HB0 hz0 HD
  go_wp2_with fail
  refine HDC.out.mono ?_
  rintro e w2 ⟨rfl, hb⟩
  obtain ⟨X, hX⟩ : ∃ X : Obj, X = .cells #[.int .i64 0, .int .i64 0, .int .i64 0] 37 := ⟨_, rfl⟩
  have hb2 := HB1.out.trans (hb.mono HB1.out.size)
  have hb3 := hb2.alloc hb2.size X
  have hx3 : KBox (w2.alloc X) w2.heap.size 0 0 0 := by rw [hX]; exact KBox.new w2 _ _ _
  have hr3 := HR.out.keep hb3
  have HRC := Lib.hid (rtdec_any _ l (w2.alloc X) (hr3.upY hb3.size) (by have := HL.out; omega))
  rw [HRD.out] at HRC
  have HX3 := Lib.hid hx3
  have HB3 := Lib.hid hb3
  rw [hX] at HRC HX3 HB3
  clear hb hX hb2 hb3 hx3 hr3 HDC HB1 HR1 HRD
  go_wp2_with fail
  refine HRC.out.mono ?_
  rintro e w4 ⟨rfl, hb⟩
  obtain ⟨X, hX⟩ : ∃ X : Obj, X = .cells #[.int .i64 0, .int .i64 0, .int .i64 0] 37 := ⟨_, rfl⟩
  have hb4 := HB3.out.trans (hb.mono HB3.out.size)
  have hb5 := hb4.alloc hb4.size X
  have hx5 := (HX3.out.keep hb HX3.out.lt).alloc X
  have hy5 : KBox (w4.alloc X) w4.heap.size 0 0 0 := by rw [hX]; exact KBox.new w4 _ _ _
  have HB5 := Lib.hid hb5
  have HX5 := Lib.hid hx5
  have HY5 := Lib.hid hy5
  rw [hX] at HB5 HX5 HY5
  clear hb hX hb4 hb5 hx5 hy5 HRC HX3 HB3
  go_wp2_with fail
  refine (lives18_any _).mono ?_
  rintro e w6 ⟨rfl, hb⟩
  have HX6 := Lib.hid (HX5.out.keep hb HX5.out.lt)
  have HY6 := Lib.hid (HY5.out.keep hb HY5.out.lt)
  have HB6 := Lib.hid (HB5.out.trans (hb.mono HB5.out.size))
  have c0 := HX6.out.g0
  have c1 := HX6.out.g1
  have c2 := HX6.out.g2
  have d0 := HY6.out.g0
  have d1 := HY6.out.g1
  have d2 := HY6.out.g2
  clear hb HX5 HY5 HB5
  go_wp2_with fail
  go_ret
  exact ⟨by first | rfl | simp, HB6.out⟩
set_option maxHeartbeats 8000000 in
set_option maxRecDepth 100000 in
theorem walk (A : Option Addr) (cap : Nat) (l : List UInt8) (w : World) (hr : Rd w w.heap.size (.slice A l.length cap) l) (hl : l.length ≤ 140737488351232) :
    Calls Try.prog 8 #[.slice A l.length cap] w fun e w' => e = .returned (.bool true) ∧ Below w.heap.size w w' := by
  by_cases hn : l.length ≤ 1000
  · cases hok : okTok l with
    | true => exact walk_true A cap l w hr hn hok
    | false => exact walk_false A cap l w hr hn hok
  · obtain ⟨n, hn2⟩ : ∃ n, n = l.length := ⟨_, rfl⟩
    rw [← hn2] at hn hl ⊢
    have hbig : (1000 : Int) < (n : Int) := by omega
    clear hr hn2
    go_enter Try.func8, Try.ntmps8
    go_wp2_with fail
    refine (lives18_any _).mono ?_
    rintro e v9 ⟨rfl, hb⟩
    have HF := Lib.hid hb
    clear hb
    go_wp2_with fail
    go_ret
    exact ⟨rfl, HF.out⟩

set_option maxRecDepth 100000 in
theorem lifted (os : Os) (started : os.Started) (H : Type) (enc : TypeId × Value → H) :
    ReturnsInHanded {} Try.checked os 8 .any (Rows.tokenDecodesSpec.pre6 enc Try.prog Try.f8 Rows.tokenDecodesRow.domain false) (Rows.tokenDecodesSpec.post enc Try.prog Try.f8 false true false false) := by
  refine returnsInHanded_of_change_sized (C := Try.checked) own started (by kernel_rfl) Try.func8
    (ChangeSpec.witness6 (enc := enc) (C := Try.checked) false ⟨#[], #[.slice none 0 0], []⟩ 8 (by kernel_rfl) (by kernel_rfl) (by kernel_rfl) (by kernel_rfl)) ?_
  intro W base args ds gs before hval0 hW hcnd hsz0 _
  have hval : ∀ (j : Nat) t v, Try.f8.params[j]? = some t → args[j]? = some v → Value.okWide Try.prog W .any base t v := hval0
  have hsz : (DataW.weightsEach Try.prog (Try.f8.params.toList ++ Rows.tokenDecodesSpec.plain.varTypes Try.prog) (ds ++ gs)).all (· ≤ reachBytes) = true := hsz0
  have hW' := hW
  obtain ⟨p, q, hA0, hV, rfl, hfz, hnd⟩ := hW
  have hA : DataW.TrodAll enc Try.prog W 0 (fun _ => true) true Try.f8.params.toList args.toList ds p := hA0
  rw [Try.params8] at hA hval hsz
  obtain ⟨v0, d0, rfl, rfl, h0⟩ := trodAll_one hA
  obtain ⟨rfl, rfl⟩ := trodVars_none hV
  obtain ⟨A0, n0, c0, rfl⟩ := okWide_slice Try.underlying22 (hval 0 22 v0 rfl rfl)
  have k0 := h0
  have lt0 : ∀ x ∈ p, x.block < W.heap.size := by obtain ⟨m, hm⟩ := k0; exact DataW.trod_lt m _ _ _ hm
  clear hA0 hval0
  obtain ⟨l0, hll0, hrd0, hln0⟩ : ∃ l : List UInt8, n0 = l.length ∧ Rd W W.heap.size (.slice A0 l.length c0) l ∧ n0 ≤ 140737488351232 := by
    obtain ⟨fuel, hf⟩ := k0
    obtain ⟨⟨l, hll, hrd⟩, hshape⟩ := open_bytes hf
    refine ⟨l, hll, hrd, ?_⟩
    rcases hshape with h0 | ⟨es, rs, hd, hes⟩
    · omega
    · simp only [] at hd
      subst hd
      have h3 := sized_slice hsz (j := 0) (t := 22) (e := 5) rfl rfl Try.underlying22
      have hb : Try.prog.bytesOf 5 = 1 := by kernel_rfl
      rw [hb] at h3
      simp only [reachBytes] at h3
      omega
  subst hll0
  refine (walk A0 c0 l0 W hrd0 hln0).mono fun e W' ⟨he, bel⟩ => ?_
  subst he
  exact ⟨_, rfl, _, _, _, [], _, [], hW', trodAll_mk1 (shut_bool Try.underlying4 _), trodAll_mk1 (Below.trod laidOut (by kernel_rfl) (of_decide_eq_true (by kernel_rfl)) k0 bel lt0), rfl, bel.frame _, fun h => by cases h⟩

/-- The statement. -/
theorem proved : Rows.TokenDecodesSaid :=
  OpenClaim.holds_of_wide 8 Try.f8 rfl rfl rfl rfl rfl rfl rfl ⟨rfl, rfl, rfl, rfl, rfl⟩ rfl rfl rfl rfl rfl (by kernel_rfl) Try.func8 (by kernel_rfl)
    (of_decide_eq_true (by kernel_rfl)) (by unfold Func.isWrapper; first | (rw [if_pos (by decide +kernel)]; kernel_rfl) | (rw [if_neg (by decide +kernel)]; exact ⟨rfl, rfl⟩))
    (fun os started H enc _ => lifted os started H enc)

end Go.Proofs.Ytlhkcpfjnhbocaa.TDecodes
