/- Any value set at any path is as the document says; it lies there; a second time nothing changes. No conditions. -/
import Derived.Test.YtlddhpjokiphfaaKTlA
import Derived.Test.YtlddhpjokiphfaaKTuE
import Derived.SizedLaws
import Derived.ProofKit
import Derived.OpenShut
import Derived.ShutString
import Derived.ChangeOld
import Derived.Below
import Derived.Deep.Slices
namespace Go.Proofs.Ytlddhpjokiphfaa.TSets
set_option linter.unusedVariables false
set_option linter.unusedSimpArgs false
open Go.ChangeShapes Go.WideShapes Go.ChangeAt Go.RowKit Go.Joins Go.Deep
open Go.ChangeMaps (open_string shut_string)
set_option linter.unusedVariables false

theorem own : ownKnob Try.prog.godebug = none := by kernel_rfl
theorem laidOut : laidOutB Try.prog = true := by kernel_rfl
set_option maxHeartbeats 16000000 in
set_option maxRecDepth 100000 in
theorem walk (t tx : VT) (v vx : Value) (A : Option Addr) (c : Nat) (p : List ByteArray) (w : World) (h : LV w (fun b => b < w.heap.size) t v) (hx : LV w (fun b => b < w.heap.size) tx vx) (hp : StrsAt w (fun b => b < w.heap.size) A p) (hpc : p.length ≤ c) (h63 : c ≤ 9223372036854775807) (hn : p.length ≤ 8796093021952) :
    Calls Try.prog 4 #[v, .slice A p.length c, vx] w fun e w' => e = .returned (.bool true) ∧ Below w.heap.size w w' := by
  obtain ⟨A0, c0, A0', c0', B0, d0, B0', d0', rfl, rfl, -, -, -, -, -, hV, hX, hb0⟩ := two_vars (fun _ h => h) h hx
  have HP := Lib.hid hp
  have hn2 : p.length ≤ 140737488351232 := by omega
  have HB2 := Lib.hid hb0
  have HL := Lib.hid (large5_any _ t _ A c p.length _ hV.s hV.v hn2)
  clear h hx hp hb0
  have y0 := hV.x.c0
  have y1 := hV.x.c1
  have y2 := hV.x.c2
  have y3 := hV.x.c3
  have y4 := hV.x.c4
  have yl := hV.x.lt
  go_enter Try.func4, Try.ntmps4
  go_wp2_with fail
  refine HL.out.mono ?_
  rintro e u3 ⟨rfl, hb⟩
  replace hV := hV.call hb
  replace hX := hX.call hb
  replace HB2 := Lib.hid (toStart HB2.out hb)
  clear hb HL
  clear y0 y1 y2 y3 y4
  clear yl
  cases hlg : large5 t p.length with
  | true =>
    clear hlg
    go_wp2_with fail
    refine (lives5_any _).mono ?_
    rintro e w9 ⟨rfl, hb⟩
    have HB9 := Lib.hid (toStart HB2.out hb)
    clear hb
    go_wp2_with fail
    go_ret
    exact ⟨rfl, HB9.out⟩

  | false =>
  have hlt : largeT t = false := by
    unfold large5 at hlg
    rw [Bool.or_eq_false_iff] at hlg
    exact hlg.1
  have HD := Lib.hid (dep_ok hlt)
  have HD1 := Lib.hid (Nat.le_trans (depth_small hlt) (by decide : 41 ≤ 1000))
  have HS := Lib.hid (small_of hlt)
  have HL3 := Lib.hid (lens_of hlt)
  clear hlg hlt
  have HL := Lib.hid (hX.large rfl)
  have z0 := hX.x.c0
  have z1 := hX.x.c1
  have z2 := hX.x.c2
  have z3 := hX.x.c3
  have z4 := hX.x.c4
  have zl := hX.x.lt
  go_wp2_with fail
  refine HL.out.mono ?_
  rintro e u4 ⟨rfl, hb⟩
  replace hV := hV.call hb
  replace hX := hX.call hb
  replace HB2 := Lib.hid (toStart HB2.out hb)
  clear hb HL
  clear z0 z1 z2 z3 z4
  clear zl
  cases hlg : largeT tx with
  | true =>
    clear hlg
    go_wp2_with fail
    refine (lives5_any _).mono ?_
    rintro e w9 ⟨rfl, hb⟩
    have HB9 := Lib.hid (toStart HB2.out hb)
    clear hb
    go_wp2_with fail
    go_ret
    exact ⟨rfl, HB9.out⟩

  | false =>
  have HDX := Lib.hid (dep_ok hlg)
  have HDX1 := Lib.hid (Nat.le_trans (depth_small hlg) (by decide : 41 ≤ 1000))
  have HLX := Lib.hid (lens_of hlg)
  clear hlg
  have HL := Lib.hid (rclone_any (fun b => b < u4.heap.size) t _ u4 (fun _ h => h) (hV.v.imp hV.s))
  have y0 := hV.x.c0
  have y1 := hV.x.c1
  have y2 := hV.x.c2
  have y3 := hV.x.c3
  have y4 := hV.x.c4
  have yl := hV.x.lt
  go_wp2_with fail
  refine HL.out.mono ?_
  rintro e u5 ⟨vb, rfl, hov, hb⟩
  have hv := hov.lv
  obtain ⟨E, e1, E', e2, rfl, -⟩ := hv.shape
  clear hov
  replace hV := hV.call hb
  replace hX := hX.call hb
  replace HB2 := Lib.hid (toStart HB2.out hb)
  clear y0 y1 y2 y3 y4
  clear yl
  clear HL
  have z0 := hX.x.c0
  have z1 := hX.x.c1
  have z2 := hX.x.c2
  have z3 := hX.x.c3
  have z4 := hX.x.c4
  have zl := hX.x.lt
  go_wp2_with fail
  clear z0 z1 z2 z3 z4
  clear zl
  have hbn := below_box (w := u5) (.cells #[.int .i64 t.kind, .int .i64 t.num, .string t.text, .slice E t.items.length e1, .slice E' t.names.length e2] 25)
  have hO : Vr (u5.alloc (.cells #[.int .i64 t.kind, .int .i64 t.num, .string t.text, .slice E t.items.length e1, .slice E' t.names.length e2] 25)) _ u5.heap.size t E e1 E' e2 := Vr.new (fun b hb => hb.2) hv
  replace hV := hV.call hbn
  replace hX := hX.call hbn
  replace HB2 := Lib.hid (toStart HB2.out hbn)
  have hzb : (u5.alloc (.cells #[.int .i64 t.kind, .int .i64 t.num, .string t.text, .slice E t.items.length e1, .slice E' t.names.length e2] 25)).heap.size = u5.heap.size + 1 := by simp
  clear hbn hv hb
  generalize u5.alloc (.cells #[.int .i64 t.kind, .int .i64 t.num, .string t.text, .slice E t.items.length e1, .slice E' t.names.length e2] 25) = u6 at *
  clear hzb
  generalize hgu5 : u5.heap.size = gu5 at *
  clear hgu5
  cases hmx : mayT tx with
  | false =>
    obtain ⟨RN, hRN⟩ : ∃ R, R = nilT := ⟨_, rfl⟩
    have hk0 : RN.kind = 0 := by rw [hRN]; rfl
    have HK0 := Lib.hid hk0
    have hch0 : (if mayT tx = true then changeT (setFin tx) t p else (20, nilT)) = (20, RN) := by rw [hmx, hRN]; rfl
    have HCH := Lib.hid hch0
    have HMX := Lib.hid hmx
    clear hRN hk0 hch0 hmx
    have HL := Lib.hid (tset_any (fun b => b < u6.heap.size) t _ A c p tx _ u6 (fun _ h => h) (hO.v.imp hO.s) HD.out HS.out ((HP.out.keep (w' := u6) fun b hb => HB2.out.block b hb).imp fun b hb => Nat.lt_of_lt_of_le hb HB2.out.size) hn2 hpc h63 (hX.v.imp hX.s) HDX.out)
    refine HL.out.mono ?_
    rintro e u7 hch
    obtain ⟨E, e1, E', e2, rfl, hv, hb⟩ := change_at hch HCH.out
    clear hch
    replace hV := hV.call hb
    replace hX := hX.call hb
    replace hO := hO.call hb
    replace HB2 := Lib.hid (toStart HB2.out hb)
    clear HL
    go_wp2_with fail
    have hbn := below_box (w := u7) (.cells #[.int .i64 RN.kind, .int .i64 RN.num, .string RN.text, .slice E RN.items.length e1, .slice E' RN.names.length e2] 25)
    have hW : Vr (u7.alloc (.cells #[.int .i64 RN.kind, .int .i64 RN.num, .string RN.text, .slice E RN.items.length e1, .slice E' RN.names.length e2] 25)) _ u7.heap.size RN E e1 E' e2 := Vr.new (fun b hb => hb.2) hv
    replace hV := hV.call hbn
    replace hX := hX.call hbn
    replace hO := hO.call hbn
    replace HB2 := Lib.hid (toStart HB2.out hbn)
    have hzb : (u7.alloc (.cells #[.int .i64 RN.kind, .int .i64 RN.num, .string RN.text, .slice E RN.items.length e1, .slice E' RN.names.length e2] 25)).heap.size = u7.heap.size + 1 := by simp
    clear hbn hv hb
    generalize u7.alloc (.cells #[.int .i64 RN.kind, .int .i64 RN.num, .string RN.text, .slice E RN.items.length e1, .slice E' RN.names.length e2] 25) = u8 at *
    clear hzb
    generalize hgu7 : u7.heap.size = gu7 at *
    clear hgu7
    have HL := Lib.hid (lives5_any u8)
    refine HL.out.mono ?_
    rintro e u9 ⟨rfl, hb⟩
    replace hV := hV.call hb
    replace hX := hX.call hb
    replace hO := hO.call hb
    replace hW := hW.call hb
    replace HB2 := Lib.hid (toStart HB2.out hb)
    clear hb HL
    have y0 := hO.x.c0
    have y1 := hO.x.c1
    have y2 := hO.x.c2
    have y3 := hO.x.c3
    have y4 := hO.x.c4
    have yl := hO.x.lt
    have z0 := hV.x.c0
    have z1 := hV.x.c1
    have z2 := hV.x.c2
    have z3 := hV.x.c3
    have z4 := hV.x.c4
    have zl := hV.x.lt
    go_wp2_with fail
    clear y0 y1 y2 y3 y4
    clear yl
    clear z0 z1 z2 z3 z4
    clear zl
    have HL := Lib.hid (rsame_any (fun b => b < u9.heap.size) _ _ _ _ _ u9 (Nat.le_refl _) (fun _ h => h) (hO.v.imp hO.s) (hV.v.imp hV.s))
    refine HL.out.mono ?_
    rintro e u10 ⟨⟨r, rfl, hr⟩, hb⟩
    obtain rfl := hr.2 rfl
    clear hr
    replace hV := hV.call hb
    replace hX := hX.call hb
    replace hO := hO.call hb
    replace hW := hW.call hb
    replace HB2 := Lib.hid (toStart HB2.out hb)
    clear hb HL
    have HL := Lib.hid (wrong_any (fun b => b < u10.heap.size) t _ A c p u10 (fun _ h => h) (hV.v.imp hV.s) ((HP.out.keep (w' := u10) fun b hb => HB2.out.block b hb).imp fun b hb => Nat.lt_of_lt_of_le hb HB2.out.size) hn2)
    have y0 := hV.x.c0
    have y1 := hV.x.c1
    have y2 := hV.x.c2
    have y3 := hV.x.c3
    have y4 := hV.x.c4
    have yl := hV.x.lt
    go_wp2_with fail
    refine HL.out.mono ?_
    rintro e u11 ⟨rfl, hb⟩
    replace hV := hV.call hb
    replace hX := hX.call hb
    replace hO := hO.call hb
    replace hW := hW.call hb
    replace HB2 := Lib.hid (toStart HB2.out hb)
    clear hb HL
    clear y0 y1 y2 y3 y4
    clear yl
    obtain ⟨W1, hW1⟩ : ∃ W0, W0 = wrongT t p := ⟨_, rfl⟩
    rw [← hW1]
    have HW1 := Lib.hid hW1
    clear hW1
    have HL := Lib.hid (doc_any (fun b => b < u11.heap.size) t _ u11 (fun _ h => h) (hV.v.imp hV.s))
    have y0 := hV.x.c0
    have y1 := hV.x.c1
    have y2 := hV.x.c2
    have y3 := hV.x.c3
    have y4 := hV.x.c4
    have yl := hV.x.lt
    go_wp2_with fail
    refine HL.out.mono ?_
    rintro e u12 ⟨rfl, hb⟩
    replace hV := hV.call hb
    replace hX := hX.call hb
    replace hO := hO.call hb
    replace hW := hW.call hb
    replace HB2 := Lib.hid (toStart HB2.out hb)
    clear hb HL
    clear y0 y1 y2 y3 y4
    clear yl
    cases hd : docB t with
    | false =>
      have hw20 : W1 = 20 := by rw [HW1.out]; unfold wrongT; rw [hd]; rfl
      subst hw20
      clear hd
      have y0 := hW.x.c0
      rw [HK0.out] at y0
      go_wp2_with fail
      go_ret
      exact ⟨by simp, HB2.out⟩

    | true =>
    clear hd
    have HL := Lib.hid (rmay_any (fun b => b < u12.heap.size) _ tx _ u12 (Nat.le_refl _) (fun _ h => h) (hX.v.imp hX.s))
    have z0 := hX.x.c0
    have z1 := hX.x.c1
    have z2 := hX.x.c2
    have z3 := hX.x.c3
    have z4 := hX.x.c4
    have zl := hX.x.lt
    go_wp2_with fail
    refine HL.out.mono ?_
    rintro e u13 ⟨rfl, hb⟩
    replace hV := hV.call hb
    replace hX := hX.call hb
    replace hO := hO.call hb
    replace hW := hW.call hb
    replace HB2 := Lib.hid (toStart HB2.out hb)
    clear hb HL
    clear z0 z1 z2 z3 z4
    clear zl
    rw [HMX.out]
    have y0 := hW.x.c0
    rw [HK0.out] at y0
    go_wp2_with fail
    go_ret
    exact ⟨by simp, HB2.out⟩

  | true =>
  have HMX := Lib.hid hmx
  clear hmx
  by_cases hw : wrongT t p = 0
  rotate_left
  · obtain ⟨RN, hRN⟩ : ∃ R, R = nilT := ⟨_, rfl⟩
    have hk0 : RN.kind = 0 := by rw [hRN]; rfl
    have HK0 := Lib.hid hk0
    obtain ⟨W0, hW0⟩ : ∃ W0, W0 = wrongT t p := ⟨_, rfl⟩
    have hch0 : (if mayT tx = true then changeT (setFin tx) t p else (20, nilT)) = (W0, RN) := by rw [if_pos HMX.out]; unfold changeT; rw [if_neg hw, hRN, hW0]
    have HCH := Lib.hid hch0
    have HW0 := Lib.hid hW0
    rw [← hW0] at hw
    clear hRN hk0 hch0 hW0
    have HL := Lib.hid (tset_any (fun b => b < u6.heap.size) t _ A c p tx _ u6 (fun _ h => h) (hO.v.imp hO.s) HD.out HS.out ((HP.out.keep (w' := u6) fun b hb => HB2.out.block b hb).imp fun b hb => Nat.lt_of_lt_of_le hb HB2.out.size) hn2 hpc h63 (hX.v.imp hX.s) HDX.out)
    refine HL.out.mono ?_
    rintro e u7 hch
    obtain ⟨E, e1, E', e2, rfl, hv, hb⟩ := change_at hch HCH.out
    clear hch
    replace hV := hV.call hb
    replace hX := hX.call hb
    replace hO := hO.call hb
    replace HB2 := Lib.hid (toStart HB2.out hb)
    clear HL
    go_wp2_with fail
    have hbn := below_box (w := u7) (.cells #[.int .i64 RN.kind, .int .i64 RN.num, .string RN.text, .slice E RN.items.length e1, .slice E' RN.names.length e2] 25)
    have hW : Vr (u7.alloc (.cells #[.int .i64 RN.kind, .int .i64 RN.num, .string RN.text, .slice E RN.items.length e1, .slice E' RN.names.length e2] 25)) _ u7.heap.size RN E e1 E' e2 := Vr.new (fun b hb => hb.2) hv
    replace hV := hV.call hbn
    replace hX := hX.call hbn
    replace hO := hO.call hbn
    replace HB2 := Lib.hid (toStart HB2.out hbn)
    have hzb : (u7.alloc (.cells #[.int .i64 RN.kind, .int .i64 RN.num, .string RN.text, .slice E RN.items.length e1, .slice E' RN.names.length e2] 25)).heap.size = u7.heap.size + 1 := by simp
    clear hbn hv hb
    generalize u7.alloc (.cells #[.int .i64 RN.kind, .int .i64 RN.num, .string RN.text, .slice E RN.items.length e1, .slice E' RN.names.length e2] 25) = u8 at *
    clear hzb
    generalize hgu7 : u7.heap.size = gu7 at *
    clear hgu7
    have HL := Lib.hid (lives5_any u8)
    refine HL.out.mono ?_
    rintro e u9 ⟨rfl, hb⟩
    replace hV := hV.call hb
    replace hX := hX.call hb
    replace hO := hO.call hb
    replace hW := hW.call hb
    replace HB2 := Lib.hid (toStart HB2.out hb)
    clear hb HL
    have y0 := hO.x.c0
    have y1 := hO.x.c1
    have y2 := hO.x.c2
    have y3 := hO.x.c3
    have y4 := hO.x.c4
    have yl := hO.x.lt
    have z0 := hV.x.c0
    have z1 := hV.x.c1
    have z2 := hV.x.c2
    have z3 := hV.x.c3
    have z4 := hV.x.c4
    have zl := hV.x.lt
    go_wp2_with fail
    clear y0 y1 y2 y3 y4
    clear yl
    clear z0 z1 z2 z3 z4
    clear zl
    have HL := Lib.hid (rsame_any (fun b => b < u9.heap.size) _ _ _ _ _ u9 (Nat.le_refl _) (fun _ h => h) (hO.v.imp hO.s) (hV.v.imp hV.s))
    refine HL.out.mono ?_
    rintro e u10 ⟨⟨r, rfl, hr⟩, hb⟩
    obtain rfl := hr.2 rfl
    clear hr
    replace hV := hV.call hb
    replace hX := hX.call hb
    replace hO := hO.call hb
    replace hW := hW.call hb
    replace HB2 := Lib.hid (toStart HB2.out hb)
    clear hb HL
    have HL := Lib.hid (wrong_any (fun b => b < u10.heap.size) t _ A c p u10 (fun _ h => h) (hV.v.imp hV.s) ((HP.out.keep (w' := u10) fun b hb => HB2.out.block b hb).imp fun b hb => Nat.lt_of_lt_of_le hb HB2.out.size) hn2)
    have y0 := hV.x.c0
    have y1 := hV.x.c1
    have y2 := hV.x.c2
    have y3 := hV.x.c3
    have y4 := hV.x.c4
    have yl := hV.x.lt
    go_wp2_with fail
    refine HL.out.mono ?_
    rintro e u11 ⟨rfl, hb⟩
    replace hV := hV.call hb
    replace hX := hX.call hb
    replace hO := hO.call hb
    replace hW := hW.call hb
    replace HB2 := Lib.hid (toStart HB2.out hb)
    clear hb HL
    clear y0 y1 y2 y3 y4
    clear yl
    rw [← HW0.out]
    have HL := Lib.hid (doc_any (fun b => b < u11.heap.size) t _ u11 (fun _ h => h) (hV.v.imp hV.s))
    have y0 := hV.x.c0
    have y1 := hV.x.c1
    have y2 := hV.x.c2
    have y3 := hV.x.c3
    have y4 := hV.x.c4
    have yl := hV.x.lt
    go_wp2_with fail
    refine HL.out.mono ?_
    rintro e u12 ⟨rfl, hb⟩
    replace hV := hV.call hb
    replace hX := hX.call hb
    replace hO := hO.call hb
    replace hW := hW.call hb
    replace HB2 := Lib.hid (toStart HB2.out hb)
    clear hb HL
    clear y0 y1 y2 y3 y4
    clear yl
    have hbne : (W0 == 0) = false := beq_false_of_ne hw
    have hbn2 : (W0 != 0) = true := by rw [bne, hbne]; rfl
    cases hd : docB t with
    | false =>
      clear hd
      have y0 := hW.x.c0
      rw [HK0.out] at y0
      go_wp2_with fail
      go_ret
      exact ⟨by simp, HB2.out⟩

    | true =>
    clear hd
    have HL := Lib.hid (rmay_any (fun b => b < u12.heap.size) _ tx _ u12 (Nat.le_refl _) (fun _ h => h) (hX.v.imp hX.s))
    have z0 := hX.x.c0
    have z1 := hX.x.c1
    have z2 := hX.x.c2
    have z3 := hX.x.c3
    have z4 := hX.x.c4
    have zl := hX.x.lt
    go_wp2_with fail
    refine HL.out.mono ?_
    rintro e u13 ⟨rfl, hb⟩
    replace hV := hV.call hb
    replace hX := hX.call hb
    replace hO := hO.call hb
    replace hW := hW.call hb
    replace HB2 := Lib.hid (toStart HB2.out hb)
    clear hb HL
    clear z0 z1 z2 z3 z4
    clear zl
    rw [HMX.out]
    have y0 := hW.x.c0
    rw [HK0.out] at y0
    go_wp2_with fail
    go_ret
    exact ⟨by simp, HB2.out⟩

  have HW := Lib.hid hw
  have hdoc : docB t = true := by
    obtain ⟨q1, q2, -⟩ := wrong_zero hw.symm
    unfold docB
    rw [q1, decide_eq_true q2]; rfl
  have HDC := Lib.hid hdoc
  obtain ⟨hm, -, hp8⟩ := wrong_zero hw.symm
  have HM := Lib.hid hm
  have HP8 := Lib.hid (mayP_len hp8)
  rcases set_facts hw HMX.out HL3.out HLX.out with ⟨hc, hso⟩ | ⟨R, hc, hso, hg, hc2, hsm, hdp⟩
  · obtain ⟨RN, hRN⟩ : ∃ R, R = nilT := ⟨_, rfl⟩
    have hk0 : RN.kind = 0 := by rw [hRN]; rfl
    have HK0 := Lib.hid hk0
    have hch0 : (if mayT tx = true then changeT (setFin tx) t p else (20, nilT)) = (40, RN) := by rw [hRN]; exact hc
    have HCH := Lib.hid hch0
    have HSO := Lib.hid hso
    clear hRN hk0 hch0 hc hso hw hdoc hm hp8
    have HL := Lib.hid (tset_any (fun b => b < u6.heap.size) t _ A c p tx _ u6 (fun _ h => h) (hO.v.imp hO.s) HD.out HS.out ((HP.out.keep (w' := u6) fun b hb => HB2.out.block b hb).imp fun b hb => Nat.lt_of_lt_of_le hb HB2.out.size) hn2 hpc h63 (hX.v.imp hX.s) HDX.out)
    refine HL.out.mono ?_
    rintro e u7 hch
    obtain ⟨E, e1, E', e2, rfl, hv, hb⟩ := change_at hch HCH.out
    clear hch
    replace hV := hV.call hb
    replace hX := hX.call hb
    replace hO := hO.call hb
    replace HB2 := Lib.hid (toStart HB2.out hb)
    clear HL
    go_wp2_with fail
    have hbn := below_box (w := u7) (.cells #[.int .i64 RN.kind, .int .i64 RN.num, .string RN.text, .slice E RN.items.length e1, .slice E' RN.names.length e2] 25)
    have hW : Vr (u7.alloc (.cells #[.int .i64 RN.kind, .int .i64 RN.num, .string RN.text, .slice E RN.items.length e1, .slice E' RN.names.length e2] 25)) _ u7.heap.size RN E e1 E' e2 := Vr.new (fun b hb => hb.2) hv
    replace hV := hV.call hbn
    replace hX := hX.call hbn
    replace hO := hO.call hbn
    replace HB2 := Lib.hid (toStart HB2.out hbn)
    have hzb : (u7.alloc (.cells #[.int .i64 RN.kind, .int .i64 RN.num, .string RN.text, .slice E RN.items.length e1, .slice E' RN.names.length e2] 25)).heap.size = u7.heap.size + 1 := by simp
    clear hbn hv hb
    generalize u7.alloc (.cells #[.int .i64 RN.kind, .int .i64 RN.num, .string RN.text, .slice E RN.items.length e1, .slice E' RN.names.length e2] 25) = u8 at *
    clear hzb
    generalize hgu7 : u7.heap.size = gu7 at *
    clear hgu7
    have HL := Lib.hid (lives5_any u8)
    refine HL.out.mono ?_
    rintro e u9 ⟨rfl, hb⟩
    replace hV := hV.call hb
    replace hX := hX.call hb
    replace hO := hO.call hb
    replace hW := hW.call hb
    replace HB2 := Lib.hid (toStart HB2.out hb)
    clear hb HL
    have y0 := hO.x.c0
    have y1 := hO.x.c1
    have y2 := hO.x.c2
    have y3 := hO.x.c3
    have y4 := hO.x.c4
    have yl := hO.x.lt
    have z0 := hV.x.c0
    have z1 := hV.x.c1
    have z2 := hV.x.c2
    have z3 := hV.x.c3
    have z4 := hV.x.c4
    have zl := hV.x.lt
    go_wp2_with fail
    clear y0 y1 y2 y3 y4
    clear yl
    clear z0 z1 z2 z3 z4
    clear zl
    have HL := Lib.hid (rsame_any (fun b => b < u9.heap.size) _ _ _ _ _ u9 (Nat.le_refl _) (fun _ h => h) (hO.v.imp hO.s) (hV.v.imp hV.s))
    refine HL.out.mono ?_
    rintro e u10 ⟨⟨r, rfl, hr⟩, hb⟩
    obtain rfl := hr.2 rfl
    clear hr
    replace hV := hV.call hb
    replace hX := hX.call hb
    replace hO := hO.call hb
    replace hW := hW.call hb
    replace HB2 := Lib.hid (toStart HB2.out hb)
    clear hb HL
    have HL := Lib.hid (wrong_any (fun b => b < u10.heap.size) t _ A c p u10 (fun _ h => h) (hV.v.imp hV.s) ((HP.out.keep (w' := u10) fun b hb => HB2.out.block b hb).imp fun b hb => Nat.lt_of_lt_of_le hb HB2.out.size) hn2)
    have y0 := hV.x.c0
    have y1 := hV.x.c1
    have y2 := hV.x.c2
    have y3 := hV.x.c3
    have y4 := hV.x.c4
    have yl := hV.x.lt
    go_wp2_with fail
    refine HL.out.mono ?_
    rintro e u11 ⟨rfl, hb⟩
    replace hV := hV.call hb
    replace hX := hX.call hb
    replace hO := hO.call hb
    replace hW := hW.call hb
    replace HB2 := Lib.hid (toStart HB2.out hb)
    clear hb HL
    clear y0 y1 y2 y3 y4
    clear yl
    rw [HW.out]
    have HL := Lib.hid (doc_any (fun b => b < u11.heap.size) t _ u11 (fun _ h => h) (hV.v.imp hV.s))
    have y0 := hV.x.c0
    have y1 := hV.x.c1
    have y2 := hV.x.c2
    have y3 := hV.x.c3
    have y4 := hV.x.c4
    have yl := hV.x.lt
    go_wp2_with fail
    refine HL.out.mono ?_
    rintro e u12 ⟨rfl, hb⟩
    replace hV := hV.call hb
    replace hX := hX.call hb
    replace hO := hO.call hb
    replace hW := hW.call hb
    replace HB2 := Lib.hid (toStart HB2.out hb)
    clear hb HL
    clear y0 y1 y2 y3 y4
    clear yl
    rw [HDC.out]
    have HL := Lib.hid (rmay_any (fun b => b < u12.heap.size) _ tx _ u12 (Nat.le_refl _) (fun _ h => h) (hX.v.imp hX.s))
    have z0 := hX.x.c0
    have z1 := hX.x.c1
    have z2 := hX.x.c2
    have z3 := hX.x.c3
    have z4 := hX.x.c4
    have zl := hX.x.lt
    go_wp2_with fail
    refine HL.out.mono ?_
    rintro e u13 ⟨rfl, hb⟩
    replace hV := hV.call hb
    replace hX := hX.call hb
    replace hO := hO.call hb
    replace hW := hW.call hb
    replace HB2 := Lib.hid (toStart HB2.out hb)
    clear hb HL
    clear z0 z1 z2 z3 z4
    clear zl
    rw [HMX.out]
    have HL := Lib.hid (rset_any p (fun b => b < u13.heap.size) t tx _ _ A c u13 (fun _ h => h) (hV.v.imp hV.s) (hX.v.imp hX.s) HM.out HS.out ((HP.out.keep (w' := u13) fun b hb => HB2.out.block b hb).imp fun b hb => Nat.lt_of_lt_of_le hb HB2.out.size) hpc h63 hn2)
    have y0 := hV.x.c0
    have y1 := hV.x.c1
    have y2 := hV.x.c2
    have y3 := hV.x.c3
    have y4 := hV.x.c4
    have yl := hV.x.lt
    have z0 := hX.x.c0
    have z1 := hX.x.c1
    have z2 := hX.x.c2
    have z3 := hX.x.c3
    have z4 := hX.x.c4
    have zl := hX.x.lt
    go_wp2_with fail
    refine HL.out.mono ?_
    rintro e u14 ⟨vs, rfl, hv, hb⟩
    obtain ⟨E, e1, E', e2, rfl, -⟩ := hv.shape
    rw [HSO.out]
    obtain ⟨U, hU⟩ : ∃ U, U = (setO tx t p).1 := ⟨_, rfl⟩
    rw [← hU] at hv ⊢
    clear hU
    replace hv := hv.imp (S' := fun b => w.heap.size ≤ w.heap.size ∧ b < u14.heap.size) fun b hb' => ⟨Nat.le_refl _, hb'.elim (fun e => Nat.lt_of_lt_of_le e hb.size) fun e => e.2⟩
    replace hV := hV.call hb
    replace hX := hX.call hb
    replace hO := hO.call hb
    replace hW := hW.call hb
    replace HB2 := Lib.hid (toStart HB2.out hb)
    clear y0 y1 y2 y3 y4
    clear yl
    clear z0 z1 z2 z3 z4
    clear zl
    clear HL
    have hbn := below_box (w := u14) (.cells #[.int .i64 U.kind, .int .i64 U.num, .string U.text, .slice E U.items.length e1, .slice E' U.names.length e2] 25)
    replace hV := hV.call hbn
    replace hX := hX.call hbn
    replace hO := hO.call hbn
    replace hW := hW.call hbn
    replace HB2 := Lib.hid (toStart HB2.out hbn)
    clear hbn hv hb
    have y0 := hW.x.c0
    rw [HK0.out] at y0
    go_wp2_with fail
    go_ret
    exact ⟨by simp, HB2.out⟩

  have HC := Lib.hid hc
  have HSO := Lib.hid hso
  have HG := Lib.hid hg
  have HC2 := Lib.hid hc2
  have HSM := Lib.hid hsm
  have HDR := Lib.hid (Nat.le_trans hdp (by have := HD1.out; have := HDX1.out; have := HP8.out; omega : depthT t + (depthT tx + p.length) ≤ 4611686018427387903))
  clear hc hso hg hc2 hsm hdp hw hdoc hm hp8
  have HL := Lib.hid (tset_any (fun b => b < u6.heap.size) t _ A c p tx _ u6 (fun _ h => h) (hO.v.imp hO.s) HD.out HS.out ((HP.out.keep (w' := u6) fun b hb => HB2.out.block b hb).imp fun b hb => Nat.lt_of_lt_of_le hb HB2.out.size) hn2 hpc h63 (hX.v.imp hX.s) HDX.out)
  refine HL.out.mono ?_
  rintro e u7 hch
  obtain ⟨E, e1, E', e2, rfl, hv, hb⟩ := change_at hch HC.out
  clear hch
  replace hV := hV.call hb
  replace hX := hX.call hb
  replace hO := hO.call hb
  replace HB2 := Lib.hid (toStart HB2.out hb)
  clear HL
  go_wp2_with fail
  have hbn := below_box (w := u7) (.cells #[.int .i64 R.kind, .int .i64 R.num, .string R.text, .slice E R.items.length e1, .slice E' R.names.length e2] 25)
  have hW : Vr (u7.alloc (.cells #[.int .i64 R.kind, .int .i64 R.num, .string R.text, .slice E R.items.length e1, .slice E' R.names.length e2] 25)) _ u7.heap.size R E e1 E' e2 := Vr.new (fun b hb => hb.2) hv
  replace hV := hV.call hbn
  replace hX := hX.call hbn
  replace hO := hO.call hbn
  replace HB2 := Lib.hid (toStart HB2.out hbn)
  have hzb : (u7.alloc (.cells #[.int .i64 R.kind, .int .i64 R.num, .string R.text, .slice E R.items.length e1, .slice E' R.names.length e2] 25)).heap.size = u7.heap.size + 1 := by simp
  clear hbn hv hb
  generalize u7.alloc (.cells #[.int .i64 R.kind, .int .i64 R.num, .string R.text, .slice E R.items.length e1, .slice E' R.names.length e2] 25) = u8 at *
  clear hzb
  generalize hgu7 : u7.heap.size = gu7 at *
  clear hgu7
  have HL := Lib.hid (lives5_any u8)
  refine HL.out.mono ?_
  rintro e u9 ⟨rfl, hb⟩
  replace hV := hV.call hb
  replace hX := hX.call hb
  replace hO := hO.call hb
  replace hW := hW.call hb
  replace HB2 := Lib.hid (toStart HB2.out hb)
  clear hb HL
  have y0 := hO.x.c0
  have y1 := hO.x.c1
  have y2 := hO.x.c2
  have y3 := hO.x.c3
  have y4 := hO.x.c4
  have yl := hO.x.lt
  have z0 := hV.x.c0
  have z1 := hV.x.c1
  have z2 := hV.x.c2
  have z3 := hV.x.c3
  have z4 := hV.x.c4
  have zl := hV.x.lt
  go_wp2_with fail
  clear y0 y1 y2 y3 y4
  clear yl
  clear z0 z1 z2 z3 z4
  clear zl
  have HL := Lib.hid (rsame_any (fun b => b < u9.heap.size) _ _ _ _ _ u9 (Nat.le_refl _) (fun _ h => h) (hO.v.imp hO.s) (hV.v.imp hV.s))
  refine HL.out.mono ?_
  rintro e u10 ⟨⟨r, rfl, hr⟩, hb⟩
  obtain rfl := hr.2 rfl
  clear hr
  replace hV := hV.call hb
  replace hX := hX.call hb
  replace hO := hO.call hb
  replace hW := hW.call hb
  replace HB2 := Lib.hid (toStart HB2.out hb)
  clear hb HL
  have HL := Lib.hid (wrong_any (fun b => b < u10.heap.size) t _ A c p u10 (fun _ h => h) (hV.v.imp hV.s) ((HP.out.keep (w' := u10) fun b hb => HB2.out.block b hb).imp fun b hb => Nat.lt_of_lt_of_le hb HB2.out.size) hn2)
  have y0 := hV.x.c0
  have y1 := hV.x.c1
  have y2 := hV.x.c2
  have y3 := hV.x.c3
  have y4 := hV.x.c4
  have yl := hV.x.lt
  go_wp2_with fail
  refine HL.out.mono ?_
  rintro e u11 ⟨rfl, hb⟩
  replace hV := hV.call hb
  replace hX := hX.call hb
  replace hO := hO.call hb
  replace hW := hW.call hb
  replace HB2 := Lib.hid (toStart HB2.out hb)
  clear hb HL
  clear y0 y1 y2 y3 y4
  clear yl
  rw [HW.out]
  have HL := Lib.hid (doc_any (fun b => b < u11.heap.size) t _ u11 (fun _ h => h) (hV.v.imp hV.s))
  have y0 := hV.x.c0
  have y1 := hV.x.c1
  have y2 := hV.x.c2
  have y3 := hV.x.c3
  have y4 := hV.x.c4
  have yl := hV.x.lt
  go_wp2_with fail
  refine HL.out.mono ?_
  rintro e u12 ⟨rfl, hb⟩
  replace hV := hV.call hb
  replace hX := hX.call hb
  replace hO := hO.call hb
  replace hW := hW.call hb
  replace HB2 := Lib.hid (toStart HB2.out hb)
  clear hb HL
  clear y0 y1 y2 y3 y4
  clear yl
  rw [HDC.out]
  have HL := Lib.hid (rmay_any (fun b => b < u12.heap.size) _ tx _ u12 (Nat.le_refl _) (fun _ h => h) (hX.v.imp hX.s))
  have z0 := hX.x.c0
  have z1 := hX.x.c1
  have z2 := hX.x.c2
  have z3 := hX.x.c3
  have z4 := hX.x.c4
  have zl := hX.x.lt
  go_wp2_with fail
  refine HL.out.mono ?_
  rintro e u13 ⟨rfl, hb⟩
  replace hV := hV.call hb
  replace hX := hX.call hb
  replace hO := hO.call hb
  replace hW := hW.call hb
  replace HB2 := Lib.hid (toStart HB2.out hb)
  clear hb HL
  clear z0 z1 z2 z3 z4
  clear zl
  rw [HMX.out]
  have HL := Lib.hid (rset_any p (fun b => b < u13.heap.size) t tx _ _ A c u13 (fun _ h => h) (hV.v.imp hV.s) (hX.v.imp hX.s) HM.out HS.out ((HP.out.keep (w' := u13) fun b hb => HB2.out.block b hb).imp fun b hb => Nat.lt_of_lt_of_le hb HB2.out.size) hpc h63 hn2)
  have y0 := hV.x.c0
  have y1 := hV.x.c1
  have y2 := hV.x.c2
  have y3 := hV.x.c3
  have y4 := hV.x.c4
  have yl := hV.x.lt
  have z0 := hX.x.c0
  have z1 := hX.x.c1
  have z2 := hX.x.c2
  have z3 := hX.x.c3
  have z4 := hX.x.c4
  have zl := hX.x.lt
  go_wp2_with fail
  refine HL.out.mono ?_
  rintro e u14 ⟨vs, rfl, hv, hb⟩
  obtain ⟨E, e1, E', e2, rfl, -⟩ := hv.shape
  rw [HSO.out] at hv ⊢
  replace hv := hv.imp (S' := fun b => w.heap.size ≤ w.heap.size ∧ b < u14.heap.size) fun b hb' => ⟨Nat.le_refl _, hb'.elim (fun e => Nat.lt_of_lt_of_le e hb.size) fun e => e.2⟩
  replace hV := hV.call hb
  replace hX := hX.call hb
  replace hO := hO.call hb
  replace hW := hW.call hb
  replace HB2 := Lib.hid (toStart HB2.out hb)
  clear y0 y1 y2 y3 y4
  clear yl
  clear z0 z1 z2 z3 z4
  clear zl
  clear HL
  have y0 := hW.x.c0
  have y1 := hW.x.c1
  have y2 := hW.x.c2
  have y3 := hW.x.c3
  have y4 := hW.x.c4
  have yl := hW.x.lt
  go_wp2_with fail
  clear y0 y1 y2 y3 y4
  clear yl
  have hbn := below_box (w := u14) (.cells #[.int .i64 R.kind, .int .i64 R.num, .string R.text, .slice E R.items.length e1, .slice E' R.names.length e2] 25)
  have hU : Vr (u14.alloc (.cells #[.int .i64 R.kind, .int .i64 R.num, .string R.text, .slice E R.items.length e1, .slice E' R.names.length e2] 25)) _ u14.heap.size R E e1 E' e2 := Vr.new (fun b hb => hb.2) hv
  replace hV := hV.call hbn
  replace hX := hX.call hbn
  replace hO := hO.call hbn
  replace hW := hW.call hbn
  replace HB2 := Lib.hid (toStart HB2.out hbn)
  have hzb : (u14.alloc (.cells #[.int .i64 R.kind, .int .i64 R.num, .string R.text, .slice E R.items.length e1, .slice E' R.names.length e2] 25)).heap.size = u14.heap.size + 1 := by simp
  clear hbn hv hb
  generalize u14.alloc (.cells #[.int .i64 R.kind, .int .i64 R.num, .string R.text, .slice E R.items.length e1, .slice E' R.names.length e2] 25) = u15 at *
  clear hzb
  generalize hgu14 : u14.heap.size = gu14 at *
  clear hgu14
  have HL := Lib.hid (tget_any (fun b => b < u15.heap.size) R _ A c p u15 (fun _ h => h) (hW.v.imp hW.s) HDR.out ((HP.out.keep (w' := u15) fun b hb => HB2.out.block b hb).imp fun b hb => Nat.lt_of_lt_of_le hb HB2.out.size) hn2 hpc h63)
  refine HL.out.mono ?_
  rintro e u16 ⟨vg, rfl, hv, hb⟩
  rw [HG.out] at hv ⊢
  replace hv : LV _ _ tx vg := hv
  obtain ⟨E, e1, E', e2, rfl, -⟩ := hv.shape
  replace hv := hv.imp (S' := fun b => w.heap.size ≤ w.heap.size ∧ b < u16.heap.size) fun b hb' => ⟨Nat.le_refl _, hb'.2⟩
  replace hV := hV.call hb
  replace hX := hX.call hb
  replace hO := hO.call hb
  replace hW := hW.call hb
  replace hU := hU.call hb
  replace HB2 := Lib.hid (toStart HB2.out hb)
  clear HL
  have y0 := hW.x.c0
  have y1 := hW.x.c1
  have y2 := hW.x.c2
  have y3 := hW.x.c3
  have y4 := hW.x.c4
  have yl := hW.x.lt
  have z0 := hX.x.c0
  have z1 := hX.x.c1
  have z2 := hX.x.c2
  have z3 := hX.x.c3
  have z4 := hX.x.c4
  have zl := hX.x.lt
  go_wp2_with fail
  clear y0 y1 y2 y3 y4
  clear yl
  clear z0 z1 z2 z3 z4
  clear zl
  have hbn := below_box (w := u16) (.cells #[.int .i64 tx.kind, .int .i64 tx.num, .string tx.text, .slice E tx.items.length e1, .slice E' tx.names.length e2] 25)
  have hZ : Vr (u16.alloc (.cells #[.int .i64 tx.kind, .int .i64 tx.num, .string tx.text, .slice E tx.items.length e1, .slice E' tx.names.length e2] 25)) _ u16.heap.size tx E e1 E' e2 := Vr.new (fun b hb => hb.2) hv
  replace hV := hV.call hbn
  replace hX := hX.call hbn
  replace hO := hO.call hbn
  replace hW := hW.call hbn
  replace hU := hU.call hbn
  replace HB2 := Lib.hid (toStart HB2.out hbn)
  have hzb : (u16.alloc (.cells #[.int .i64 tx.kind, .int .i64 tx.num, .string tx.text, .slice E tx.items.length e1, .slice E' tx.names.length e2] 25)).heap.size = u16.heap.size + 1 := by simp
  clear hbn hv hb
  generalize u16.alloc (.cells #[.int .i64 tx.kind, .int .i64 tx.num, .string tx.text, .slice E tx.items.length e1, .slice E' tx.names.length e2] 25) = u17 at *
  clear hzb
  generalize hgu16 : u16.heap.size = gu16 at *
  clear hgu16
  have HL := Lib.hid (tset_any (fun b => b < u17.heap.size) R _ A c p tx _ u17 (fun _ h => h) (hW.v.imp hW.s) HDR.out HSM.out ((HP.out.keep (w' := u17) fun b hb => HB2.out.block b hb).imp fun b hb => Nat.lt_of_lt_of_le hb HB2.out.size) hn2 hpc h63 (hX.v.imp hX.s) HDX.out)
  refine HL.out.mono ?_
  rintro e u18 hch
  obtain ⟨E, e1, E', e2, rfl, hv, hb⟩ := change_at hch HC2.out
  clear hch
  replace hV := hV.call hb
  replace hX := hX.call hb
  replace hO := hO.call hb
  replace hW := hW.call hb
  replace hU := hU.call hb
  replace hZ := hZ.call hb
  replace HB2 := Lib.hid (toStart HB2.out hb)
  clear HL
  have y0 := hW.x.c0
  have y1 := hW.x.c1
  have y2 := hW.x.c2
  have y3 := hW.x.c3
  have y4 := hW.x.c4
  have yl := hW.x.lt
  have z0 := hU.x.c0
  have z1 := hU.x.c1
  have z2 := hU.x.c2
  have z3 := hU.x.c3
  have z4 := hU.x.c4
  have zl := hU.x.lt
  go_wp2_with fail
  clear y0 y1 y2 y3 y4
  clear yl
  clear z0 z1 z2 z3 z4
  clear zl
  have hbn := below_box (w := u18) (.cells #[.int .i64 R.kind, .int .i64 R.num, .string R.text, .slice E R.items.length e1, .slice E' R.names.length e2] 25)
  have hT : Vr (u18.alloc (.cells #[.int .i64 R.kind, .int .i64 R.num, .string R.text, .slice E R.items.length e1, .slice E' R.names.length e2] 25)) _ u18.heap.size R E e1 E' e2 := Vr.new (fun b hb => hb.2) hv
  replace hV := hV.call hbn
  replace hX := hX.call hbn
  replace hO := hO.call hbn
  replace hW := hW.call hbn
  replace hU := hU.call hbn
  replace hZ := hZ.call hbn
  replace HB2 := Lib.hid (toStart HB2.out hbn)
  have hzb : (u18.alloc (.cells #[.int .i64 R.kind, .int .i64 R.num, .string R.text, .slice E R.items.length e1, .slice E' R.names.length e2] 25)).heap.size = u18.heap.size + 1 := by simp
  clear hbn hv hb
  generalize u18.alloc (.cells #[.int .i64 R.kind, .int .i64 R.num, .string R.text, .slice E R.items.length e1, .slice E' R.names.length e2] 25) = u19 at *
  clear hzb
  generalize hgu18 : u18.heap.size = gu18 at *
  clear hgu18
  have HL := Lib.hid (rsame_any (fun b => b < u19.heap.size) _ _ _ _ _ u19 (Nat.le_refl _) (fun _ h => h) (hW.v.imp hW.s) (hU.v.imp hU.s))
  refine HL.out.mono ?_
  rintro e u20 ⟨⟨r, rfl, hr⟩, hb⟩
  obtain rfl := hr.2 rfl
  clear hr
  replace hV := hV.call hb
  replace hX := hX.call hb
  replace hO := hO.call hb
  replace hW := hW.call hb
  replace hU := hU.call hb
  replace hZ := hZ.call hb
  replace hT := hT.call hb
  replace HB2 := Lib.hid (toStart HB2.out hb)
  clear hb HL
  have y0 := hZ.x.c0
  have y1 := hZ.x.c1
  have y2 := hZ.x.c2
  have y3 := hZ.x.c3
  have y4 := hZ.x.c4
  have yl := hZ.x.lt
  have z0 := hX.x.c0
  have z1 := hX.x.c1
  have z2 := hX.x.c2
  have z3 := hX.x.c3
  have z4 := hX.x.c4
  have zl := hX.x.lt
  go_wp2_with fail
  clear y0 y1 y2 y3 y4
  clear yl
  clear z0 z1 z2 z3 z4
  clear zl
  have HL := Lib.hid (rsame_any (fun b => b < u20.heap.size) _ _ _ _ _ u20 (Nat.le_refl _) (fun _ h => h) (hZ.v.imp hZ.s) (hX.v.imp hX.s))
  refine HL.out.mono ?_
  rintro e u21 ⟨⟨r, rfl, hr⟩, hb⟩
  obtain rfl := hr.2 rfl
  clear hr
  replace hV := hV.call hb
  replace hX := hX.call hb
  replace hO := hO.call hb
  replace hW := hW.call hb
  replace hU := hU.call hb
  replace hZ := hZ.call hb
  replace hT := hT.call hb
  replace HB2 := Lib.hid (toStart HB2.out hb)
  clear hb HL
  have y0 := hT.x.c0
  have y1 := hT.x.c1
  have y2 := hT.x.c2
  have y3 := hT.x.c3
  have y4 := hT.x.c4
  have yl := hT.x.lt
  have z0 := hW.x.c0
  have z1 := hW.x.c1
  have z2 := hW.x.c2
  have z3 := hW.x.c3
  have z4 := hW.x.c4
  have zl := hW.x.lt
  go_wp2_with fail
  clear y0 y1 y2 y3 y4
  clear yl
  clear z0 z1 z2 z3 z4
  clear zl
  have HL := Lib.hid (rsame_any (fun b => b < u21.heap.size) _ _ _ _ _ u21 (Nat.le_refl _) (fun _ h => h) (hT.v.imp hT.s) (hW.v.imp hW.s))
  refine HL.out.mono ?_
  rintro e u22 ⟨⟨r, rfl, hr⟩, hb⟩
  obtain rfl := hr.2 rfl
  clear hr
  replace hV := hV.call hb
  replace hX := hX.call hb
  replace hO := hO.call hb
  replace hW := hW.call hb
  replace hU := hU.call hb
  replace hZ := hZ.call hb
  replace hT := hT.call hb
  replace HB2 := Lib.hid (toStart HB2.out hb)
  clear hb HL
  go_wp2_with fail
  go_ret
  exact ⟨by simp, HB2.out⟩
set_option maxRecDepth 100000 in
theorem lifted (os : Os) (started : os.Started) (H : Type) (enc : TypeId × Value → H) :
    ReturnsInHanded {} Try.checked os 4 .any (Rows.treeSetsSpec.pre6 enc Try.prog Try.f4 Rows.treeSetsRow.domain false) (Rows.treeSetsSpec.post enc Try.prog Try.f4 false true false false) := by
  refine returnsInHanded_of_change_sized (C := Try.checked) own started (by kernel_rfl) Try.func4
    (ChangeSpec.witness6 (enc := enc) (C := Try.checked) false ⟨#[], #[.agg #[.int .i64 0, .int .i64 0, .string ByteArray.empty, .slice none 0 0, .slice none 0 0], .slice none 0 0, .agg #[.int .i64 0, .int .i64 0, .string ByteArray.empty, .slice none 0 0, .slice none 0 0]], []⟩ 8 (by kernel_rfl) (by kernel_rfl) (by kernel_rfl) (by kernel_rfl)) ?_
  intro W base args ds gs before hval0 hW hcnd hsz0 _
  have hval : ∀ (j : Nat) t v, Try.f4.params[j]? = some t → args[j]? = some v → Value.okWide Try.prog W .any base t v := hval0
  have hsz : (DataW.weightsEach Try.prog (Try.f4.params.toList ++ Rows.treeSetsSpec.plain.varTypes Try.prog) (ds ++ gs)).all (· ≤ reachBytes) = true := hsz0
  have hW' := hW
  obtain ⟨p, q, hA0, hV, rfl, hfz, hnd⟩ := hW
  have hA : DataW.TrodAll enc Try.prog W 0 (fun _ => true) true Try.f4.params.toList args.toList ds p := hA0
  rw [Try.params4] at hA hval hsz
  obtain ⟨v0, v1, v2, d0, d1, d2, p0, p1, p2, rfl, rfl, rfl, h0, h1, h2⟩ := trodAll_three hA
  obtain ⟨rfl, rfl⟩ := trodVars_none hV
  obtain ⟨a0, rfl, -⟩ := okWide_struct Try.underlying25 (hval 0 25 v0 rfl rfl)
  have k0 := h0
  have lt0 : ∀ x ∈ p0, x.block < W.heap.size := by obtain ⟨m, hm⟩ := k0; exact DataW.trod_lt m _ _ _ hm
  have wt0 : ∀ n ∈ d0.weights Try.prog 25, n ≤ reachBytes := fun n hn => by have := List.all_eq_true.1 hsz n (DataW.weights_mem_each (j := 0) rfl rfl n hn); simpa using this
  obtain ⟨A1, n1, c1, rfl⟩ := okWide_slice Try.underlying23 (hval 1 23 v1 rfl rfl)
  have k1 := h1
  have lt1 : ∀ x ∈ p1, x.block < W.heap.size := by obtain ⟨m, hm⟩ := k1; exact DataW.trod_lt m _ _ _ hm
  have wt1 : ∀ n ∈ d1.weights Try.prog 23, n ≤ reachBytes := fun n hn => by have := List.all_eq_true.1 hsz n (DataW.weights_mem_each (j := 1) rfl rfl n hn); simpa using this
  obtain ⟨a2, rfl, -⟩ := okWide_struct Try.underlying25 (hval 2 25 v2 rfl rfl)
  have k2 := h2
  have lt2 : ∀ x ∈ p2, x.block < W.heap.size := by obtain ⟨m, hm⟩ := k2; exact DataW.trod_lt m _ _ _ hm
  have wt2 : ∀ n ∈ d2.weights Try.prog 25, n ≤ reachBytes := fun n hn => by have := List.all_eq_true.1 hsz n (DataW.weights_mem_each (j := 2) rfl rfl n hn); simpa using this
  clear hA0 hval0
  obtain ⟨t0, ht0⟩ : ∃ t, LV W (fun b => b < W.heap.size) t (.agg a0) := by
    obtain ⟨m, hm⟩ := k0
    have h3 := open_val m _ _ hm wt0
    simpa [Value.cells] using h3
  obtain ⟨ys1, hn1, hc1, ho1, hy1, hz1⟩ : ∃ ys : List ByteArray, n1 = ys.length ∧ ys.length ≤ c1 ∧ c1 ≤ 9223372036854775807 ∧ ys.length ≤ 8796093021952 ∧ StrsAt W (fun b => b < W.heap.size) A1 ys := by
    obtain ⟨m, hm⟩ := k1
    obtain ⟨B, e, ys, he, g0, g00, g1, g2⟩ := open_names3 hm wt1
    have he' : [Value.slice A1 n1 c1] = [Value.slice B ys.length e] := he
    simp only [List.cons.injEq, Value.slice.injEq, and_true] at he'
    obtain ⟨rfl, rfl, rfl⟩ := he'
    exact ⟨ys, rfl, g0, g00, g1, g2⟩
  subst hn1
  obtain ⟨t2, ht2⟩ : ∃ t, LV W (fun b => b < W.heap.size) t (.agg a2) := by
    obtain ⟨m, hm⟩ := k2
    have h3 := open_val m _ _ hm wt2
    simpa [Value.cells] using h3
  refine (walk t0 t2 (.agg a0) (.agg a2) A1 c1 ys1 W ht0 ht2 hz1 hc1 ho1 hy1).mono fun e W' ⟨he, bel⟩ => ?_
  subst he
  exact ⟨_, rfl, _, _, _, [], _, [], hW', trodAll_mk1 (shut_bool Try.underlying4 _), (trodAll_cons_mk (Below.trod laidOut (by kernel_rfl) (of_decide_eq_true (by kernel_rfl)) k0 bel lt0) (trodAll_cons_mk (Below.trod laidOut (by kernel_rfl) (of_decide_eq_true (by kernel_rfl)) k1 bel lt1) (trodAll_cons_mk (Below.trod laidOut (by kernel_rfl) (of_decide_eq_true (by kernel_rfl)) k2 bel lt2) trodAll_mk0))), rfl, bel.frame _, fun h => by cases h⟩

/-- The statement. -/
theorem proved : Rows.TreeSetsSaid :=
  OpenClaim.holds_of_wide 4 Try.f4 rfl rfl rfl rfl rfl rfl rfl ⟨rfl, rfl, rfl, rfl, rfl⟩ rfl rfl rfl rfl rfl (by kernel_rfl) Try.func4 (by kernel_rfl)
    (of_decide_eq_true (by kernel_rfl)) (by unfold Func.isWrapper; first | (rw [if_pos (by decide +kernel)]; kernel_rfl) | (rw [if_neg (by decide +kernel)]; exact ⟨rfl, rfl⟩))
    (fun os started H enc _ => lifted os started H enc)
end Go.Proofs.Ytlddhpjokiphfaa.TSets
