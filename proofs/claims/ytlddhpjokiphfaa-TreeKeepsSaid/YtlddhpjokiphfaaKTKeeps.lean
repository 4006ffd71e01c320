/- What lies at a path that does not meet the one that was set, dropped or cut is as before. No conditions. -/
import Derived.Test.YtlddhpjokiphfaaKTlA
import Derived.Test.YtlddhpjokiphfaaKTkM
import Derived.SizedLaws
import Derived.ProofKit
import Derived.OpenShut
import Derived.ShutString
import Derived.ChangeOld
import Derived.Below
import Derived.Deep.Slices
namespace Go.Proofs.Ytlddhpjokiphfaa.TKeeps
set_option linter.unusedVariables false
set_option linter.unusedSimpArgs false
open Go.ChangeShapes Go.WideShapes Go.ChangeAt Go.RowKit Go.Joins Go.Deep
open Go.ChangeMaps (open_string shut_string)
set_option linter.unusedVariables false

theorem own : ownKnob Try.prog.godebug = none := by kernel_rfl
theorem laidOut : laidOutB Try.prog = true := by kernel_rfl
set_option maxHeartbeats 16000000 in
set_option maxRecDepth 100000 in
theorem walk (t tx : VT) (v vx : Value) (A : Option Addr) (c : Nat) (p : List ByteArray) (A2 : Option Addr) (c2 : Nat) (q : List ByteArray) (n : Int) (w : World) (h : LV w (fun b => b < w.heap.size) t v) (hx : LV w (fun b => b < w.heap.size) tx vx) (hp : StrsAt w (fun b => b < w.heap.size) A p) (hq : StrsAt w (fun b => b < w.heap.size) A2 q)
    (hpc : p.length ≤ c) (h63 : c ≤ 9223372036854775807) (hn : p.length ≤ 8796093021952) (hqc : q.length ≤ c2) (h63q : c2 ≤ 9223372036854775807) (hnq : q.length ≤ 8796093021952) (hn64 : -9223372036854775808 ≤ n ∧ n ≤ 9223372036854775807) :
    Calls Try.prog 5 #[v, .slice A p.length c, .slice A2 q.length c2, vx, .int .i64 n] w fun e w' => e = .returned (.bool true) ∧ Below w.heap.size w w' := by
  obtain ⟨A0, c0, A0', c0', B0, d0, B0', d0', rfl, rfl, -, -, -, -, -, hV, hX, hb0⟩ := two_vars (fun _ h => h) h hx
  have HP := Lib.hid hp
  have HQ := Lib.hid hq
  have hn2 : p.length ≤ 140737488351232 := by omega
  have hnq2 : q.length ≤ 140737488351232 := by omega
  have HN := Lib.hid hn64
  have HB2 := Lib.hid hb0
  have HL := Lib.hid (large5_any _ t _ A c p.length _ hV.s hV.v hn2)
  clear h hx hp hq hb0 hn64
  have y0 := hV.x.c0
  have y1 := hV.x.c1
  have y2 := hV.x.c2
  have y3 := hV.x.c3
  have y4 := hV.x.c4
  have yl := hV.x.lt
  have z0 := hX.x.c0
  have z1 := hX.x.c1
  have z2 := hX.x.c2
  have z3 := hX.x.c3
  have z4 := hX.x.c4
  have zl := hX.x.lt
  go_enter Try.func5, Try.ntmps5
  go_wp2_with fail
  refine HL.out.mono ?_
  rintro e u3 ⟨rfl, hb⟩
  replace hV := hV.call hb
  replace hX := hX.call hb
  replace HB2 := Lib.hid (toStart HB2.out hb)
  clear hb HL
  clear y0 y1 y2 y3 y4
  clear yl
  clear z0 z1 z2 z3 z4
  clear zl
  cases hlg : large5 t p.length with
  | true =>
    clear hlg
    go_wp2_with fail
    refine (lives5_any _).mono ?_
    rintro e w9 ⟨rfl, hb⟩
    have HB9 := Lib.hid (toStart HB2.out hb)
    clear hb
    go_wp2_with fail
    go_ret
    exact ⟨rfl, HB9.out⟩

  | false =>
  have hlt : largeT t = false := by
    unfold large5 at hlg
    rw [Bool.or_eq_false_iff] at hlg
    exact hlg.1
  have HD := Lib.hid (dep_ok hlt)
  have HD1 := Lib.hid (Nat.le_trans (depth_small hlt) (by decide : 41 ≤ 1000))
  have HS := Lib.hid (small_of hlt)
  clear hlg hlt
  have HL := Lib.hid (hX.large rfl)
  have z0 := hX.x.c0
  have z1 := hX.x.c1
  have z2 := hX.x.c2
  have z3 := hX.x.c3
  have z4 := hX.x.c4
  have zl := hX.x.lt
  go_wp2_with fail
  refine HL.out.mono ?_
  rintro e u4 ⟨rfl, hb⟩
  replace hV := hV.call hb
  replace hX := hX.call hb
  replace HB2 := Lib.hid (toStart HB2.out hb)
  clear hb HL
  clear z0 z1 z2 z3 z4
  clear zl
  cases hlg : largeT tx with
  | true =>
    clear hlg
    go_wp2_with fail
    refine (lives5_any _).mono ?_
    rintro e w9 ⟨rfl, hb⟩
    have HB9 := Lib.hid (toStart HB2.out hb)
    clear hb
    go_wp2_with fail
    go_ret
    exact ⟨rfl, HB9.out⟩

  | false =>
  have HDX := Lib.hid (dep_ok hlg)
  have HDX1 := Lib.hid (Nat.le_trans (depth_small hlg) (by decide : 41 ≤ 1000))
  clear hlg
  have HL := Lib.hid (wrong_any (fun b => b < u4.heap.size) t _ A c p u4 (fun _ h => h) (hV.v.imp hV.s) ((HP.out.keep (w' := u4) fun b hb => HB2.out.block b hb).imp fun b hb => Nat.lt_of_lt_of_le hb HB2.out.size) hn2)
  have y0 := hV.x.c0
  have y1 := hV.x.c1
  have y2 := hV.x.c2
  have y3 := hV.x.c3
  have y4 := hV.x.c4
  have yl := hV.x.lt
  go_wp2_with fail
  refine HL.out.mono ?_
  rintro e u5 ⟨rfl, hb⟩
  replace hV := hV.call hb
  replace hX := hX.call hb
  replace HB2 := Lib.hid (toStart HB2.out hb)
  clear hb HL
  clear y0 y1 y2 y3 y4
  clear yl
  obtain ⟨W1, hW1⟩ : ∃ W0, W0 = wrongT t p := ⟨_, rfl⟩
  rw [← hW1]
  have HW1 := Lib.hid hW1
  clear hW1
  by_cases h0 : W1 = 0
  rotate_left
  · have hbne : (W1 == 0) = false := beq_false_of_ne h0
    have hbn2 : (W1 != 0) = true := by rw [bne, hbne]; rfl
    go_wp2_with fail
    refine (lives5_any _).mono ?_
    rintro e w9 ⟨rfl, hb⟩
    have HB9 := Lib.hid (toStart HB2.out hb)
    clear hb
    go_wp2_with fail
    go_ret
    exact ⟨rfl, HB9.out⟩

  subst h0
  have HL := Lib.hid (wrong_any (fun b => b < u5.heap.size) t _ A2 c2 q u5 (fun _ h => h) (hV.v.imp hV.s) ((HQ.out.keep (w' := u5) fun b hb => HB2.out.block b hb).imp fun b hb => Nat.lt_of_lt_of_le hb HB2.out.size) hnq2)
  have y0 := hV.x.c0
  have y1 := hV.x.c1
  have y2 := hV.x.c2
  have y3 := hV.x.c3
  have y4 := hV.x.c4
  have yl := hV.x.lt
  go_wp2_with fail
  refine HL.out.mono ?_
  rintro e u6 ⟨rfl, hb⟩
  replace hV := hV.call hb
  replace hX := hX.call hb
  replace HB2 := Lib.hid (toStart HB2.out hb)
  clear hb HL
  clear y0 y1 y2 y3 y4
  clear yl
  obtain ⟨W2, hW2⟩ : ∃ W0, W0 = wrongT t q := ⟨_, rfl⟩
  rw [← hW2]
  have HW2 := Lib.hid hW2
  clear hW2
  by_cases h0 : W2 = 0
  rotate_left
  · have hbne : (W2 == 0) = false := beq_false_of_ne h0
    have hbn2 : (W2 != 0) = true := by rw [bne, hbne]; rfl
    go_wp2_with fail
    refine (lives5_any _).mono ?_
    rintro e w9 ⟨rfl, hb⟩
    have HB9 := Lib.hid (toStart HB2.out hb)
    clear hb
    go_wp2_with fail
    go_ret
    exact ⟨rfl, HB9.out⟩

  subst h0
  have HL := Lib.hid (rmay_any (fun b => b < u6.heap.size) _ tx _ u6 (Nat.le_refl _) (fun _ h => h) (hX.v.imp hX.s))
  have z0 := hX.x.c0
  have z1 := hX.x.c1
  have z2 := hX.x.c2
  have z3 := hX.x.c3
  have z4 := hX.x.c4
  have zl := hX.x.lt
  go_wp2_with fail
  refine HL.out.mono ?_
  rintro e u7 ⟨rfl, hb⟩
  replace hV := hV.call hb
  replace hX := hX.call hb
  replace HB2 := Lib.hid (toStart HB2.out hb)
  clear hb HL
  clear z0 z1 z2 z3 z4
  clear zl
  cases hmx : mayT tx with
  | false =>
    clear hmx
    go_wp2_with fail
    refine (lives5_any _).mono ?_
    rintro e w9 ⟨rfl, hb⟩
    have HB9 := Lib.hid (toStart HB2.out hb)
    clear hb
    go_wp2_with fail
    go_ret
    exact ⟨rfl, HB9.out⟩

  | true =>
  have HMX := Lib.hid hmx
  clear hmx
  by_cases hneg : n < 0
  · have hd : decide (n < 0) = true := decide_eq_true hneg
    go_wp2_with fail
    refine (lives5_any _).mono ?_
    rintro e w9 ⟨rfl, hb⟩
    have HB9 := Lib.hid (toStart HB2.out hb)
    clear hb
    go_wp2_with fail
    go_ret
    exact ⟨rfl, HB9.out⟩

  have hd : decide (n < 0) = false := decide_eq_false hneg
  have HL := Lib.hid (rbegins_any A A2 c c2 p q u7 (fun b => b < w.heap.size) (fun b => b < w.heap.size) (HP.out.keep (w' := u7) fun b hb => HB2.out.block b hb) (HQ.out.keep (w' := u7) fun b hb => HB2.out.block b hb) (fun b hb => Nat.lt_of_lt_of_le hb HB2.out.size) (fun b hb => Nat.lt_of_lt_of_le hb HB2.out.size) hn2 hnq2)
  go_wp2_with fail
  refine HL.out.mono ?_
  rintro e u8 ⟨rfl, hb⟩
  replace hV := hV.call hb
  replace hX := hX.call hb
  replace HB2 := Lib.hid (toStart HB2.out hb)
  clear hb HL
  cases hG1 : begP p q with
  | true =>
    clear hG1
    go_wp2_with fail
    refine (lives5_any _).mono ?_
    rintro e w9 ⟨rfl, hb⟩
    have HB9 := Lib.hid (toStart HB2.out hb)
    clear hb
    go_wp2_with fail
    go_ret
    exact ⟨rfl, HB9.out⟩

  | false =>
  have HG1 := Lib.hid hG1
  clear hG1
  have HL := Lib.hid (rbegins_any A2 A c2 c q p u8 (fun b => b < w.heap.size) (fun b => b < w.heap.size) (HQ.out.keep (w' := u8) fun b hb => HB2.out.block b hb) (HP.out.keep (w' := u8) fun b hb => HB2.out.block b hb) (fun b hb => Nat.lt_of_lt_of_le hb HB2.out.size) (fun b hb => Nat.lt_of_lt_of_le hb HB2.out.size) hnq2 hn2)
  go_wp2_with fail
  refine HL.out.mono ?_
  rintro e u9 ⟨rfl, hb⟩
  replace hV := hV.call hb
  replace hX := hX.call hb
  replace HB2 := Lib.hid (toStart HB2.out hb)
  clear hb HL
  cases hG2 : begP q p with
  | true =>
    clear hG2
    go_wp2_with fail
    refine (lives5_any _).mono ?_
    rintro e w9 ⟨rfl, hb⟩
    have HB9 := Lib.hid (toStart HB2.out hb)
    clear hb
    go_wp2_with fail
    go_ret
    exact ⟨rfl, HB9.out⟩

  | false =>
  have HG2 := Lib.hid hG2
  clear hG2
  obtain ⟨hm, -, -⟩ := wrong_zero (HW1.out)
  have HM := Lib.hid hm
  clear hm
  have HQ8 := Lib.hid (mayP_len (wrong_zero HW2.out).2.2)
  have HP8 := Lib.hid (mayP_len (wrong_zero HW1.out).2.2)
  have HL := Lib.hid (rget_any (fun b => b < u9.heap.size) t _ A2 c2 q u9 (fun _ h => h) (hV.v.imp hV.s) HM.out ((HQ.out.keep (w' := u9) fun b hb => HB2.out.block b hb).imp fun b hb => Nat.lt_of_lt_of_le hb HB2.out.size) hnq2)
  have y0 := hV.x.c0
  have y1 := hV.x.c1
  have y2 := hV.x.c2
  have y3 := hV.x.c3
  have y4 := hV.x.c4
  have yl := hV.x.lt
  go_wp2_with fail
  refine HL.out.mono ?_
  rintro e u10 ⟨vg, rfl, hv, hb⟩
  obtain ⟨E, e1, E', e2, rfl, -⟩ := hv.shape
  obtain ⟨RA, hRA⟩ : ∃ RA, RA = gotT t q := ⟨_, rfl⟩
  obtain ⟨OA, hOA⟩ : ∃ OA, OA = okT t q := ⟨_, rfl⟩
  rw [← hRA] at hv ⊢
  rw [← hOA]
  have HRA := Lib.hid (And.intro hRA hOA)
  clear hRA hOA
  replace hv := hv.imp (S' := fun b => w.heap.size ≤ w.heap.size ∧ b < u10.heap.size) fun b hb' => ⟨Nat.le_refl _, Nat.lt_of_lt_of_le hb' hb.size⟩
  replace hV := hV.call hb
  replace hX := hX.call hb
  replace HB2 := Lib.hid (toStart HB2.out hb)
  clear y0 y1 y2 y3 y4
  clear yl
  clear HL
  have y0 := hV.x.c0
  have y1 := hV.x.c1
  have y2 := hV.x.c2
  have y3 := hV.x.c3
  have y4 := hV.x.c4
  have yl := hV.x.lt
  have z0 := hX.x.c0
  have z1 := hX.x.c1
  have z2 := hX.x.c2
  have z3 := hX.x.c3
  have z4 := hX.x.c4
  have zl := hX.x.lt
  go_wp2_with fail
  clear y0 y1 y2 y3 y4
  clear yl
  clear z0 z1 z2 z3 z4
  clear zl
  have hbn := below_box (w := u10) (.cells #[.int .i64 RA.kind, .int .i64 RA.num, .string RA.text, .slice E RA.items.length e1, .slice E' RA.names.length e2] 25)
  have hA : Vr (u10.alloc (.cells #[.int .i64 RA.kind, .int .i64 RA.num, .string RA.text, .slice E RA.items.length e1, .slice E' RA.names.length e2] 25)) _ u10.heap.size RA E e1 E' e2 := Vr.new (fun b hb => hb.2) hv
  replace hV := hV.call hbn
  replace hX := hX.call hbn
  replace HB2 := Lib.hid (toStart HB2.out hbn)
  have hzb : (u10.alloc (.cells #[.int .i64 RA.kind, .int .i64 RA.num, .string RA.text, .slice E RA.items.length e1, .slice E' RA.names.length e2] 25)).heap.size = u10.heap.size + 1 := by simp
  clear hbn hv hb
  generalize u10.alloc (.cells #[.int .i64 RA.kind, .int .i64 RA.num, .string RA.text, .slice E RA.items.length e1, .slice E' RA.names.length e2] 25) = u11 at *
  clear hzb
  generalize hgu10 : u10.heap.size = gu10 at *
  clear hgu10
  obtain ⟨RB, hRB, hRB2, hRB3⟩ := keep_drop HW1.out.symm HW2.out.symm HG1.out HG2.out
  obtain ⟨RC, hRC, hRC2, hRC3⟩ := keep_cut (n := n) HW1.out.symm HW2.out.symm HG1.out HG2.out (by omega)
  have HRB := Lib.hid (And.intro hRB (And.intro hRB2 hRB3))
  have HRC := Lib.hid (And.intro hRC (And.intro hRC2 hRC3))
  clear hRB hRB2 hRB3 hRC hRC2 hRC3
  have hsets : ∃ (x : Int) (R : VT), (if mayT tx = true then changeT (setFin tx) t p else (20, nilT)) = (x, R) ∧ ((x = 0 ∧ tgotT R q = getT t q ∧ depthT R ≤ 4611686018427387903) ∨ x = 40) := by
    rcases keep_set HW1.out.symm HW2.out.symm HG1.out HG2.out HMX.out with ⟨R, k1, k2, k3⟩ | k1
    · exact ⟨0, R, k1, .inl ⟨rfl, k2, by have := HD1.out; have := HDX1.out; have := HP8.out; omega⟩⟩
    · exact ⟨40, nilT, k1, .inr rfl⟩
  obtain ⟨cs, RW, hset, hset2⟩ := hsets
  have HSET := Lib.hid hset2
  have HSETq := Lib.hid hset
  clear hset hset2
  have HL := Lib.hid (tset_any (fun b => b < u11.heap.size) t _ A c p tx _ u11 (fun _ h => h) (hV.v.imp hV.s) HD.out HS.out ((HP.out.keep (w' := u11) fun b hb => HB2.out.block b hb).imp fun b hb => Nat.lt_of_lt_of_le hb HB2.out.size) hn2 hpc h63 (hX.v.imp hX.s) HDX.out)
  refine HL.out.mono ?_
  rintro e u12 hch
  obtain ⟨E, e1, E', e2, rfl, hv, hb⟩ := change_at hch HSETq.out
  clear hch
  replace hV := hV.call hb
  replace hX := hX.call hb
  replace hA := hA.call hb
  replace HB2 := Lib.hid (toStart HB2.out hb)
  clear HL
  have y0 := hV.x.c0
  have y1 := hV.x.c1
  have y2 := hV.x.c2
  have y3 := hV.x.c3
  have y4 := hV.x.c4
  have yl := hV.x.lt
  go_wp2_with fail
  clear y0 y1 y2 y3 y4
  clear yl
  have hbn := below_box (w := u12) (.cells #[.int .i64 RW.kind, .int .i64 RW.num, .string RW.text, .slice E RW.items.length e1, .slice E' RW.names.length e2] 25)
  have hW : Vr (u12.alloc (.cells #[.int .i64 RW.kind, .int .i64 RW.num, .string RW.text, .slice E RW.items.length e1, .slice E' RW.names.length e2] 25)) _ u12.heap.size RW E e1 E' e2 := Vr.new (fun b hb => hb.2) hv
  replace hV := hV.call hbn
  replace hX := hX.call hbn
  replace hA := hA.call hbn
  replace HB2 := Lib.hid (toStart HB2.out hbn)
  have hzb : (u12.alloc (.cells #[.int .i64 RW.kind, .int .i64 RW.num, .string RW.text, .slice E RW.items.length e1, .slice E' RW.names.length e2] 25)).heap.size = u12.heap.size + 1 := by simp
  clear hbn hv hb
  generalize u12.alloc (.cells #[.int .i64 RW.kind, .int .i64 RW.num, .string RW.text, .slice E RW.items.length e1, .slice E' RW.names.length e2] 25) = u13 at *
  clear hzb
  generalize hgu12 : u12.heap.size = gu12 at *
  clear hgu12
  have HL := Lib.hid (tdropT_any (fun b => b < u13.heap.size) t _ A c p u13 (fun _ h => h) (hV.v.imp hV.s) HD.out ((HP.out.keep (w' := u13) fun b hb => HB2.out.block b hb).imp fun b hb => Nat.lt_of_lt_of_le hb HB2.out.size) hn2 hpc h63)
  refine HL.out.mono ?_
  rintro e u14 hch
  obtain ⟨E, e1, E', e2, rfl, hv, hb⟩ := change_at hch HRB.out.1
  clear hch
  replace hV := hV.call hb
  replace hX := hX.call hb
  replace hA := hA.call hb
  replace hW := hW.call hb
  replace HB2 := Lib.hid (toStart HB2.out hb)
  clear HL
  have y0 := hV.x.c0
  have y1 := hV.x.c1
  have y2 := hV.x.c2
  have y3 := hV.x.c3
  have y4 := hV.x.c4
  have yl := hV.x.lt
  go_wp2_with fail
  clear y0 y1 y2 y3 y4
  clear yl
  have hbn := below_box (w := u14) (.cells #[.int .i64 RB.kind, .int .i64 RB.num, .string RB.text, .slice E RB.items.length e1, .slice E' RB.names.length e2] 25)
  have hB : Vr (u14.alloc (.cells #[.int .i64 RB.kind, .int .i64 RB.num, .string RB.text, .slice E RB.items.length e1, .slice E' RB.names.length e2] 25)) _ u14.heap.size RB E e1 E' e2 := Vr.new (fun b hb => hb.2) hv
  replace hV := hV.call hbn
  replace hX := hX.call hbn
  replace hA := hA.call hbn
  replace hW := hW.call hbn
  replace HB2 := Lib.hid (toStart HB2.out hbn)
  have hzb : (u14.alloc (.cells #[.int .i64 RB.kind, .int .i64 RB.num, .string RB.text, .slice E RB.items.length e1, .slice E' RB.names.length e2] 25)).heap.size = u14.heap.size + 1 := by simp
  clear hbn hv hb
  generalize u14.alloc (.cells #[.int .i64 RB.kind, .int .i64 RB.num, .string RB.text, .slice E RB.items.length e1, .slice E' RB.names.length e2] 25) = u15 at *
  clear hzb
  generalize hgu14 : u14.heap.size = gu14 at *
  clear hgu14
  have HL := Lib.hid (tcutT_any n HN.out (fun b => b < u15.heap.size) t _ A c p u15 (fun _ h => h) (hV.v.imp hV.s) HD.out ((HP.out.keep (w' := u15) fun b hb => HB2.out.block b hb).imp fun b hb => Nat.lt_of_lt_of_le hb HB2.out.size) hn2 hpc h63)
  refine HL.out.mono ?_
  rintro e u16 hch
  obtain ⟨E, e1, E', e2, rfl, hv, hb⟩ := change_at hch HRC.out.1
  clear hch
  replace hV := hV.call hb
  replace hX := hX.call hb
  replace hA := hA.call hb
  replace hW := hW.call hb
  replace hB := hB.call hb
  replace HB2 := Lib.hid (toStart HB2.out hb)
  clear HL
  go_wp2_with fail
  have hbn := below_box (w := u16) (.cells #[.int .i64 RC.kind, .int .i64 RC.num, .string RC.text, .slice E RC.items.length e1, .slice E' RC.names.length e2] 25)
  have hC : Vr (u16.alloc (.cells #[.int .i64 RC.kind, .int .i64 RC.num, .string RC.text, .slice E RC.items.length e1, .slice E' RC.names.length e2] 25)) _ u16.heap.size RC E e1 E' e2 := Vr.new (fun b hb => hb.2) hv
  replace hV := hV.call hbn
  replace hX := hX.call hbn
  replace hA := hA.call hbn
  replace hW := hW.call hbn
  replace hB := hB.call hbn
  replace HB2 := Lib.hid (toStart HB2.out hbn)
  have hzb : (u16.alloc (.cells #[.int .i64 RC.kind, .int .i64 RC.num, .string RC.text, .slice E RC.items.length e1, .slice E' RC.names.length e2] 25)).heap.size = u16.heap.size + 1 := by simp
  clear hbn hv hb
  generalize u16.alloc (.cells #[.int .i64 RC.kind, .int .i64 RC.num, .string RC.text, .slice E RC.items.length e1, .slice E' RC.names.length e2] 25) = u17 at *
  clear hzb
  generalize hgu16 : u16.heap.size = gu16 at *
  clear hgu16
  have HL := Lib.hid (lives5_any u17)
  refine HL.out.mono ?_
  rintro e u18 ⟨rfl, hb⟩
  replace hV := hV.call hb
  replace hX := hX.call hb
  replace hA := hA.call hb
  replace hW := hW.call hb
  replace hB := hB.call hb
  replace hC := hC.call hb
  replace HB2 := Lib.hid (toStart HB2.out hb)
  clear hb HL
  have y0 := hB.x.c0
  have y1 := hB.x.c1
  have y2 := hB.x.c2
  have y3 := hB.x.c3
  have y4 := hB.x.c4
  have yl := hB.x.lt
  go_wp2_with fail
  clear y0 y1 y2 y3 y4
  clear yl
  have HL := Lib.hid (tget_any (fun b => b < u18.heap.size) RB _ A2 c2 q u18 (fun _ h => h) (hB.v.imp hB.s) (Nat.le_trans HRB.out.2.2 (by have := HD1.out; omega)) ((HQ.out.keep (w' := u18) fun b hb => HB2.out.block b hb).imp fun b hb => Nat.lt_of_lt_of_le hb HB2.out.size) hnq2 hqc h63q)
  refine HL.out.mono ?_
  rintro e u19 ⟨vg, rfl, hv, hb⟩
  have ek : (tgotT RB q).getD (.mk 0 0 ⟨#[]⟩ [] []) = RA := by rw [HRB.out.2.1, HRA.out.1]; rfl
  have eo : (tgotT RB q).isSome = OA := by rw [HRB.out.2.1, HRA.out.2]; rfl
  rw [ek] at hv
  rw [eo]
  clear ek eo
  obtain ⟨E, e1, E', e2, rfl, -⟩ := hv.shape
  replace hv := hv.imp (S' := fun b => w.heap.size ≤ w.heap.size ∧ b < u19.heap.size) fun b hb' => ⟨Nat.le_refl _, hb'.2⟩
  replace hV := hV.call hb
  replace hX := hX.call hb
  replace hA := hA.call hb
  replace hW := hW.call hb
  replace hB := hB.call hb
  replace hC := hC.call hb
  replace HB2 := Lib.hid (toStart HB2.out hb)
  clear HL
  have y0 := hC.x.c0
  have y1 := hC.x.c1
  have y2 := hC.x.c2
  have y3 := hC.x.c3
  have y4 := hC.x.c4
  have yl := hC.x.lt
  go_wp2_with fail
  clear y0 y1 y2 y3 y4
  clear yl
  have hbn := below_box (w := u19) (.cells #[.int .i64 RA.kind, .int .i64 RA.num, .string RA.text, .slice E RA.items.length e1, .slice E' RA.names.length e2] 25)
  have hK : Vr (u19.alloc (.cells #[.int .i64 RA.kind, .int .i64 RA.num, .string RA.text, .slice E RA.items.length e1, .slice E' RA.names.length e2] 25)) _ u19.heap.size RA E e1 E' e2 := Vr.new (fun b hb => hb.2) hv
  replace hV := hV.call hbn
  replace hX := hX.call hbn
  replace hA := hA.call hbn
  replace hW := hW.call hbn
  replace hB := hB.call hbn
  replace hC := hC.call hbn
  replace HB2 := Lib.hid (toStart HB2.out hbn)
  have hzb : (u19.alloc (.cells #[.int .i64 RA.kind, .int .i64 RA.num, .string RA.text, .slice E RA.items.length e1, .slice E' RA.names.length e2] 25)).heap.size = u19.heap.size + 1 := by simp
  clear hbn hv hb
  generalize u19.alloc (.cells #[.int .i64 RA.kind, .int .i64 RA.num, .string RA.text, .slice E RA.items.length e1, .slice E' RA.names.length e2] 25) = u20 at *
  clear hzb
  generalize hgu19 : u19.heap.size = gu19 at *
  clear hgu19
  have HL := Lib.hid (tget_any (fun b => b < u20.heap.size) RC _ A2 c2 q u20 (fun _ h => h) (hC.v.imp hC.s) (Nat.le_trans HRC.out.2.2 (by have := HD1.out; omega)) ((HQ.out.keep (w' := u20) fun b hb => HB2.out.block b hb).imp fun b hb => Nat.lt_of_lt_of_le hb HB2.out.size) hnq2 hqc h63q)
  refine HL.out.mono ?_
  rintro e u21 ⟨vg, rfl, hv, hb⟩
  have ek : (tgotT RC q).getD (.mk 0 0 ⟨#[]⟩ [] []) = RA := by rw [HRC.out.2.1, HRA.out.1]; rfl
  have eo : (tgotT RC q).isSome = OA := by rw [HRC.out.2.1, HRA.out.2]; rfl
  rw [ek] at hv
  rw [eo]
  clear ek eo
  obtain ⟨E, e1, E', e2, rfl, -⟩ := hv.shape
  replace hv := hv.imp (S' := fun b => w.heap.size ≤ w.heap.size ∧ b < u21.heap.size) fun b hb' => ⟨Nat.le_refl _, hb'.2⟩
  replace hV := hV.call hb
  replace hX := hX.call hb
  replace hA := hA.call hb
  replace hW := hW.call hb
  replace hB := hB.call hb
  replace hC := hC.call hb
  replace hK := hK.call hb
  replace HB2 := Lib.hid (toStart HB2.out hb)
  have hoo : (OA == OA) = true := by cases OA <;> rfl
  have hon : (OA != OA) = false := by cases OA <;> rfl
  clear HL
  have y0 := hK.x.c0
  have y1 := hK.x.c1
  have y2 := hK.x.c2
  have y3 := hK.x.c3
  have y4 := hK.x.c4
  have yl := hK.x.lt
  have z0 := hA.x.c0
  have z1 := hA.x.c1
  have z2 := hA.x.c2
  have z3 := hA.x.c3
  have z4 := hA.x.c4
  have zl := hA.x.lt
  go_wp2_with fail
  clear y0 y1 y2 y3 y4
  clear yl
  clear z0 z1 z2 z3 z4
  clear zl
  have hbn := below_box (w := u21) (.cells #[.int .i64 RA.kind, .int .i64 RA.num, .string RA.text, .slice E RA.items.length e1, .slice E' RA.names.length e2] 25)
  have hM : Vr (u21.alloc (.cells #[.int .i64 RA.kind, .int .i64 RA.num, .string RA.text, .slice E RA.items.length e1, .slice E' RA.names.length e2] 25)) _ u21.heap.size RA E e1 E' e2 := Vr.new (fun b hb => hb.2) hv
  replace hV := hV.call hbn
  replace hX := hX.call hbn
  replace hA := hA.call hbn
  replace hW := hW.call hbn
  replace hB := hB.call hbn
  replace hC := hC.call hbn
  replace hK := hK.call hbn
  replace HB2 := Lib.hid (toStart HB2.out hbn)
  have hzb : (u21.alloc (.cells #[.int .i64 RA.kind, .int .i64 RA.num, .string RA.text, .slice E RA.items.length e1, .slice E' RA.names.length e2] 25)).heap.size = u21.heap.size + 1 := by simp
  clear hbn hv hb
  generalize u21.alloc (.cells #[.int .i64 RA.kind, .int .i64 RA.num, .string RA.text, .slice E RA.items.length e1, .slice E' RA.names.length e2] 25) = u22 at *
  clear hzb
  generalize hgu21 : u21.heap.size = gu21 at *
  clear hgu21
  have HL := Lib.hid (rsame_any (fun b => b < u22.heap.size) _ _ _ _ _ u22 (Nat.le_refl _) (fun _ h => h) (hK.v.imp hK.s) (hA.v.imp hA.s))
  refine HL.out.mono ?_
  rintro e u23 ⟨⟨r, rfl, hr⟩, hb⟩
  obtain rfl := hr.2 rfl
  clear hr
  replace hV := hV.call hb
  replace hX := hX.call hb
  replace hA := hA.call hb
  replace hW := hW.call hb
  replace hB := hB.call hb
  replace hC := hC.call hb
  replace hK := hK.call hb
  replace hM := hM.call hb
  replace HB2 := Lib.hid (toStart HB2.out hb)
  clear hb HL
  have y0 := hM.x.c0
  have y1 := hM.x.c1
  have y2 := hM.x.c2
  have y3 := hM.x.c3
  have y4 := hM.x.c4
  have yl := hM.x.lt
  have z0 := hA.x.c0
  have z1 := hA.x.c1
  have z2 := hA.x.c2
  have z3 := hA.x.c3
  have z4 := hA.x.c4
  have zl := hA.x.lt
  go_wp2_with fail
  clear y0 y1 y2 y3 y4
  clear yl
  clear z0 z1 z2 z3 z4
  clear zl
  have HL := Lib.hid (rsame_any (fun b => b < u23.heap.size) _ _ _ _ _ u23 (Nat.le_refl _) (fun _ h => h) (hM.v.imp hM.s) (hA.v.imp hA.s))
  refine HL.out.mono ?_
  rintro e u24 ⟨⟨r, rfl, hr⟩, hb⟩
  obtain rfl := hr.2 rfl
  clear hr
  replace hV := hV.call hb
  replace hX := hX.call hb
  replace hA := hA.call hb
  replace hW := hW.call hb
  replace hB := hB.call hb
  replace hC := hC.call hb
  replace hK := hK.call hb
  replace hM := hM.call hb
  replace HB2 := Lib.hid (toStart HB2.out hb)
  clear hb HL
  rcases HSET.out with ⟨hcs, hk2, hk3⟩ | hcs
  rotate_left
  · subst hcs
    go_wp2_with fail
    go_ret
    exact ⟨rfl, HB2.out⟩
  subst hcs
  have HK := Lib.hid (And.intro hk2 hk3)
  clear hk2 hk3
  have y0 := hW.x.c0
  have y1 := hW.x.c1
  have y2 := hW.x.c2
  have y3 := hW.x.c3
  have y4 := hW.x.c4
  have yl := hW.x.lt
  go_wp2_with fail
  clear y0 y1 y2 y3 y4
  clear yl
  have HL := Lib.hid (tget_any (fun b => b < u24.heap.size) RW _ A2 c2 q u24 (fun _ h => h) (hW.v.imp hW.s) (HK.out.2) ((HQ.out.keep (w' := u24) fun b hb => HB2.out.block b hb).imp fun b hb => Nat.lt_of_lt_of_le hb HB2.out.size) hnq2 hqc h63q)
  refine HL.out.mono ?_
  rintro e u25 ⟨vg, rfl, hv, hb⟩
  have ek : (tgotT RW q).getD (.mk 0 0 ⟨#[]⟩ [] []) = RA := by rw [HK.out.1, HRA.out.1]; rfl
  have eo : (tgotT RW q).isSome = OA := by rw [HK.out.1, HRA.out.2]; rfl
  rw [ek] at hv
  rw [eo]
  clear ek eo
  obtain ⟨E, e1, E', e2, rfl, -⟩ := hv.shape
  replace hv := hv.imp (S' := fun b => w.heap.size ≤ w.heap.size ∧ b < u25.heap.size) fun b hb' => ⟨Nat.le_refl _, hb'.2⟩
  replace hV := hV.call hb
  replace hX := hX.call hb
  replace hA := hA.call hb
  replace hW := hW.call hb
  replace hB := hB.call hb
  replace hC := hC.call hb
  replace hK := hK.call hb
  replace hM := hM.call hb
  replace HB2 := Lib.hid (toStart HB2.out hb)
  clear HL
  have z0 := hA.x.c0
  have z1 := hA.x.c1
  have z2 := hA.x.c2
  have z3 := hA.x.c3
  have z4 := hA.x.c4
  have zl := hA.x.lt
  go_wp2_with fail
  clear z0 z1 z2 z3 z4
  clear zl
  have hbn := below_box (w := u25) (.cells #[.int .i64 RA.kind, .int .i64 RA.num, .string RA.text, .slice E RA.items.length e1, .slice E' RA.names.length e2] 25)
  have hL : Vr (u25.alloc (.cells #[.int .i64 RA.kind, .int .i64 RA.num, .string RA.text, .slice E RA.items.length e1, .slice E' RA.names.length e2] 25)) _ u25.heap.size RA E e1 E' e2 := Vr.new (fun b hb => hb.2) hv
  replace hV := hV.call hbn
  replace hX := hX.call hbn
  replace hA := hA.call hbn
  replace hW := hW.call hbn
  replace hB := hB.call hbn
  replace hC := hC.call hbn
  replace hK := hK.call hbn
  replace hM := hM.call hbn
  replace HB2 := Lib.hid (toStart HB2.out hbn)
  have hzb : (u25.alloc (.cells #[.int .i64 RA.kind, .int .i64 RA.num, .string RA.text, .slice E RA.items.length e1, .slice E' RA.names.length e2] 25)).heap.size = u25.heap.size + 1 := by simp
  clear hbn hv hb
  generalize u25.alloc (.cells #[.int .i64 RA.kind, .int .i64 RA.num, .string RA.text, .slice E RA.items.length e1, .slice E' RA.names.length e2] 25) = u26 at *
  clear hzb
  generalize hgu25 : u25.heap.size = gu25 at *
  clear hgu25
  have HL := Lib.hid (rsame_any (fun b => b < u26.heap.size) _ _ _ _ _ u26 (Nat.le_refl _) (fun _ h => h) (hL.v.imp hL.s) (hA.v.imp hA.s))
  refine HL.out.mono ?_
  rintro e u27 ⟨⟨r, rfl, hr⟩, hb⟩
  obtain rfl := hr.2 rfl
  clear hr
  replace hV := hV.call hb
  replace hX := hX.call hb
  replace hA := hA.call hb
  replace hW := hW.call hb
  replace hB := hB.call hb
  replace hC := hC.call hb
  replace hK := hK.call hb
  replace hM := hM.call hb
  replace hL := hL.call hb
  replace HB2 := Lib.hid (toStart HB2.out hb)
  clear hb HL
  go_wp2_with fail
  go_ret
  exact ⟨rfl, HB2.out⟩
set_option maxRecDepth 100000 in
theorem lifted (os : Os) (started : os.Started) (H : Type) (enc : TypeId × Value → H) :
    ReturnsInHanded {} Try.checked os 5 .any (Rows.treeKeepsSpec.pre6 enc Try.prog Try.f5 Rows.treeKeepsRow.domain false) (Rows.treeKeepsSpec.post enc Try.prog Try.f5 false true false false) := by
  refine returnsInHanded_of_change_sized (C := Try.checked) own started (by kernel_rfl) Try.func5
    (ChangeSpec.witness6 (enc := enc) (C := Try.checked) false ⟨#[], #[.agg #[.int .i64 0, .int .i64 0, .string ByteArray.empty, .slice none 0 0, .slice none 0 0], .slice none 0 0, .slice none 0 0, .agg #[.int .i64 0, .int .i64 0, .string ByteArray.empty, .slice none 0 0, .slice none 0 0], .int .i64 0], []⟩ 8 (by kernel_rfl) (by kernel_rfl) (by kernel_rfl) (by kernel_rfl)) ?_
  intro W base args ds gs before hval0 hW hcnd hsz0 _
  have hval : ∀ (j : Nat) t v, Try.f5.params[j]? = some t → args[j]? = some v → Value.okWide Try.prog W .any base t v := hval0
  have hsz : (DataW.weightsEach Try.prog (Try.f5.params.toList ++ Rows.treeKeepsSpec.plain.varTypes Try.prog) (ds ++ gs)).all (· ≤ reachBytes) = true := hsz0
  have hW' := hW
  obtain ⟨p, q, hA0, hV, rfl, hfz, hnd⟩ := hW
  have hA : DataW.TrodAll enc Try.prog W 0 (fun _ => true) true Try.f5.params.toList args.toList ds p := hA0
  rw [Try.params5] at hA hval hsz
  obtain ⟨v0, vs0, d0, ds0, p0, q0, hargs, rfl, rfl, h0, r0⟩ := trodAll_cons hA
  obtain ⟨v1, vs1, d1, ds1, p1, q1, rfl, rfl, rfl, h1, r1⟩ := trodAll_cons r0
  obtain ⟨v2, vs2, d2, ds2, p2, q2, rfl, rfl, rfl, h2, r2⟩ := trodAll_cons r1
  obtain ⟨v3, vs3, d3, ds3, p3, q3, rfl, rfl, rfl, h3, r3⟩ := trodAll_cons r2
  obtain ⟨v4, vs4, d4, ds4, p4, q4, rfl, rfl, rfl, h4, r4⟩ := trodAll_cons r3
  obtain ⟨rfl, rfl, rfl⟩ := trodAll_nil r4
  obtain rfl : args = #[v0, v1, v2, v3, v4] := by cases args; simp_all
  obtain ⟨rfl, rfl⟩ := trodVars_none hV
  obtain ⟨a0, rfl, -⟩ := okWide_struct Try.underlying25 (hval 0 25 v0 rfl rfl)
  have k0 := h0
  have lt0 : ∀ x ∈ p0, x.block < W.heap.size := by obtain ⟨m, hm⟩ := k0; exact DataW.trod_lt m _ _ _ hm
  have wt0 : ∀ n ∈ d0.weights Try.prog 25, n ≤ reachBytes := fun n hn => by have := List.all_eq_true.1 hsz n (DataW.weights_mem_each (j := 0) rfl rfl n hn); simpa using this
  obtain ⟨A1, n1, c1, rfl⟩ := okWide_slice Try.underlying23 (hval 1 23 v1 rfl rfl)
  have k1 := h1
  have lt1 : ∀ x ∈ p1, x.block < W.heap.size := by obtain ⟨m, hm⟩ := k1; exact DataW.trod_lt m _ _ _ hm
  have wt1 : ∀ n ∈ d1.weights Try.prog 23, n ≤ reachBytes := fun n hn => by have := List.all_eq_true.1 hsz n (DataW.weights_mem_each (j := 1) rfl rfl n hn); simpa using this
  obtain ⟨A2, n2, c2, rfl⟩ := okWide_slice Try.underlying23 (hval 2 23 v2 rfl rfl)
  have k2 := h2
  have lt2 : ∀ x ∈ p2, x.block < W.heap.size := by obtain ⟨m, hm⟩ := k2; exact DataW.trod_lt m _ _ _ hm
  have wt2 : ∀ n ∈ d2.weights Try.prog 23, n ≤ reachBytes := fun n hn => by have := List.all_eq_true.1 hsz n (DataW.weights_mem_each (j := 2) rfl rfl n hn); simpa using this
  obtain ⟨a3, rfl, -⟩ := okWide_struct Try.underlying25 (hval 3 25 v3 rfl rfl)
  have k3 := h3
  have lt3 : ∀ x ∈ p3, x.block < W.heap.size := by obtain ⟨m, hm⟩ := k3; exact DataW.trod_lt m _ _ _ hm
  have wt3 : ∀ n ∈ d3.weights Try.prog 25, n ≤ reachBytes := fun n hn => by have := List.all_eq_true.1 hsz n (DataW.weights_mem_each (j := 3) rfl rfl n hn); simpa using this
  obtain ⟨a4, rfl, rfl, rfl, wa4⟩ := open_int Try.underlying3 (hval 4 3 v4 rfl rfl) h4
  clear hA0 hval0
  obtain ⟨t0, ht0⟩ : ∃ t, LV W (fun b => b < W.heap.size) t (.agg a0) := by
    obtain ⟨m, hm⟩ := k0
    have h3 := open_val m _ _ hm wt0
    simpa [Value.cells] using h3
  obtain ⟨ys1, hn1, hc1, ho1, hy1, hz1⟩ : ∃ ys : List ByteArray, n1 = ys.length ∧ ys.length ≤ c1 ∧ c1 ≤ 9223372036854775807 ∧ ys.length ≤ 8796093021952 ∧ StrsAt W (fun b => b < W.heap.size) A1 ys := by
    obtain ⟨m, hm⟩ := k1
    obtain ⟨B, e, ys, he, g0, g00, g1, g2⟩ := open_names3 hm wt1
    have he' : [Value.slice A1 n1 c1] = [Value.slice B ys.length e] := he
    simp only [List.cons.injEq, Value.slice.injEq, and_true] at he'
    obtain ⟨rfl, rfl, rfl⟩ := he'
    exact ⟨ys, rfl, g0, g00, g1, g2⟩
  subst hn1
  obtain ⟨ys2, hn2, hc2, ho2, hy2, hz2⟩ : ∃ ys : List ByteArray, n2 = ys.length ∧ ys.length ≤ c2 ∧ c2 ≤ 9223372036854775807 ∧ ys.length ≤ 8796093021952 ∧ StrsAt W (fun b => b < W.heap.size) A2 ys := by
    obtain ⟨m, hm⟩ := k2
    obtain ⟨B, e, ys, he, g0, g00, g1, g2⟩ := open_names3 hm wt2
    have he' : [Value.slice A2 n2 c2] = [Value.slice B ys.length e] := he
    simp only [List.cons.injEq, Value.slice.injEq, and_true] at he'
    obtain ⟨rfl, rfl, rfl⟩ := he'
    exact ⟨ys, rfl, g0, g00, g1, g2⟩
  subst hn2
  obtain ⟨t3, ht3⟩ : ∃ t, LV W (fun b => b < W.heap.size) t (.agg a3) := by
    obtain ⟨m, hm⟩ := k3
    have h3 := open_val m _ _ hm wt3
    simpa [Value.cells] using h3
  have ha4 := in64_of_wf wa4
  refine (walk t0 t3 (.agg a0) (.agg a3) A1 c1 ys1 A2 c2 ys2 a4 W ht0 ht3 hz1 hz2 hc1 ho1 hy1 hc2 ho2 hy2 ha4).mono fun e W' ⟨he, bel⟩ => ?_
  subst he
  exact ⟨_, rfl, _, _, _, [], _, [], hW', trodAll_mk1 (shut_bool Try.underlying4 _), (trodAll_cons_mk (Below.trod laidOut (by kernel_rfl) (of_decide_eq_true (by kernel_rfl)) k0 bel lt0) (trodAll_cons_mk (Below.trod laidOut (by kernel_rfl) (of_decide_eq_true (by kernel_rfl)) k1 bel lt1) (trodAll_cons_mk (Below.trod laidOut (by kernel_rfl) (of_decide_eq_true (by kernel_rfl)) k2 bel lt2) (trodAll_cons_mk (Below.trod laidOut (by kernel_rfl) (of_decide_eq_true (by kernel_rfl)) k3 bel lt3) (trodAll_cons_mk (shut_int Try.underlying3 wa4) trodAll_mk0))))), rfl, bel.frame _, fun h => by cases h⟩

/-- The statement. -/
theorem proved : Rows.TreeKeepsSaid :=
  OpenClaim.holds_of_wide 5 Try.f5 rfl rfl rfl rfl rfl rfl rfl ⟨rfl, rfl, rfl, rfl, rfl⟩ rfl rfl rfl rfl rfl (by kernel_rfl) Try.func5 (by kernel_rfl)
    (of_decide_eq_true (by kernel_rfl)) (by unfold Func.isWrapper; first | (rw [if_pos (by decide +kernel)]; kernel_rfl) | (rw [if_neg (by decide +kernel)]; exact ⟨rfl, rfl⟩))
    (fun os started H enc _ => lifted os started H enc)
end Go.Proofs.Ytlddhpjokiphfaa.TKeeps
