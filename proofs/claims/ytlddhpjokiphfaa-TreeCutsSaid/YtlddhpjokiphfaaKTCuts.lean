/- An array at any path, cut, is as the document says; a second time nothing changes. No conditions. -/
import Derived.Test.YtlddhpjokiphfaaKTlA
import Derived.Test.YtlddhpjokiphfaaKTkM
import Derived.Test.YtlddhpjokiphfaaKTkQ
import Derived.Test.YtlddhpjokiphfaaKTuD
import Derived.SizedLaws
import Derived.ProofKit
import Derived.OpenShut
import Derived.ShutString
import Derived.ChangeOld
import Derived.Below
import Derived.Deep.Slices
namespace Go.Proofs.Ytlddhpjokiphfaa
open Go.RowKit
/-- A cut that may be, and what it makes. -/
theorem cut_facts {t : VT} {p : List ByteArray} {n : Nat} (hw : wrongT t p = 0) : ∃ R, R = cutO n t p ∧ changeT (cutFin n) t p = (0, R) ∧ changeT (cutFin n) R p = (0, R) ∧ depthT R ≤ depthT t + 1 := by
  obtain ⟨hm, hk, hp⟩ := wrong_zero hw.symm
  have hpne : p ≠ [] := fun e => by rw [e] at hp; exact absurd hp (by decide)
  obtain ⟨m1, m2⟩ := goT_may (cut_may n) p t hm (mayP_names hp)
  have hd : docB (goT (cutFin n) t p).2 = true := by unfold docB; rw [m1, m2, decide_eq_true hk]; rfl
  have hw2 : wrongT (goT (cutFin n) t p).2 p = 0 := by unfold wrongT; rw [hd, hp]; rfl
  have h1 := goT_zero hw (goT_code (c := fun x => x = 0) rfl (cut_code (n := n) (by omega)) p t)
  have h2 := goT_zero hw2 (goT_code (c := fun x => x = 0) rfl (cut_code (n := n) (by omega)) p _)
  rw [cut_twice n p t hm] at h2
  have hdep := goT_depth (L := p.length) (fun t s r _ => cut_depth n t s r) p t (by omega)
  rw [cut_doc n p t hm hpne] at h1 h2 hdep
  exact ⟨_, rfl, h1, h2, hdep⟩
theorem cut_neg_code {n : Int} (hn : n < 0) : ∀ (p : List ByteArray) (t : VT), mayT t = true → p ≠ [] → (goT (cutFin n) t p).1 = 1
  | [], _, _, h => absurd rfl h
  | s :: r, t, hm, _ => by
    by_cases he : placeT t s < 0 ∨ r = []
    · rw [goT_end he, cutFin_cons, if_pos hn]
    · have h0 : 0 ≤ placeT t s := Int.not_lt.1 fun k => he (.inl k)
      have hr : r ≠ [] := fun k => he (.inr k)
      have hj := placeT_lt (may_nl hm) h0
      rw [goT_on h0 hr hj]
      exact cut_neg_code hn r _ (may_item hm hj) hr
theorem cut_neg {t : VT} {p : List ByteArray} {n : Int} (hn : n < 0) (hw : wrongT t p = 0) : changeT (cutFin n) t p = (1, nilT) := by
  obtain ⟨hm, hk, hp⟩ := wrong_zero hw.symm
  have hpne : p ≠ [] := fun e => by rw [e] at hp; exact absurd hp (by decide)
  have h1 := cut_neg_code hn p t hm hpne
  unfold changeT
  rw [if_pos hw, h1, if_neg (by decide)]
end Go.Proofs.Ytlddhpjokiphfaa
namespace Go.Proofs.Ytlddhpjokiphfaa.TCuts
open Go.ChangeShapes Go.WideShapes Go.ChangeAt Go.RowKit Go.Joins Go.Deep
open Go.ChangeMaps (open_string shut_string)
set_option linter.unusedVariables false
set_option linter.unusedSimpArgs false

theorem own : ownKnob Try.prog.godebug = none := by kernel_rfl
theorem laidOut : laidOutB Try.prog = true := by kernel_rfl
set_option maxHeartbeats 16000000 in
set_option maxRecDepth 100000 in
theorem walk (t : VT) (v : Value) (A : Option Addr) (c : Nat) (p : List ByteArray) (n : Int) (w : World) (h : LV w (fun b => b < w.heap.size) t v) (hp : StrsAt w (fun b => b < w.heap.size) A p) (hpc : p.length ≤ c) (h63 : c ≤ 9223372036854775807) (hn : p.length ≤ 8796093021952) (hn64 : -9223372036854775808 ≤ n ∧ n ≤ 9223372036854775807) :
    Calls Try.prog 7 #[v, .slice A p.length c, .int .i64 n] w fun e w' => e = .returned (.bool true) ∧ Below w.heap.size w w' := by
  obtain ⟨A0, c0, A0', c0', rfl, -, -, -, hV, hb0⟩ := one_var (fun _ h => h) h
  have HP := Lib.hid hp
  have HN := Lib.hid hn64
  have hn2 : p.length ≤ 140737488351232 := by omega
  have HB2 := Lib.hid hb0
  have HL := Lib.hid (large5_any _ t _ A c p.length _ hV.s hV.v hn2)
  clear h hp hb0 hn64
  have y0 := hV.x.c0
  have y1 := hV.x.c1
  have y2 := hV.x.c2
  have y3 := hV.x.c3
  have y4 := hV.x.c4
  have yl := hV.x.lt
  go_enter Try.func7, Try.ntmps7
  go_wp2_with fail
  refine HL.out.mono ?_
  rintro e u3 ⟨rfl, hb⟩
  replace hV := hV.call hb
  replace HB2 := Lib.hid (toStart HB2.out hb)
  clear hb HL
  clear y0 y1 y2 y3 y4
  clear yl
  cases hlg : large5 t p.length with
  | true =>
    clear hlg
    go_wp2_with fail
    refine (lives5_any _).mono ?_
    rintro e w9 ⟨rfl, hb⟩
    have HB9 := Lib.hid (toStart HB2.out hb)
    clear hb
    go_wp2_with fail
    go_ret
    exact ⟨rfl, HB9.out⟩

  | false =>
  have hlt : largeT t = false := by
    unfold large5 at hlg
    rw [Bool.or_eq_false_iff] at hlg
    exact hlg.1
  have HD := Lib.hid (dep_ok hlt)
  have HD1 := Lib.hid (Nat.le_trans (depth_small hlt) (by decide : 41 ≤ 1000))
  have HS := Lib.hid (small_of hlt)
  clear hlg hlt
  by_cases hw : wrongT t p = 0
  rotate_left
  · obtain ⟨W1, hW1⟩ : ∃ W0, W0 = wrongT t p := ⟨_, rfl⟩
    have hch0 : changeT (cutFin n) t p = (W1, nilT) := by unfold changeT; rw [if_neg hw, hW1]
    rw [← hW1] at hw
    have HCH := Lib.hid hch0
    have HW1 := Lib.hid hW1
    clear hch0 hW1
    obtain ⟨RN, hRN⟩ : ∃ R, R = nilT := ⟨_, rfl⟩
    have hk0 : RN.kind = 0 := by rw [hRN]; rfl
    rw [← hRN] at HCH
    have HK0 := Lib.hid hk0
    clear hRN hk0
    have y0 := hV.x.c0
    have y1 := hV.x.c1
    have y2 := hV.x.c2
    have y3 := hV.x.c3
    have y4 := hV.x.c4
    have yl := hV.x.lt
    go_wp2_with fail
    have HL := Lib.hid (tcutT_any n HN.out (fun b => b < u3.heap.size) t _ A c p u3 (fun _ h => h) (hV.v.imp hV.s) HD.out ((HP.out.keep (w' := u3) fun b hb => HB2.out.block b hb).imp fun b hb => Nat.lt_of_lt_of_le hb HB2.out.size) hn2 hpc h63)
    refine HL.out.mono ?_
    rintro e u4 hch
    obtain ⟨E, e1, E', e2, rfl, hv, hb⟩ := change_at hch HCH.out
    clear hch
    replace hV := hV.call hb
    replace HB2 := Lib.hid (toStart HB2.out hb)
    clear y0 y1 y2 y3 y4
    clear yl
    clear HL
    go_wp2_with fail
    have hbn := below_box (w := u4) (.cells #[.int .i64 RN.kind, .int .i64 RN.num, .string RN.text, .slice E RN.items.length e1, .slice E' RN.names.length e2] 25)
    have hD : Vr (u4.alloc (.cells #[.int .i64 RN.kind, .int .i64 RN.num, .string RN.text, .slice E RN.items.length e1, .slice E' RN.names.length e2] 25)) _ u4.heap.size RN E e1 E' e2 := Vr.new (fun b hb => hb.2) hv
    replace hV := hV.call hbn
    replace HB2 := Lib.hid (toStart HB2.out hbn)
    have hzb : (u4.alloc (.cells #[.int .i64 RN.kind, .int .i64 RN.num, .string RN.text, .slice E RN.items.length e1, .slice E' RN.names.length e2] 25)).heap.size = u4.heap.size + 1 := by simp
    clear hbn hv hb
    generalize u4.alloc (.cells #[.int .i64 RN.kind, .int .i64 RN.num, .string RN.text, .slice E RN.items.length e1, .slice E' RN.names.length e2] 25) = u5 at *
    clear hzb
    generalize hgu4 : u4.heap.size = gu4 at *
    clear hgu4
    have HL := Lib.hid (lives5_any u5)
    refine HL.out.mono ?_
    rintro e u6 ⟨rfl, hb⟩
    replace hV := hV.call hb
    replace hD := hD.call hb
    replace HB2 := Lib.hid (toStart HB2.out hb)
    clear hb HL
    have HL := Lib.hid (wrong_any (fun b => b < u6.heap.size) t _ A c p u6 (fun _ h => h) (hV.v.imp hV.s) ((HP.out.keep (w' := u6) fun b hb => HB2.out.block b hb).imp fun b hb => Nat.lt_of_lt_of_le hb HB2.out.size) hn2)
    have y0 := hV.x.c0
    have y1 := hV.x.c1
    have y2 := hV.x.c2
    have y3 := hV.x.c3
    have y4 := hV.x.c4
    have yl := hV.x.lt
    go_wp2_with fail
    refine HL.out.mono ?_
    rintro e u7 ⟨rfl, hb⟩
    replace hV := hV.call hb
    replace hD := hD.call hb
    replace HB2 := Lib.hid (toStart HB2.out hb)
    clear hb HL
    clear y0 y1 y2 y3 y4
    clear yl
    rw [← HW1.out]
    have hbne : (W1 == 0) = false := beq_false_of_ne hw
    have hbn2 : (W1 != 0) = true := by rw [bne, hbne]; rfl
    have hbn3 : (W1 == W1) = true := by simp
    have y0 := hD.x.c0
    rw [HK0.out] at y0
    go_wp2_with fail
    go_ret
    exact ⟨by simp, HB2.out⟩

  by_cases hneg : n < 0
  · have hng2 : decide (n < 0) = true := decide_eq_true hneg
    have hch0 := cut_neg hneg hw
    have HCH := Lib.hid hch0
    have HW := Lib.hid hw
    clear hch0 hw
    obtain ⟨RN, hRN⟩ : ∃ R, R = nilT := ⟨_, rfl⟩
    have hk0 : RN.kind = 0 := by rw [hRN]; rfl
    rw [← hRN] at HCH
    have HK0 := Lib.hid hk0
    clear hRN hk0
    have y0 := hV.x.c0
    have y1 := hV.x.c1
    have y2 := hV.x.c2
    have y3 := hV.x.c3
    have y4 := hV.x.c4
    have yl := hV.x.lt
    go_wp2_with fail
    have HL := Lib.hid (tcutT_any n HN.out (fun b => b < u3.heap.size) t _ A c p u3 (fun _ h => h) (hV.v.imp hV.s) HD.out ((HP.out.keep (w' := u3) fun b hb => HB2.out.block b hb).imp fun b hb => Nat.lt_of_lt_of_le hb HB2.out.size) hn2 hpc h63)
    refine HL.out.mono ?_
    rintro e u4 hch
    obtain ⟨E, e1, E', e2, rfl, hv, hb⟩ := change_at hch HCH.out
    clear hch
    replace hV := hV.call hb
    replace HB2 := Lib.hid (toStart HB2.out hb)
    clear y0 y1 y2 y3 y4
    clear yl
    clear HL
    go_wp2_with fail
    have hbn := below_box (w := u4) (.cells #[.int .i64 RN.kind, .int .i64 RN.num, .string RN.text, .slice E RN.items.length e1, .slice E' RN.names.length e2] 25)
    have hD : Vr (u4.alloc (.cells #[.int .i64 RN.kind, .int .i64 RN.num, .string RN.text, .slice E RN.items.length e1, .slice E' RN.names.length e2] 25)) _ u4.heap.size RN E e1 E' e2 := Vr.new (fun b hb => hb.2) hv
    replace hV := hV.call hbn
    replace HB2 := Lib.hid (toStart HB2.out hbn)
    have hzb : (u4.alloc (.cells #[.int .i64 RN.kind, .int .i64 RN.num, .string RN.text, .slice E RN.items.length e1, .slice E' RN.names.length e2] 25)).heap.size = u4.heap.size + 1 := by simp
    clear hbn hv hb
    generalize u4.alloc (.cells #[.int .i64 RN.kind, .int .i64 RN.num, .string RN.text, .slice E RN.items.length e1, .slice E' RN.names.length e2] 25) = u5 at *
    clear hzb
    generalize hgu4 : u4.heap.size = gu4 at *
    clear hgu4
    have HL := Lib.hid (lives5_any u5)
    refine HL.out.mono ?_
    rintro e u6 ⟨rfl, hb⟩
    replace hV := hV.call hb
    replace hD := hD.call hb
    replace HB2 := Lib.hid (toStart HB2.out hb)
    clear hb HL
    have HL := Lib.hid (wrong_any (fun b => b < u6.heap.size) t _ A c p u6 (fun _ h => h) (hV.v.imp hV.s) ((HP.out.keep (w' := u6) fun b hb => HB2.out.block b hb).imp fun b hb => Nat.lt_of_lt_of_le hb HB2.out.size) hn2)
    have y0 := hV.x.c0
    have y1 := hV.x.c1
    have y2 := hV.x.c2
    have y3 := hV.x.c3
    have y4 := hV.x.c4
    have yl := hV.x.lt
    go_wp2_with fail
    refine HL.out.mono ?_
    rintro e u7 ⟨rfl, hb⟩
    replace hV := hV.call hb
    replace hD := hD.call hb
    replace HB2 := Lib.hid (toStart HB2.out hb)
    clear hb HL
    clear y0 y1 y2 y3 y4
    clear yl
    rw [HW.out]
    have y0 := hD.x.c0
    rw [HK0.out] at y0
    go_wp2_with fail
    go_ret
    exact ⟨rfl, HB2.out⟩

  have hng2 : decide (n < 0) = false := decide_eq_false hneg
  obtain ⟨N, rfl⟩ := Int.eq_ofNat_of_zero_le (Int.not_lt.1 hneg)
  have hN63 : N ≤ 9223372036854775807 := by have := HN.out.2; omega
  obtain ⟨R, hR, hc1, hc2, hdep⟩ := cut_facts (n := N) hw
  have HW := Lib.hid hw
  have HC1 := Lib.hid hc1
  have HC2 := Lib.hid hc2
  have HR := Lib.hid hR
  have HDR := Lib.hid (Nat.le_trans hdep (by have := HD1.out; omega : depthT t + 1 ≤ 4611686018427387903))
  obtain ⟨hm, -, -⟩ := wrong_zero hw.symm
  have HM := Lib.hid hm
  clear hR hc1 hc2 hdep hw hm
  have y0 := hV.x.c0
  have y1 := hV.x.c1
  have y2 := hV.x.c2
  have y3 := hV.x.c3
  have y4 := hV.x.c4
  have yl := hV.x.lt
  go_wp2_with fail
  have HL := Lib.hid (tcutT_any (N : Int) HN.out (fun b => b < u3.heap.size) t _ A c p u3 (fun _ h => h) (hV.v.imp hV.s) HD.out ((HP.out.keep (w' := u3) fun b hb => HB2.out.block b hb).imp fun b hb => Nat.lt_of_lt_of_le hb HB2.out.size) hn2 hpc h63)
  refine HL.out.mono ?_
  rintro e u4 hch
  obtain ⟨E, e1, E', e2, rfl, hv, hb⟩ := change_at hch HC1.out
  clear hch
  replace hV := hV.call hb
  replace HB2 := Lib.hid (toStart HB2.out hb)
  clear y0 y1 y2 y3 y4
  clear yl
  clear HL
  go_wp2_with fail
  have hbn := below_box (w := u4) (.cells #[.int .i64 R.kind, .int .i64 R.num, .string R.text, .slice E R.items.length e1, .slice E' R.names.length e2] 25)
  have hD : Vr (u4.alloc (.cells #[.int .i64 R.kind, .int .i64 R.num, .string R.text, .slice E R.items.length e1, .slice E' R.names.length e2] 25)) _ u4.heap.size R E e1 E' e2 := Vr.new (fun b hb => hb.2) hv
  replace hV := hV.call hbn
  replace HB2 := Lib.hid (toStart HB2.out hbn)
  have hzb : (u4.alloc (.cells #[.int .i64 R.kind, .int .i64 R.num, .string R.text, .slice E R.items.length e1, .slice E' R.names.length e2] 25)).heap.size = u4.heap.size + 1 := by simp
  clear hbn hv hb
  generalize u4.alloc (.cells #[.int .i64 R.kind, .int .i64 R.num, .string R.text, .slice E R.items.length e1, .slice E' R.names.length e2] 25) = u5 at *
  clear hzb
  generalize hgu4 : u4.heap.size = gu4 at *
  clear hgu4
  have HL := Lib.hid (lives5_any u5)
  refine HL.out.mono ?_
  rintro e u6 ⟨rfl, hb⟩
  replace hV := hV.call hb
  replace hD := hD.call hb
  replace HB2 := Lib.hid (toStart HB2.out hb)
  clear hb HL
  have HL := Lib.hid (wrong_any (fun b => b < u6.heap.size) t _ A c p u6 (fun _ h => h) (hV.v.imp hV.s) ((HP.out.keep (w' := u6) fun b hb => HB2.out.block b hb).imp fun b hb => Nat.lt_of_lt_of_le hb HB2.out.size) hn2)
  have y0 := hV.x.c0
  have y1 := hV.x.c1
  have y2 := hV.x.c2
  have y3 := hV.x.c3
  have y4 := hV.x.c4
  have yl := hV.x.lt
  go_wp2_with fail
  refine HL.out.mono ?_
  rintro e u7 ⟨rfl, hb⟩
  replace hV := hV.call hb
  replace hD := hD.call hb
  replace HB2 := Lib.hid (toStart HB2.out hb)
  clear hb HL
  clear y0 y1 y2 y3 y4
  clear yl
  rw [HW.out]
  have y0 := hD.x.c0
  have y1 := hD.x.c1
  have y2 := hD.x.c2
  have y3 := hD.x.c3
  have y4 := hD.x.c4
  have yl := hD.x.lt
  go_wp2_with fail
  have HL := Lib.hid (tcutT_any (N : Int) HN.out (fun b => b < u7.heap.size) R _ A c p u7 (fun _ h => h) (hD.v.imp hD.s) HDR.out ((HP.out.keep (w' := u7) fun b hb => HB2.out.block b hb).imp fun b hb => Nat.lt_of_lt_of_le hb HB2.out.size) hn2 hpc h63)
  refine HL.out.mono ?_
  rintro e u8 hch
  obtain ⟨E, e1, E', e2, rfl, hv, hb⟩ := change_at hch HC2.out
  clear hch
  replace hV := hV.call hb
  replace hD := hD.call hb
  replace HB2 := Lib.hid (toStart HB2.out hb)
  clear y0 y1 y2 y3 y4
  clear yl
  clear HL
  go_wp2_with fail
  have hbn := below_box (w := u8) (.cells #[.int .i64 R.kind, .int .i64 R.num, .string R.text, .slice E R.items.length e1, .slice E' R.names.length e2] 25)
  have hE : Vr (u8.alloc (.cells #[.int .i64 R.kind, .int .i64 R.num, .string R.text, .slice E R.items.length e1, .slice E' R.names.length e2] 25)) _ u8.heap.size R E e1 E' e2 := Vr.new (fun b hb => hb.2) hv
  replace hV := hV.call hbn
  replace hD := hD.call hbn
  replace HB2 := Lib.hid (toStart HB2.out hbn)
  have hzb : (u8.alloc (.cells #[.int .i64 R.kind, .int .i64 R.num, .string R.text, .slice E R.items.length e1, .slice E' R.names.length e2] 25)).heap.size = u8.heap.size + 1 := by simp
  clear hbn hv hb
  generalize u8.alloc (.cells #[.int .i64 R.kind, .int .i64 R.num, .string R.text, .slice E R.items.length e1, .slice E' R.names.length e2] 25) = u9 at *
  clear hzb
  generalize hgu8 : u8.heap.size = gu8 at *
  clear hgu8
  have hdr : Below u9.heap.size u9 u9.drew := (Below.refl _ _).drew
  replace hV := hV.call hdr
  replace hD := hD.call hdr
  replace hE := hE.call hdr
  replace HB2 := Lib.hid (toStart HB2.out hdr)
  clear hdr
  try simp only [List.append_eq, List.cons_append, List.nil_append]
  refine wp_region_lex (by kernel_rfl) (by kernel_rfl) (fun _ d _ _ _ h => by cases d <;> exact h) ?_
  generalize u9.drew = ud at *
  have y0 := cell_later (B := ud.heap.size) (w := ud) hD.x.c0 hD.x.lt
  have y1 := cell_later (B := ud.heap.size) (w := ud) hD.x.c1 hD.x.lt
  have y2 := cell_later (B := ud.heap.size) (w := ud) hD.x.c2 hD.x.lt
  have y3 := cell_later (B := ud.heap.size) (w := ud) hD.x.c3 hD.x.lt
  have y4 := cell_later (B := ud.heap.size) (w := ud) hD.x.c4 hD.x.lt
  have z0 := cell_later (B := ud.heap.size) (w := ud) hV.x.c0 hV.x.lt
  have z1 := cell_later (B := ud.heap.size) (w := ud) hV.x.c1 hV.x.lt
  have z2 := cell_later (B := ud.heap.size) (w := ud) hV.x.c2 hV.x.lt
  have z3 := cell_later (B := ud.heap.size) (w := ud) hV.x.c3 hV.x.lt
  have z4 := cell_later (B := ud.heap.size) (w := ud) hV.x.c4 hV.x.lt
  first | refine mix_pure ?_ | refine mix_pureB ?_
  simp only [List.takeWhile, List.dropWhile, isPure, Nat.reduceBNe]
  repeat (go_big_quiet_step (fail))
  refine wpQuiet_nil ?_
  clear y0 y1 y2 y3 y4
  clear z0 z1 z2 z3 z4
  first | refine mix_call rfl (fun K hK => ?_) | refine mix_callB rfl (fun K hK => ?_)
  go_simp
  refine (rcut_any N hN63 (fun b => b < ud.heap.size) t _ A c p ud (fun _ h => h) (hV.v.imp hV.s) HM.out HS.out ((HP.out.keep (w' := ud) fun b hb => HB2.out.block b hb).imp fun b hb => Nat.lt_of_lt_of_le hb HB2.out.size) hpc h63 hn2).mono ?_
  rintro e ue ⟨vr, rfl, hvr, hb⟩
  refine hK _ _ (hb) ?_
  clear hK K
  try simp only [Act.put]
  obtain ⟨F1, f1, F1', f1', rfl, -⟩ := hvr.shape
  rw [← HR.out] at hvr ⊢
  replace hV := hV.call hb
  replace hD := hD.call hb
  replace hE := hE.call hb
  replace HB2 := Lib.hid (toStart HB2.out hb)
  replace hvr := hvr.imp (S' := fun b => b < ue.heap.size) fun b hb' => hb'.elim (fun e => Nat.lt_of_lt_of_le e hb.size) fun e => e.2
  have HVR := Lib.hid hvr
  clear hb hvr
  first | refine mix_call rfl (fun K hK => ?_) | refine mix_callB rfl (fun K hK => ?_)
  go_simp
  refine (rsame_any (fun b => b < ue.heap.size) _ _ _ _ _ ue (Nat.le_refl _) (fun _ h => h) (hD.v.imp hD.s) HVR.out).mono ?_
  rintro e uf ⟨⟨r, rfl, hr⟩, hb⟩
  refine hK _ _ (hb) ?_
  clear hK K
  try simp only [Act.put]
  obtain rfl := hr.2 rfl
  replace hV := hV.call hb
  replace hD := hD.call hb
  replace hE := hE.call hb
  replace HB2 := Lib.hid (toStart HB2.out hb)
  clear hb hr HVR
  have y0 := cell_later (B := uf.heap.size) (w := uf) hD.x.c0 hD.x.lt
  have y1 := cell_later (B := uf.heap.size) (w := uf) hD.x.c1 hD.x.lt
  have y2 := cell_later (B := uf.heap.size) (w := uf) hD.x.c2 hD.x.lt
  have y3 := cell_later (B := uf.heap.size) (w := uf) hD.x.c3 hD.x.lt
  have y4 := cell_later (B := uf.heap.size) (w := uf) hD.x.c4 hD.x.lt
  have z0 := cell_later (B := uf.heap.size) (w := uf) hE.x.c0 hE.x.lt
  have z1 := cell_later (B := uf.heap.size) (w := uf) hE.x.c1 hE.x.lt
  have z2 := cell_later (B := uf.heap.size) (w := uf) hE.x.c2 hE.x.lt
  have z3 := cell_later (B := uf.heap.size) (w := uf) hE.x.c3 hE.x.lt
  have z4 := cell_later (B := uf.heap.size) (w := uf) hE.x.c4 hE.x.lt
  first | refine mix_pure ?_ | refine mix_pureB ?_
  simp only [List.takeWhile, List.dropWhile, isPure, Nat.reduceBNe]
  repeat (go_big_quiet_step (fail))
  refine wpQuiet_nil ?_
  clear y0 y1 y2 y3 y4
  clear z0 z1 z2 z3 z4
  first | refine mix_call rfl (fun K hK => ?_) | refine mix_callB rfl (fun K hK => ?_)
  go_simp
  refine (rsame_any (fun b => b < uf.heap.size) _ _ _ _ _ uf (Nat.le_refl _) (fun _ h => h) (hE.v.imp hE.s) (hD.v.imp hD.s)).mono ?_
  rintro e ug ⟨⟨r, rfl, hr⟩, hb⟩
  refine hK _ _ (hb) ?_
  clear hK K
  try simp only [Act.put]
  obtain rfl := hr.2 rfl
  replace hV := hV.call hb
  replace hD := hD.call hb
  replace hE := hE.call hb
  replace HB2 := Lib.hid (toStart HB2.out hb)
  clear hb hr
  first | refine mix_pure ?_ | refine mix_pureB ?_
  simp only [List.takeWhile, List.dropWhile, isPure, Nat.reduceBNe]
  repeat (go_big_quiet_step (fail))
  refine wpQuiet_nil ?_
  unfold wpMix
  go_wp2_with fail
  go_ret
  exact ⟨by simp, HB2.out⟩
set_option maxRecDepth 100000 in
theorem lifted (os : Os) (started : os.Started) (H : Type) (enc : TypeId × Value → H) :
    ReturnsInHanded {} Try.checked os 7 .any (Rows.treeCutsSpec.pre6 enc Try.prog Try.f7 Rows.treeCutsRow.domain false) (Rows.treeCutsSpec.post enc Try.prog Try.f7 false true false false) := by
  refine returnsInHanded_of_change_sized (C := Try.checked) own started (by kernel_rfl) Try.func7
    (ChangeSpec.witness6 (enc := enc) (C := Try.checked) false ⟨#[], #[.agg #[.int .i64 0, .int .i64 0, .string ByteArray.empty, .slice none 0 0, .slice none 0 0], .slice none 0 0, .int .i64 0], []⟩ 8 (by kernel_rfl) (by kernel_rfl) (by kernel_rfl) (by kernel_rfl)) ?_
  intro W base args ds gs before hval0 hW hcnd hsz0 _
  have hval : ∀ (j : Nat) t v, Try.f7.params[j]? = some t → args[j]? = some v → Value.okWide Try.prog W .any base t v := hval0
  have hsz : (DataW.weightsEach Try.prog (Try.f7.params.toList ++ Rows.treeCutsSpec.plain.varTypes Try.prog) (ds ++ gs)).all (· ≤ reachBytes) = true := hsz0
  have hW' := hW
  obtain ⟨p, q, hA0, hV, rfl, hfz, hnd⟩ := hW
  have hA : DataW.TrodAll enc Try.prog W 0 (fun _ => true) true Try.f7.params.toList args.toList ds p := hA0
  rw [Try.params7] at hA hval hsz
  obtain ⟨v0, v1, v2, d0, d1, d2, p0, p1, p2, rfl, rfl, rfl, h0, h1, h2⟩ := trodAll_three hA
  obtain ⟨rfl, rfl⟩ := trodVars_none hV
  obtain ⟨a0, rfl, -⟩ := okWide_struct Try.underlying25 (hval 0 25 v0 rfl rfl)
  have k0 := h0
  have lt0 : ∀ x ∈ p0, x.block < W.heap.size := by obtain ⟨m, hm⟩ := k0; exact DataW.trod_lt m _ _ _ hm
  have wt0 : ∀ n ∈ d0.weights Try.prog 25, n ≤ reachBytes := fun n hn => by have := List.all_eq_true.1 hsz n (DataW.weights_mem_each (j := 0) rfl rfl n hn); simpa using this
  obtain ⟨A1, n1, c1, rfl⟩ := okWide_slice Try.underlying23 (hval 1 23 v1 rfl rfl)
  have k1 := h1
  have lt1 : ∀ x ∈ p1, x.block < W.heap.size := by obtain ⟨m, hm⟩ := k1; exact DataW.trod_lt m _ _ _ hm
  have wt1 : ∀ n ∈ d1.weights Try.prog 23, n ≤ reachBytes := fun n hn => by have := List.all_eq_true.1 hsz n (DataW.weights_mem_each (j := 1) rfl rfl n hn); simpa using this
  obtain ⟨a2, rfl, rfl, rfl, wa2⟩ := open_int Try.underlying3 (hval 2 3 v2 rfl rfl) h2
  clear hA0 hval0
  obtain ⟨t0, ht0⟩ : ∃ t, LV W (fun b => b < W.heap.size) t (.agg a0) := by
    obtain ⟨m, hm⟩ := k0
    have h3 := open_val m _ _ hm wt0
    simpa [Value.cells] using h3
  obtain ⟨ys1, hn1, hc1, ho1, hy1, hz1⟩ : ∃ ys : List ByteArray, n1 = ys.length ∧ ys.length ≤ c1 ∧ c1 ≤ 9223372036854775807 ∧ ys.length ≤ 8796093021952 ∧ StrsAt W (fun b => b < W.heap.size) A1 ys := by
    obtain ⟨m, hm⟩ := k1
    obtain ⟨B, e, ys, he, g0, g00, g1, g2⟩ := open_names3 hm wt1
    have he' : [Value.slice A1 n1 c1] = [Value.slice B ys.length e] := he
    simp only [List.cons.injEq, Value.slice.injEq, and_true] at he'
    obtain ⟨rfl, rfl, rfl⟩ := he'
    exact ⟨ys, rfl, g0, g00, g1, g2⟩
  subst hn1
  have ha2 := in64_of_wf wa2
  refine (walk t0 (.agg a0) A1 c1 ys1 a2 W ht0 hz1 hc1 ho1 hy1 ha2).mono fun e W' ⟨he, bel⟩ => ?_
  subst he
  exact ⟨_, rfl, _, _, _, [], _, [], hW', trodAll_mk1 (shut_bool Try.underlying4 _), (trodAll_cons_mk (Below.trod laidOut (by kernel_rfl) (of_decide_eq_true (by kernel_rfl)) k0 bel lt0) (trodAll_cons_mk (Below.trod laidOut (by kernel_rfl) (of_decide_eq_true (by kernel_rfl)) k1 bel lt1) (trodAll_cons_mk (shut_int Try.underlying3 wa2) trodAll_mk0))), rfl, bel.frame _, fun h => by cases h⟩

/-- The statement. -/
theorem proved : Rows.TreeCutsSaid :=
  OpenClaim.holds_of_wide 7 Try.f7 rfl rfl rfl rfl rfl rfl rfl ⟨rfl, rfl, rfl, rfl, rfl⟩ rfl rfl rfl rfl rfl (by kernel_rfl) Try.func7 (by kernel_rfl)
    (of_decide_eq_true (by kernel_rfl)) (by unfold Func.isWrapper; first | (rw [if_pos (by decide +kernel)]; kernel_rfl) | (rw [if_neg (by decide +kernel)]; exact ⟨rfl, rfl⟩))
    (fun os started H enc _ => lifted os started H enc)
end Go.Proofs.Ytlddhpjokiphfaa.TCuts
