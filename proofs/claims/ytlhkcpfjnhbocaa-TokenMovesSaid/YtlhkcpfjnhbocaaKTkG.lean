/- The lives of layer 18. -/
import Derived.Test.YtlhkcpfjnhbocaaKTkF
namespace Go.Proofs.Ytlhkcpfjnhbocaa
set_option linter.unusedVariables false
set_option linter.unusedSimpArgs false
open Go.RowKit
set_option maxRecDepth 100000
/-- A code is read back. -/
theorem rd_codeT {k i t : Nat} (hk : k ≤ 255) (hi : i ≤ 1099511627776) (ht : t ≤ 1099511627776) : (rdK0 (codeT k i t)).1 = k ∧ (rdK1 (codeT k i t)).1 = i ∧ (rdK2 (codeT k i t)).1 = t := by
  have e0 : rdK0 (codeT k i t) = (k, some (grp i ++ (grp t ++ loB 4 (crcOf (headT k i t))))) := by
    unfold rdK0
    have e : codeT k i t = UInt8.ofNat k :: (grp i ++ (grp t ++ loB 4 (crcOf (headT k i t)))) := by
      unfold codeT headT grpL
      simp
    rw [e]
    show ((UInt8.ofNat k).toNat, _) = _
    rw [UInt8.toNat_ofNat', Nat.mod_eq_of_lt (by omega)]
  have e1 : rdK1 (codeT k i t) = (i, some (grp t ++ loB 4 (crcOf (headT k i t)))) := by
    unfold rdK1
    rw [e0]
    exact rdCount_putK i 1099511627776 _ (by omega) (by omega)
  have e2 : rdK2 (codeT k i t) = (t, some (loB 4 (crcOf (headT k i t)))) := by
    unfold rdK2
    rw [e1]
    exact rdCount_putK t 1099511627776 _ (by omega) (by omega)
  exact ⟨by rw [e0], by rw [e1], by rw [e2]⟩
theorem mayTok_le {k i t : Nat} (h : mayTok k i t = true) : k ≤ 2 ∧ i ≤ 1099511627776 ∧ t ≤ 1099511627776 := by
  unfold mayTok at h
  have := of_decide_eq_true h
  omega
theorem ok_codeT {k i t : Nat} (h : mayTok k i t = true) : okTok (codeT k i t) = true := by
  obtain ⟨h1, h2, h3⟩ := mayTok_le h
  obtain ⟨e0, e1, e2⟩ := rd_codeT (k := k) (i := i) (t := t) (by omega) h2 h3
  unfold okTok
  rw [e0, e1, e2, h]
  simp
theorem dec_codeT {k i t : Nat} (h : mayTok k i t = true) : decTok (codeT k i t) = .tuple #[tokV k i t, .int .i64 0] := by
  obtain ⟨h1, h2, h3⟩ := mayTok_le h
  obtain ⟨e0, e1, e2⟩ := rd_codeT (k := k) (i := i) (t := t) (by omega) h2 h3
  unfold decTok
  rw [ok_codeT h, e0, e1, e2]
  rfl
theorem codeT_len (k i t : Nat) : 7 ≤ (codeT k i t).length := by
  have h1 := (grp_length i).2
  have h2 := (grp_length t).2
  unfold codeT headT grpL
  simp only [List.length_append, loB_length, List.map_cons, List.map_nil, List.flatten_cons, List.flatten_nil, List.length_cons, List.length_nil]
  omega
theorem dec_short {l : List UInt8} (h : l.length < 7) : decTok l = .tuple #[tokV 0 0 0, .int .i64 180] := by
  have hk : okTok l = false := by
    unfold okTok
    rw [decide_eq_false (fun e => by have := codeT_len (rdK0 l).1 (rdK1 l).1 (rdK2 l).1; rw [e] at this; omega)]
    simp
  unfold decTok
  rw [hk]
  rfl
/-- An entry's cells that has but a term. -/
def entZ (t : Int) : List Value := [.int .i64 t, .int .i64 0, .string ⟨#[]⟩, .string ⟨#[]⟩, .int .i64 0, .int .i64 0, .string ⟨#[]⟩, .slice none 0 0, .slice none 0 0, .int .i64 0, .int .i64 0, .string ⟨#[]⟩, .slice none 0 0, .slice none 0 0, .slice none 0 0, .int .i64 0, .int .i64 0]
theorem code152 : codeT 1 5 2 = [1, 5, 2] ++ loB 4 (crcOf [1, 5, 2]) := rfl
theorem len152 : (codeT 1 5 2).length = 7 := by rw [code152, List.length_append, loB_length]; rfl
theorem two_terms (w : World) : TermsAt (w.alloc (.cells (entZ 2 ++ entZ 3).toArray 53)) (w.heap.size + 1) (some ⟨w.heap.size, 0, none⟩) [2, 3] := fun _ => by
  refine ⟨w.heap.size, 0, rfl, by omega, fun i hi => ?_⟩
  match i, hi with
  | 0, _ => exact Go.Joins.cell_of_block (heap_alloc_new w _) _
  | 1, _ => exact Go.Joins.cell_of_block (heap_alloc_new w _) _
set_option maxHeartbeats 8000000 in
theorem lives18_any (w : World) : Calls Try.prog 20 #[] w fun e w' => e = .returned (.bool true) ∧ Below w.heap.size w w' := by
  have hm : mayTok 1 5 2 = true := rfl
  have hx0 := KBox.new w 1 5 2
  have HE := Lib.hid (tenc_good 1 5 2 (w.alloc (.cells #[.int .i64 1, .int .i64 5, .int .i64 2] 37)) hm)
  have HB0 : Hid (Below w.heap.size w (w.alloc (.cells #[.int .i64 1, .int .i64 5, .int .i64 2] 37))) := Lib.hid ((Below.refl _ _).alloc (Nat.le_refl _) _)
  have HX0 := Lib.hid hx0
  clear hm hx0
  unfold tokV at HE
  go_enter Try.func20, Try.ntmps20
  go_wp2_with fail
  refine HE.out.mono ?_
  rintro e w1 ⟨v1, rfl, hv1, hb1⟩
  have HV1 := Lib.hid hv1
  have HX1 := Lib.hid (HX0.out.keep hb1 (by simp))
  have HB1 := Lib.hid (HB0.out.trans (hb1.mono (by simp)))
  have hd := tdec_any v1 (codeT 1 5 2) w1 hv1.rdY (by rw [len152]; omega)
  rw [dec_codeT rfl] at hd
  have HD := Lib.hid hd
  obtain ⟨A1, c1, rfl, -⟩ := hv1.rdY
  rw [len152] at HD ⊢
  clear hv1 hb1 hd HE HX0 HB0 HV1
  unfold tokV at HD
  go_wp2_with fail
  refine HD.out.mono ?_
  rintro e w2 ⟨rfl, hb2⟩
  have hz1 := HB1.out.size
  obtain ⟨X, hX⟩ : ∃ X : Obj, X = .cells #[.int .i64 1, .int .i64 5, .int .i64 2] 37 := ⟨_, rfl⟩
  obtain ⟨Y, hY⟩ : ∃ Y : Obj, Y = .cells #[.int .u8 1, .int .u8 5, .int .u8 2] 5 := ⟨_, rfl⟩
  have hx2 := (HX1.out.keep hb2 HX1.out.lt).alloc X
  have hy2 : KBox (w2.alloc X) w2.heap.size 1 5 2 := by rw [hX]; exact KBox.new w2 1 5 2
  have hb3 := (HB1.out.trans (hb2.mono hz1)).alloc (by have := hb2.size; omega) X
  obtain ⟨w3, hw3⟩ : ∃ W, W = w2.alloc X := ⟨_, rfl⟩
  have hz3 : w3.heap.size = w2.heap.size + 1 := by rw [hw3]; simp
  rw [← hw3] at hx2 hy2 hb3
  have hl3 : OwnB (w3.alloc Y) w3.heap.size (.slice (some ⟨w3.heap.size, 0, none⟩) 3 3) [1, 5, 2] := by rw [hY]; exact own_lit w3 [1, 5, 2] (by decide)
  have hd := tdec_any _ [1, 5, 2] (w3.alloc Y) hl3.rdY (by decide)
  rw [dec_short (by decide), hz3] at hd
  have HX3 := Lib.hid (hx2.alloc Y)
  have HY3 := Lib.hid (hy2.alloc Y)
  have HB3 := Lib.hid (hb3.alloc hb3.size Y)
  rw [hw3, hX, hY] at HX3 HY3 HB3 hd
  have HD3 := Lib.hid hd
  clear hb2 hz1 hX hY hx2 hy2 hb3 hw3 hz3 hl3 hd HX1 HB1 HD
  unfold tokV at HD3
  go_wp2_with fail
  refine HD3.out.mono ?_
  rintro e w4 ⟨rfl, hb4⟩
  have HX4 := Lib.hid (HX3.out.keep hb4 HX3.out.lt)
  have HY4 := Lib.hid (HY3.out.keep hb4 HY3.out.lt)
  have HB4 := Lib.hid (HB3.out.trans (hb4.mono HB3.out.size))
  obtain ⟨X, hX⟩ : ∃ X : Obj, X = .cells #[.int .i64 0, .int .i64 0, .int .i64 0] 37 := ⟨_, rfl⟩
  obtain ⟨Y, hY⟩ : ∃ Y : Obj, Y = .cells (entZ 2 ++ entZ 3).toArray 53 := ⟨_, rfl⟩
  obtain ⟨w5, hw5⟩ : ∃ W, W = w4.alloc X := ⟨_, rfl⟩
  have hz5 : w5.heap.size = w4.heap.size + 1 := by rw [hw5]; simp
  have ht6 : TermsAt (w5.alloc Y) (w5.alloc Y).heap.size (some ⟨w4.heap.size + 1, 0, none⟩) [2, 3] := by
    have h := two_terms w5
    rw [hY]
    rw [hz5] at h
    exact h.up (by simp; omega)
  have hx6 := (HX4.out.alloc X)
  have hy6 := (HY4.out.alloc X)
  have hb6 := HB4.out.alloc HB4.out.size X
  rw [← hw5] at hx6 hy6 hb6
  have HX6 := Lib.hid (hx6.alloc Y)
  have HY6 := Lib.hid (hy6.alloc Y)
  have HB6 := Lib.hid (hb6.alloc hb6.size Y)
  have HT6 := Lib.hid ht6
  have HBE := Lib.hid (tbehind_ok 6 5 1 3 (w5.alloc Y).heap.size 2 _ [2, 3] (w5.alloc Y) ht6 (Nat.le_refl _) (by decide) (by decide) (by decide) (by decide) rfl)
  have HWE : Hid (w5.alloc Y = (w4.alloc (.cells #[.int .i64 0, .int .i64 0, .int .i64 0] 37)).alloc (.cells (entZ 2 ++ entZ 3).toArray 53)) := Lib.hid (by rw [hw5, hX, hY])
  obtain ⟨w6, hw6⟩ : ∃ W, W = w5.alloc Y := ⟨_, rfl⟩
  rw [← hw6] at HX6 HY6 HB6 HT6 HBE HWE
  clear hb4 hX hY hw5 hz5 ht6 hx6 hy6 hb6 hw6 HX3 HY3 HB3 HD3 HX4 HY4 HB4
  unfold tokV at HBE
  go_wp2_with fail
  have hwe := HWE.out
  simp only [entZ, List.cons_append, List.nil_append] at hwe
  rw [← hwe]
  clear HWE hwe
  refine HBE.out.mono ?_
  rintro e w7 ⟨rfl, hb7⟩
  obtain ⟨X, hX⟩ : ∃ X : Obj, X = .cells #[.int .i64 1, .int .i64 6, .int .i64 3] 37 := ⟨_, rfl⟩
  obtain ⟨w8, hw8⟩ : ∃ W, W = w7.alloc X := ⟨_, rfl⟩
  have hz8 : w8.heap.size = w7.heap.size + 1 := by rw [hw8]; simp
  have hx8 := (HX6.out.keep hb7 HX6.out.lt).alloc X
  have hy8 := (HY6.out.keep hb7 HY6.out.lt).alloc X
  have hb8 := (HB6.out.trans (hb7.mono HB6.out.size)).alloc (by have := hb7.size; have := HB6.out.size; omega) X
  have ht8 := (HT6.out.keep hb7).keep ((Below.refl w6.heap.size w7).alloc hb7.size X)
  have hc8 : KBox (w7.alloc X) w7.heap.size 1 6 3 := by rw [hX]; exact KBox.new w7 1 6 3
  rw [← hw8] at hx8 hy8 hb8 ht8 hc8
  have HX8 := Lib.hid hx8
  have HY8 := Lib.hid hy8
  have HC8 := Lib.hid hc8
  have HB8 := Lib.hid hb8
  have HT8 := Lib.hid (ht8.up (B' := w8.heap.size) (by have := hb7.size; omega))
  have HWE : Hid (w7.alloc (.cells #[.int .i64 1, .int .i64 6, .int .i64 3] 37) = w8) := Lib.hid (by rw [hw8, hX])
  clear hb7 hX hw8 hx8 hy8 hb8 ht8 hc8 hz8 HX6 HY6 HB6 HT6 HBE
  have c0 := HX8.out.g0
  have c1 := HX8.out.g1
  have c2 := HX8.out.g2
  have d0 := HY8.out.g0
  have d1 := HY8.out.g1
  have d2 := HY8.out.g2
  rw [← HWE.out] at c0 c1 c2 d0 d1 d2
  go_wp2_with fail
  have HM := Lib.hid (tmay_any 1 5 2 w8)
  rw [show mayTok 1 5 2 = true from rfl] at HM
  rw [HWE.out]
  clear HWE c0 c1 c2 d0 d1 d2
  unfold tokV at HM
  refine HM.out.mono ?_
  rintro e w9 ⟨rfl, hb⟩
  have HX9 := Lib.hid (HX8.out.keep hb HX8.out.lt)
  have HY9 := Lib.hid (HY8.out.keep hb HY8.out.lt)
  have HC9 := Lib.hid (HC8.out.keep hb HC8.out.lt)
  have HB9 := Lib.hid (HB8.out.trans (hb.mono HB8.out.size))
  have HT9 := Lib.hid ((HT8.out.keep hb).up hb.size)
  clear hb HM HX8 HY8 HC8 HB8 HT8
  have c0 := HX9.out.g0
  have c1 := HX9.out.g1
  have c2 := HX9.out.g2
  have d0 := HC9.out.g0
  have d1 := HC9.out.g1
  have d2 := HC9.out.g2
  go_wp2_with fail
  have HM := Lib.hid (tmay_any 0 0 0 w9)
  rw [show mayTok 0 0 0 = false from rfl] at HM
  clear c0 c1 c2 d0 d1 d2
  refine HM.out.mono ?_
  rintro e w10 ⟨rfl, hb⟩
  have HX10 := Lib.hid (HX9.out.keep hb HX9.out.lt)
  have HY10 := Lib.hid (HY9.out.keep hb HY9.out.lt)
  have HC10 := Lib.hid (HC9.out.keep hb HC9.out.lt)
  have HB10 := Lib.hid (HB9.out.trans (hb.mono HB9.out.size))
  have HT10 := Lib.hid ((HT9.out.keep hb).up hb.size)
  clear hb HM HX9 HY9 HC9 HB9 HT9
  have c0 := HX10.out.g0
  have c1 := HX10.out.g1
  have c2 := HX10.out.g2
  have d0 := HC10.out.g0
  have d1 := HC10.out.g1
  have d2 := HC10.out.g2
  go_wp2_with fail
  have HM := Lib.hid (thome_any 1 5 2 5 1 w10.heap.size 2 _ [2, 3] w10 HT10.out (Nat.le_refl _) (by decide) (by decide) (by decide))
  rw [show homeT 1 5 2 5 1 [2, 3] = 0 from rfl] at HM
  clear c0 c1 c2 d0 d1 d2
  refine HM.out.mono ?_
  rintro e w11 ⟨rfl, hb⟩
  have HX11 := Lib.hid (HX10.out.keep hb HX10.out.lt)
  have HY11 := Lib.hid (HY10.out.keep hb HY10.out.lt)
  have HC11 := Lib.hid (HC10.out.keep hb HC10.out.lt)
  have HB11 := Lib.hid (HB10.out.trans (hb.mono HB10.out.size))
  have HT11 := Lib.hid ((HT10.out.keep hb).up hb.size)
  clear hb HM HX10 HY10 HC10 HB10 HT10
  have c0 := HX11.out.g0
  have c1 := HX11.out.g1
  have c2 := HX11.out.g2
  have d0 := HC11.out.g0
  have d1 := HC11.out.g1
  have d2 := HC11.out.g2
  go_wp2_with fail
  have HM := Lib.hid (thome_any 1 5 2 7 9 w11.heap.size 2 _ [2, 3] w11 HT11.out (Nat.le_refl _) (by decide) (by decide) (by decide))
  rw [show homeT 1 5 2 7 9 [2, 3] = 181 from rfl] at HM
  clear c0 c1 c2 d0 d1 d2
  refine HM.out.mono ?_
  rintro e w12 ⟨rfl, hb⟩
  have HX12 := Lib.hid (HX11.out.keep hb HX11.out.lt)
  have HY12 := Lib.hid (HY11.out.keep hb HY11.out.lt)
  have HC12 := Lib.hid (HC11.out.keep hb HC11.out.lt)
  have HB12 := Lib.hid (HB11.out.trans (hb.mono HB11.out.size))
  have HT12 := Lib.hid ((HT11.out.keep hb).up hb.size)
  clear hb HM HX11 HY11 HC11 HB11 HT11
  have c0 := HX12.out.g0
  have c1 := HX12.out.g1
  have c2 := HX12.out.g2
  have d0 := HC12.out.g0
  have d1 := HC12.out.g1
  have d2 := HC12.out.g2
  go_wp2_with fail
  have HM := Lib.hid (thome_any 1 5 2 6 2 w12.heap.size 0 none [] w12 (TermsAt.nil _ _ _) (Nat.le_refl _) (by decide) (by decide) (by decide))
  rw [show homeT 1 5 2 6 2 [] = 0 from rfl] at HM
  clear c0 c1 c2 d0 d1 d2
  refine HM.out.mono ?_
  rintro e w13 ⟨rfl, hb⟩
  have HX13 := Lib.hid (HX12.out.keep hb HX12.out.lt)
  have HY13 := Lib.hid (HY12.out.keep hb HY12.out.lt)
  have HC13 := Lib.hid (HC12.out.keep hb HC12.out.lt)
  have HB13 := Lib.hid (HB12.out.trans (hb.mono HB12.out.size))
  have HT13 := Lib.hid ((HT12.out.keep hb).up hb.size)
  clear hb HM HX12 HY12 HC12 HB12 HT12
  have c0 := HX13.out.g0
  have c1 := HX13.out.g1
  have c2 := HX13.out.g2
  have d0 := HC13.out.g0
  have d1 := HC13.out.g1
  have d2 := HC13.out.g2
  go_wp2_with fail
  have HM := Lib.hid (thome_any 1 5 2 6 3 w13.heap.size 0 none [] w13 (TermsAt.nil _ _ _) (Nat.le_refl _) (by decide) (by decide) (by decide))
  rw [show homeT 1 5 2 6 3 [] = 180 from rfl] at HM
  clear c0 c1 c2 d0 d1 d2
  refine HM.out.mono ?_
  rintro e w14 ⟨rfl, hb⟩
  have HX14 := Lib.hid (HX13.out.keep hb HX13.out.lt)
  have HY14 := Lib.hid (HY13.out.keep hb HY13.out.lt)
  have HC14 := Lib.hid (HC13.out.keep hb HC13.out.lt)
  have HB14 := Lib.hid (HB13.out.trans (hb.mono HB13.out.size))
  have HT14 := Lib.hid ((HT13.out.keep hb).up hb.size)
  clear hb HM HX13 HY13 HC13 HB13 HT13
  have c0 := HX14.out.g0
  have c1 := HX14.out.g1
  have c2 := HX14.out.g2
  have d0 := HC14.out.g0
  have d1 := HC14.out.g1
  have d2 := HC14.out.g2
  go_wp2_with fail
  go_ret
  exact ⟨rfl, HB14.out⟩
end Go.Proofs.Ytlhkcpfjnhbocaa
