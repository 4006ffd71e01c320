/- A token read by the document. -/
import Derived.Test.YtlhkcpfjnhbocaaKTkD
import Derived.Test.YtlhkcpfjnhbocaaKReg
import Derived.Test.YtlhkcpfjnhbocaaKRefA
namespace Go.Proofs.Ytlhkcpfjnhbocaa
set_option linter.unusedVariables false
set_option linter.unusedSimpArgs false
open Go.RowKit
set_option maxRecDepth 100000
/-- What bytes are as a token, by the document. -/
def rdecTok (l : List UInt8) : Value := if okTok l then .tuple #[tokV (rdK0 l).1 (rdK1 l).1 (rdK2 l).1, .bool true] else .tuple #[tokV 0 0 0, .bool false]
theorem rdCount_putK (n : Nat) (m : Int) (r : List UInt8) (h : n ≤ 4611686018427387904) (hm : (n : Int) ≤ m) : rdCount m (some (grp n ++ r)) = (n, some r) := by
  unfold rdCount
  rw [if_neg (by omega)]
  simp only [rdN, getG_grp n r (by omega)]
  rw [if_neg (by unfold mc; split <;> (intro h; have := (grp_length n).2; omega)), List.drop_left' rfl]
theorem rdN_none0 (m : Nat) : rdN m none = (0, none) := rfl
theorem rdCount_st_none (n : Int) : rdCount n none = (0, none) := by unfold rdCount; split <;> rfl
/-- What is a code of a token was read to the end of its numbers. -/
theorem ok_some {l : List UInt8} (h : okTok l = true) : (rdK2 l).2 ≠ none := by
  unfold okTok at h
  simp only [Bool.and_eq_true] at h
  have h1 := of_decide_eq_true h.1
  have h2 := of_decide_eq_true h.2
  generalize hk : (rdK0 l).1 = k at *
  generalize hi : (rdK1 l).1 = i at *
  generalize ht : (rdK2 l).1 = t at *
  have e0 : rdK0 l = (k, some (grp i ++ (grp t ++ loB 4 (crcOf (headT k i t))))) := by
    unfold rdK0
    rw [← h2]
    have e : codeT k i t = UInt8.ofNat k :: (grp i ++ (grp t ++ loB 4 (crcOf (headT k i t)))) := by
      unfold codeT headT grpL
      simp
    rw [e]
    show ((UInt8.ofNat k).toNat, _) = _
    rw [UInt8.toNat_ofNat', Nat.mod_eq_of_lt (by omega)]
  have e1 : rdK1 l = (i, some (grp t ++ loB 4 (crcOf (headT k i t)))) := by
    unfold rdK1
    rw [e0]
    exact rdCount_putK i 1099511627776 _ (by omega) (by omega)
  have e2 : rdK2 l = (t, some (loB 4 (crcOf (headT k i t)))) := by
    unfold rdK2
    rw [e1]
    exact rdCount_putK t 1099511627776 _ (by omega) (by omega)
  rw [e2]
  exact fun h => by cases h
theorem RS.kb {w w' : World} {g B : Nat} {st : Option (List UInt8)} (h : RS w g B st) (hb : Below w.heap.size w w') (hB : B ≤ w.heap.size) : RS w' g B st := h.keep (hb.block g h.lt) (hb.mono hB)
set_option maxHeartbeats 8000000 in
theorem rtdec_any (v : Value) (l : List UInt8) (w : World) (hr : Rd w w.heap.size v l) (hl : l.length ≤ 9223372036854775807) :
    Calls Try.prog 25 #[v] w fun e w' => e = .returned (rdecTok l) ∧ Below w.heap.size w w' := by
  have HR := Lib.hid hr
  obtain ⟨A, cap, rfl, -⟩ := id hr
  have hx0 : KBox (w.alloc (.cells #[.int .i64 0, .int .i64 0, .int .i64 0] 37)) w.heap.size 0 0 0 := KBox.new w 0 0 0
  have hb0 : Below w.heap.size w (w.alloc (.cells #[.int .i64 0, .int .i64 0, .int .i64 0] 37)) := (Below.refl _ _).alloc (Nat.le_refl _) _
  obtain ⟨n, hn⟩ : ∃ n, n = l.length := ⟨_, rfl⟩
  rw [← hn] at HR ⊢
  have hz0 : (w.alloc (.cells #[.int .i64 0, .int .i64 0, .int .i64 0] 37)).heap.size = w.heap.size + 1 := by simp
  have hs1 : RS ((w.alloc (.cells #[.int .i64 0, .int .i64 0, .int .i64 0] 37)).alloc (.cells #[.slice A n cap, .bool false] 77)) (w.heap.size + 1) w.heap.size (some l) := by
    refine ⟨.slice A n cap, ?_, (HR.out.keep hb0).keep ((Below.refl _ _).alloc (by omega) _)⟩
    have h := heap_alloc_new (w.alloc (.cells #[.int .i64 0, .int .i64 0, .int .i64 0] 37)) (.cells #[.slice A n cap, .bool false] 77)
    rw [hz0] at h
    exact h
  have HS1 := Lib.hid hs1
  have HX1 := Lib.hid (hx0.alloc (.cells #[.slice A n cap, .bool false] 77))
  have HB1 := Lib.hid (hb0.alloc (by omega) (.cells #[.slice A n cap, .bool false] 77))
  have HN := Lib.hid hn
  clear hr hx0 hb0 hz0 hs1 hn
  go_enter Try.func25, Try.ntmps25
  go_wp2_with fail
  refine (rsbyte_any _ _ _ _ HS1.out (by omega)).mono ?_
  rintro e w2 ⟨rfl, hs2, ho2⟩
  obtain ⟨k, hk⟩ : ∃ k, k = (rdK0 l).1 := ⟨_, rfl⟩
  have hk' : (rdByte (some l)).1 = k := hk.symm
  have hs2' : RS w2 (w.heap.size + 1) w.heap.size (rdK0 l).2 := hs2
  rw [hk']
  have hb2 : Below w.heap.size w w2 := HB1.out.trans (ho2.below (by have := HB1.out.size; omega) (by omega))
  have hx2 := HX1.out.only ho2 (by omega)
  have hz2 := hs2'.lt
  have hw2 : w.heap.size ≤ w2.heap.size := by omega
  have hw3 : w.heap.size + 1 ≠ w2.heap.size := by omega
  obtain ⟨X, hX⟩ : ∃ X : Obj, X = .cells #[.int .i64 (k : Int), .int .i64 0, .int .i64 0] 37 := ⟨_, rfl⟩
  have hq3 : KBox (w2.alloc X) w2.heap.size k 0 0 := by rw [hX]; exact KBox.new w2 k 0 0
  have hx3 := hx2.alloc X
  have hs3 : RS (w2.alloc X) (w.heap.size + 1) w.heap.size (rdK0 l).2 := hs2'.kb ((Below.refl _ _).alloc (Nat.le_refl _) _) (by omega)
  have hb3 := hb2.alloc (by omega) X
  rw [hX] at hq3 hx3 hs3 hb3
  have HQ3 := Lib.hid hq3
  have HX3 := Lib.hid hx3
  have HS3 := Lib.hid hs3
  have HB3 := Lib.hid hb3
  have HK := Lib.hid hk
  clear hs2 ho2 hs2' hb2 hx2 hX hq3 hx3 hs3 hb3 hk hk' HB1 HX1 HS1
  go_wp2_with fail
  refine (rscount_any _ _ 1099511627776 _ _ HS3.out (by omega) (by omega)).mono ?_
  rintro e w4 ⟨rfl, hs4, ho4⟩
  obtain ⟨i, hi⟩ : ∃ i, i = (rdK1 l).1 := ⟨_, rfl⟩
  have hi' : (rdCount 1099511627776 (rdK0 l).2).1 = i := hi.symm
  have hs4' : RS w4 (w.heap.size + 1) w.heap.size (rdK1 l).2 := hs4
  rw [hi']
  have hb4 : Below w.heap.size w w4 := HB3.out.trans (ho4.below (by have := HB3.out.size; omega) (by omega))
  have hx4 := HX3.out.only ho4 (by omega)
  have hq4 := HQ3.out.only ho4 (by omega)
  obtain ⟨w5, hw5⟩ : ∃ W, W = w4.setCell ⟨w2.heap.size, 1, none⟩ (.int .i64 (i : Int)) := ⟨_, rfl⟩
  have hq5 := hq4.set1 (i : Int)
  have hx5 := hx4.other w2.heap.size 1 (.int .i64 (i : Int)) (by omega)
  have hs5 : RS (w4.setCell ⟨w2.heap.size, 1, none⟩ (.int .i64 (i : Int))) (w.heap.size + 1) w.heap.size (rdK1 l).2 := hs4'.keep (heap_setCell_other _ ⟨w2.heap.size, 1, none⟩ _ _ hw3) ((Below.refl _ _).setCell (p := ⟨w2.heap.size, 1, none⟩) hw2 _)
  have hb5 := hb4.setCell (p := ⟨w2.heap.size, 1, none⟩) (by show w.heap.size ≤ w2.heap.size; omega) (.int .i64 (i : Int))
  have q4 := hq4.g1
  have q4f := fun j => hq4.free j
  rw [← hw5] at hq5 hx5 hs5 hb5
  have HW5 := Lib.hid hw5
  have HQ5 := Lib.hid hq5
  have HX5 := Lib.hid hx5
  have HS5 := Lib.hid hs5
  have HB5 := Lib.hid hb5
  have HI := Lib.hid hi
  clear hs4 ho4 hs4' hb4 hx4 hq4 hw5 hq5 hx5 hs5 hb5 hi hi' HQ3 HX3 HS3 HB3
  go_wp2_with fail
  rw [← HW5.out]
  clear HW5 q4 q4f
  refine (rscount_any _ _ 1099511627776 _ _ HS5.out (by omega) (by omega)).mono ?_
  rintro e w6 ⟨rfl, hs6, ho6⟩
  obtain ⟨t, ht⟩ : ∃ t, t = (rdK2 l).1 := ⟨_, rfl⟩
  have ht' : (rdCount 1099511627776 (rdK1 l).2).1 = t := ht.symm
  have hs6' : RS w6 (w.heap.size + 1) w.heap.size (rdK2 l).2 := hs6
  rw [ht']
  have hb6 : Below w.heap.size w w6 := HB5.out.trans (ho6.below HB5.out.size (by omega))
  have hx6 := HX5.out.only ho6 (by omega)
  have hq6 := HQ5.out.only ho6 (by omega)
  obtain ⟨w7, hw7⟩ : ∃ W, W = w6.setCell ⟨w2.heap.size, 2, none⟩ (.int .i64 (t : Int)) := ⟨_, rfl⟩
  have hq7 := hq6.set2 (t : Int)
  have hx7 := hx6.other w2.heap.size 2 (.int .i64 (t : Int)) (by omega)
  have hs7 : RS (w6.setCell ⟨w2.heap.size, 2, none⟩ (.int .i64 (t : Int))) (w.heap.size + 1) w.heap.size (rdK2 l).2 := hs6'.keep (heap_setCell_other _ ⟨w2.heap.size, 2, none⟩ _ _ hw3) ((Below.refl _ _).setCell (p := ⟨w2.heap.size, 2, none⟩) hw2 _)
  have hb7 := hb6.setCell (p := ⟨w2.heap.size, 2, none⟩) (by show w.heap.size ≤ w2.heap.size; omega) (.int .i64 (t : Int))
  have q6 := hq6.g2
  have q6f := fun j => hq6.free j
  rw [← hw7] at hq7 hx7 hb7 hs7
  have HW7 := Lib.hid hw7
  have HQ7 := Lib.hid hq7
  have HX7 := Lib.hid hx7
  have HB7 := Lib.hid hb7
  have HS7 := Lib.hid hs7
  have HT := Lib.hid ht
  clear hs6 ho6 hs6' hb6 hx6 hq6 hw7 hq7 hx7 hb7 hs7 ht ht' HQ5 HX5 HS5 HB5
  cases hst : (rdK2 l).2 with
  | none =>
    have HCK : Hid (okTok l = false) := Lib.hid (by
      cases h : okTok l with
      | false => rfl
      | true => exact absurd hst (ok_some h))
    have hs7 := HS7.out
    rw [hst] at hs7
    obtain ⟨Au, nu, cu, hu⟩ := hs7
    obtain ⟨-, e1, -, -⟩ := rcells hu
    have hx8 := HX7.out
    have HX8 : Hid (KBox w7.drew w.heap.size 0 0 0) := Lib.hid hx8
    have HB8 : Hid (Below w.heap.size w w7.drew) := Lib.hid HB7.out.drew
    clear hst hu
    have hz7 := HB7.out.size
    have hgl := HS7.out.lt
    go_wp2_with fail
    rw [← HW7.out]
    clear HW7 q6 q6f
    refine wp_region_mix [0, 1, 2, 3, 4, 5, 6, 7, 8, 9, 10, 13, 14, 11, 12, 15, 16] (by kernel_rfl) (by kernel_rfl) (fun _ d _ _ _ h => by cases d <;> exact h) ?_
    simp only [atNats, List.filterMap_cons, List.filterMap_nil, List.getElem?_toArray, List.getElem?_cons_succ, List.getElem?_cons_zero]
    have z := cell_later (B := w7.heap.size) (w := w7.drew) e1 (by show w.heap.size + 1 < w7.heap.size; omega)
    first | refine mix_pure ?_ | refine mix_pureB ?_
    simp only [List.takeWhile, List.dropWhile, isPure, Nat.reduceBNe]
    repeat (go_big_quiet_step (fail))
    refine wpQuiet_nil ?_
    first | refine mix_call rfl (fun K hK => ?_) | refine mix_callB rfl (fun K hK => ?_)
    go_simp
    refine hK _ _ (Below.refl _ _) ?_
    clear hK K
    try simp only [Act.put]
    first | refine mix_pure ?_ | refine mix_pureB ?_
    simp only [List.takeWhile, List.dropWhile, isPure, Nat.reduceBNe]
    repeat (go_big_quiet_step (fail))
    refine wpQuiet_nil ?_
    first | refine mix_call rfl (fun K hK => ?_) | refine mix_callB rfl (fun K hK => ?_)
    go_simp
    refine hK _ _ (Below.refl _ _) ?_
    clear hK K
    try simp only [Act.put]
    first | refine mix_pure ?_ | refine mix_pureB ?_
    simp only [List.takeWhile, List.dropWhile, isPure, Nat.reduceBNe]
    repeat (go_big_quiet_step (fail))
    refine wpQuiet_nil ?_
    unfold wpMix
    have c0 := HX7.out.g0
    have c1 := HX7.out.g1
    have c2 := HX7.out.g2
    have cf := fun j => HX7.out.free j
    clear z e1 hx8
    go_wp2_with fail
    refine bodyPost_ret (results_cell_k rfl _ _ w.heap.size 37 _ (0, 0) rfl (three_box HX8.out) (by kernel_rfl)) rfl ?_
    refine ⟨?_, three_below HB8.out (Nat.le_refl _)⟩
    unfold rdecTok
    rw [HCK.out]
    rfl
  | some r =>
    have hs7 := HS7.out
    rw [hst] at hs7
    obtain ⟨Au, hu, -⟩ := hs7
    obtain ⟨-, e1, -, -⟩ := rcells hu
    have b0 := HQ7.out.g0
    have b1 := HQ7.out.g1
    have b2 := HQ7.out.g2
    have hql := HQ7.out.lt
    clear hst hu
    have hz7 := HB7.out.size
    have hgl := HS7.out.lt
    go_wp2_with fail
    rw [← HW7.out]
    clear HW7 q6 q6f
    refine wp_region_mix [0, 1, 2, 3, 4, 5, 6, 7, 8, 9, 10, 13, 14, 11, 12, 15, 16] (by kernel_rfl) (by kernel_rfl) (fun _ d _ _ _ h => by cases d <;> exact h) ?_
    simp only [atNats, List.filterMap_cons, List.filterMap_nil, List.getElem?_toArray, List.getElem?_cons_succ, List.getElem?_cons_zero]
    have z := cell_later (B := w7.heap.size) (w := w7.drew) e1 (by show w.heap.size + 1 < w7.heap.size; omega)
    have z0 := cell_later (B := w7.heap.size) (w := w7.drew) b0 hql
    have z1 := cell_later (B := w7.heap.size) (w := w7.drew) b1 hql
    have z2 := cell_later (B := w7.heap.size) (w := w7.drew) b2 hql
    first | refine mix_pure ?_ | refine mix_pureB ?_
    simp only [List.takeWhile, List.dropWhile, isPure, Nat.reduceBNe]
    repeat (go_big_quiet_step (fail))
    refine wpQuiet_nil ?_
    clear z z0 z1 z2 e1 b0 b1 b2
    first | refine mix_call rfl (fun K hK => ?_) | refine mix_callB rfl (fun K hK => ?_)
    go_simp
    refine (rtmay_any k i t _).mono ?_
    rintro e w8 ⟨rfl, hb⟩
    refine hK _ _ hb ?_
    clear hK K
    try simp only [Act.put]
    have hb8 := HB7.out.drew.trans (hb.mono hz7)
    have HQ8 : Hid (KBox w8 w2.heap.size k i t) := Lib.hid ((show KBox w7.drew w2.heap.size k i t from HQ7.out).keep hb HQ7.out.lt)
    have HX8 : Hid (KBox w8 w.heap.size 0 0 0) := Lib.hid ((show KBox w7.drew w.heap.size 0 0 0 from HX7.out).keep hb HX7.out.lt)
    have HB8 := Lib.hid hb8
    clear hb hb8
    have hz8 := HB8.out.size
    by_cases hm : mayTok k i t = true
    · rw [hm]
      have hm2 : k ≤ 2 ∧ i ≤ 1099511627776 ∧ t ≤ 1099511627776 := by
        unfold mayTok at hm
        have := of_decide_eq_true hm
        omega
      have hql8 := HQ8.out.lt
      have z0 := cell_later (B := w8.heap.size) (w := w8) HQ8.out.g0 hql8
      have z1 := cell_later (B := w8.heap.size) (w := w8) HQ8.out.g1 hql8
      have z2 := cell_later (B := w8.heap.size) (w := w8) HQ8.out.g2 hql8
      have cv := run_later (B := w8.heap.size) (w := w8) (s := convert 22 9 (.slice A n cap)) fun u hu => ((HR.out.keep HB8.out).keep (hu.mono hz8)).strY
      first | refine mix_pure ?_ | refine mix_pureB ?_
      simp only [List.takeWhile, List.dropWhile, isPure, Nat.reduceBNe]
      repeat (go_big_quiet_step (fail))
      refine wpQuiet_nil ?_
      clear z0 z1 z2 cv
      first | refine mix_call rfl (fun K hK => ?_) | refine mix_callB rfl (fun K hK => ?_)
      go_simp
      refine (rtcode_any k i t w8 hm2.1 hm2.2.1 hm2.2.2).mono ?_
      rintro e w9 ⟨v9, rfl, hv9, hb⟩
      refine hK _ _ hb ?_
      clear hK K
      try simp only [Act.put]
      have HB9 := Lib.hid (HB8.out.trans (hb.mono hz8))
      have HX9 := Lib.hid (HX8.out.keep hb HX8.out.lt)
      have HQ9 := Lib.hid (HQ8.out.keep hb HQ8.out.lt)
      have cv := run_later (B := w9.heap.size) (w := w9) (s := convert 22 9 v9) fun u hu => ((hv9.rdY).keep hu).strY
      have HBE := Lib.hid (ba_beq (codeT k i t) l)
      clear hb hv9 hql8 HX8 HQ8 HB8
      have hx8 := HX9.out
      have hq8 := HQ9.out
      have HX8 := HX9
      have HB8 := HB9
      have c0 := hx8.g0
      have c1 := hx8.g1
      have c2 := hx8.g2
      have cf := fun j => hx8.free j
      have d0 := hq8.g0
      have d1 := hq8.g1
      have d2 := hq8.g2
      by_cases hc : codeT k i t = l
      · have HCK : Hid (okTok l = true) := Lib.hid (by unfold okTok; rw [← HK.out, ← HI.out, ← HT.out, hm, decide_eq_true hc]; rfl)
        have hbe := HBE.out
        rw [decide_eq_true hc] at hbe
        obtain ⟨xs, hxs⟩ : ∃ x, x = (⟨(codeT k i t).toArray⟩ : ByteArray) := ⟨_, rfl⟩
        obtain ⟨ys, hys⟩ : ∃ x, x = (⟨l.toArray⟩ : ByteArray) := ⟨_, rfl⟩
        rw [← hxs] at cv hbe
        rw [← hys] at hbe ⊢
        have hne : (xs.toList != ys.toList) = false := by unfold bne; rw [hbe]; rfl
        clear hc hxs hys hx8 hq8 HBE
        first | refine mix_pure ?_ | refine mix_pureB ?_
        simp only [List.takeWhile, List.dropWhile, isPure, Nat.reduceBNe]
        repeat (go_big_quiet_step (fail))
        refine wpQuiet_nil ?_
        unfold wpMix
        clear cv
        go_wp2_with fail
        refine bodyPost_ret (results_cell_k rfl _ _ w.heap.size 37 _ (0, 0) rfl (three_box HX8.out) (by kernel_rfl)) rfl ?_
        refine ⟨?_, three_below HB8.out (Nat.le_refl _)⟩
        unfold rdecTok
        rw [HCK.out, ← HK.out, ← HI.out, ← HT.out]
        rfl
      · have HCK : Hid (okTok l = false) := Lib.hid (by unfold okTok; rw [← HK.out, ← HI.out, ← HT.out, hm, decide_eq_false hc]; rfl)
        have hbe := HBE.out
        rw [decide_eq_false hc] at hbe
        obtain ⟨xs, hxs⟩ : ∃ x, x = (⟨(codeT k i t).toArray⟩ : ByteArray) := ⟨_, rfl⟩
        obtain ⟨ys, hys⟩ : ∃ x, x = (⟨l.toArray⟩ : ByteArray) := ⟨_, rfl⟩
        rw [← hxs] at cv hbe
        rw [← hys] at hbe ⊢
        have hne : (xs.toList != ys.toList) = true := by unfold bne; rw [hbe]; rfl
        clear hc hxs hys hx8 hq8 HBE
        first | refine mix_pure ?_ | refine mix_pureB ?_
        simp only [List.takeWhile, List.dropWhile, isPure, Nat.reduceBNe]
        repeat (go_big_quiet_step (fail))
        refine wpQuiet_nil ?_
        unfold wpMix
        clear cv
        go_wp2_with fail
        refine bodyPost_ret (results_cell_k rfl _ _ w.heap.size 37 _ (0, 0) rfl (three_box HX8.out) (by kernel_rfl)) rfl ?_
        refine ⟨?_, three_below HB8.out (Nat.le_refl _)⟩
        unfold rdecTok
        rw [HCK.out]
        rfl
    · have hm' : mayTok k i t = false := by simpa using hm
      have HCK : Hid (okTok l = false) := Lib.hid (by unfold okTok; rw [← HK.out, ← HI.out, ← HT.out, hm']; rfl)
      rw [hm']
      clear hm hm'
      first | refine mix_pure ?_ | refine mix_pureB ?_
      simp only [List.takeWhile, List.dropWhile, isPure, Nat.reduceBNe]
      repeat (go_big_quiet_step (fail))
      refine wpQuiet_nil ?_
      first | refine mix_call rfl (fun K hK => ?_) | refine mix_callB rfl (fun K hK => ?_)
      go_simp
      refine hK _ _ (Below.refl _ _) ?_
      clear hK K
      try simp only [Act.put]
      first | refine mix_pure ?_ | refine mix_pureB ?_
      simp only [List.takeWhile, List.dropWhile, isPure, Nat.reduceBNe]
      repeat (go_big_quiet_step (fail))
      refine wpQuiet_nil ?_
      unfold wpMix
      have c0 := HX8.out.g0
      have c1 := HX8.out.g1
      have c2 := HX8.out.g2
      have cf := fun j => HX8.out.free j
      go_wp2_with fail
      refine bodyPost_ret (results_cell_k rfl _ _ w.heap.size 37 _ (0, 0) rfl (three_box HX8.out) (by kernel_rfl)) rfl ?_
      refine ⟨?_, three_below HB8.out (Nat.le_refl _)⟩
      unfold rdecTok
      rw [HCK.out]
      rfl
end Go.Proofs.Ytlhkcpfjnhbocaa
