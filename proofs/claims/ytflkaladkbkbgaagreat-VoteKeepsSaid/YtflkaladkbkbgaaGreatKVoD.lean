/- Ballots. -/
import Derived.Test.YtflkaladkbkbgaaGreatKVoB
namespace Go.Proofs.YtflkaladkbkbgaaGreat
set_option linter.unusedVariables false
set_option linter.unusedSimpArgs false
open Go.RowKit Go.Maps
set_option maxRecDepth 100000
def bv (t n : Int) : Value := .agg #[.int .i64 t, .int .i64 n]
def mayB (t n : Int) : Bool := decide (0 ≤ t) && decide (t ≤ 1099511627776) && decide (-1 ≤ n) && decide (n ≤ 63)
/-- May (t, n) follow (t', n')? -/
def followB (t n t' n' : Int) : Bool := if t = t' then decide (n' = -1) || decide (n' = n) else decide (t' < t)
theorem below_two (w : World) (o o' : Obj) : Below w.heap.size w ((w.alloc o).alloc o') := (two_below w o).trans ((two_below _ o').mono (by simp))
set_option maxHeartbeats 4000000 in
theorem may_any (t n : Int) (w : World) : Calls Tryz.prog 26 #[.agg #[.int .i64 t, .int .i64 n]] w fun e w' => e = .returned (.bool (mayB t n)) ∧ Below w.heap.size w w' := by
  have HB := Lib.hid (two_below w (.cells #[.int .i64 t, .int .i64 n] 51))
  obtain ⟨r, hr⟩ : ∃ r, r = mayB t n := ⟨_, rfl⟩
  have HR := Lib.hid hr
  rw [← hr]
  clear hr
  go_enter Tryz.func26, Tryz.ntmps26
  obtain ⟨b1, d1⟩ : ∃ b, decide ((0 : Int) ≤ t) = b := ⟨_, rfl⟩
  obtain ⟨b2, d2⟩ : ∃ b, decide (t ≤ 1099511627776) = b := ⟨_, rfl⟩
  obtain ⟨b3, d3⟩ : ∃ b, decide ((-1 : Int) ≤ n) = b := ⟨_, rfl⟩
  obtain ⟨b4, d4⟩ : ∃ b, decide (n ≤ 63) = b := ⟨_, rfl⟩
  have HD : Hid (mayB t n = (b1 && b2 && b3 && b4)) := Lib.hid (by unfold mayB; rw [d1, d2, d3, d4])
  cases b1 <;> cases b2 <;> cases b3 <;> cases b4
  all_goals
    go_wp2_with fail
    go_ret
    exact ⟨by rw [HR.out, HD.out]; rfl, HB.out⟩
set_option maxHeartbeats 4000000 in
theorem follow_any (t n t' n' : Int) (w : World) : Calls Tryz.prog 27 #[.agg #[.int .i64 t, .int .i64 n], .agg #[.int .i64 t', .int .i64 n']] w fun e w' => e = .returned (.bool (followB t n t' n')) ∧ Below w.heap.size w w' := by
  have HB := Lib.hid (below_two w (.cells #[.int .i64 t, .int .i64 n] 51) (.cells #[.int .i64 t', .int .i64 n'] 51))
  obtain ⟨r, hr⟩ : ∃ r, r = followB t n t' n' := ⟨_, rfl⟩
  have HR := Lib.hid hr
  rw [← hr]
  clear hr
  go_enter Tryz.func27, Tryz.ntmps27
  by_cases h1 : t = t'
  · have HT := Lib.hid h1
    have d1 : (t == t') = true := by simpa using h1
    clear h1
    by_cases h2 : n' = -1
    · have H2 := Lib.hid h2
      have d2 : (n' == -1) = true := by simpa using h2
      clear h2
      go_wp2_with fail
      go_ret
      exact ⟨by rw [HR.out]; simp [followB, HT.out, H2.out], HB.out⟩
    · have d2 : (n' == -1) = false := by simpa using h2
      have H2 := Lib.hid h2
      clear h2
      go_wp2_with fail
      go_ret
      refine ⟨?_, HB.out⟩
      rw [HR.out]
      simp only [followB, if_pos HT.out, decide_eq_false H2.out, Bool.false_or]
      congr 1
  · have HT := Lib.hid h1
    have d1 : (t == t') = false := by simpa using h1
    clear h1
    go_wp2_with fail
    go_ret
    refine ⟨?_, HB.out⟩
    rw [HR.out]
    simp only [followB, if_neg HT.out]
    congr 1
end Go.Proofs.YtflkaladkbkbgaaGreat

/- A ballot's code; what Open made. -/
namespace Go.Proofs.YtflkaladkbkbgaaGreat
set_option linter.unusedVariables false
set_option linter.unusedSimpArgs false
open Go.RowKit Go.Maps
set_option maxRecDepth 100000
theorem BssAt.two {w : World} {B : Nat} {x y : Value} {a b : List UInt8} (hB : B ≤ w.heap.size) (hx : Rd w B x a) (hy : Rd w B y b) :
    BssAt (w.alloc (.cells #[x, y] 33)) (w.heap.size + 1) (some ⟨w.heap.size, 0, none⟩) [a, b] := by
  have h := heap_alloc_new w (.cells #[x, y] 33)
  have c0 := Go.Joins.cell_of_block h 0
  have c1 := Go.Joins.cell_of_block h 1
  have hb : Below B w (w.alloc (.cells #[x, y] 33)) := (Below.refl _ _).alloc hB _
  intro _
  refine ⟨w.heap.size, 0, rfl, by omega, fun i hi => ?_⟩
  match i, hi with
  | 0, _ => exact ⟨x, c0, (hx.keep hb).upY (by omega)⟩
  | 1, _ => exact ⟨y, c1, (hy.keep hb).upY (by omega)⟩
def codeF (t n : Int) : List UInt8 := frameF (grp t.toNat ++ grp (zig n))
set_option maxHeartbeats 4000000 in
theorem code_any (t n : Int) (w : World) (ht : 0 ≤ t ∧ t ≤ 1099511627776) (hn : -1 ≤ n ∧ n ≤ 63) : Calls Tryz.prog 43 #[.agg #[.int .i64 t, .int .i64 n]] w (Gives (codeF t n) w) := by
  obtain ⟨w1, hw1⟩ : ∃ W, W = w.alloc (.cells #[.int .i64 t, .int .i64 n] 51) := ⟨_, rfl⟩
  have hb1 : Below w.heap.size w w1 := by rw [hw1]; exact two_below w _
  have hk1 : w1.heap[w.heap.size]? = some (.cells #[.int .i64 t, .int .i64 n] 51 (0, 0)) := by rw [hw1]; exact heap_alloc_new w _
  have hz1 : w1.heap.size = w.heap.size + 1 := by rw [hw1]; simp
  have y0 := Go.Joins.cell_of_block hk1 0
  have HT := Lib.hid ht
  have HN := Lib.hid hn
  have HB1 := Lib.hid hb1
  have HK1 := Lib.hid hk1
  have HW1 := Lib.hid hw1
  have HZ1 := Lib.hid hz1
  clear ht hn hb1 hk1 hz1 hw1
  go_enter Tryz.func43, Tryz.ntmps43
  go_wp2_with fail
  rw [← HW1.out]
  refine (count_any t w1 (by have := HT.out; omega)).mono ?_
  rintro e w2 hcn
  obtain ⟨v2, rfl, hv2, hb2⟩ : ∃ v, e = .returned (.tuple #[v, .int .i64 0]) ∧ OwnB w2 w1.heap.size v (grp t.toNat) ∧ Below w1.heap.size w1 w2 := by
    rcases hcn with ⟨-, -, h⟩ | ⟨hbad, -⟩
    · exact h
    · have := HT.out; omega
  have hk2 := (hb2.block w.heap.size (by have := HZ1.out; omega)).trans HK1.out
  have y1 := Go.Joins.cell_of_block hk2 1
  have HV2 := Lib.hid hv2
  have HB2 := Lib.hid hb2
  clear hcn hv2 hb2 hk2 y0
  go_wp2_with fail
  refine (int_any n w2 (by have := HN.out; omega) (by have := HN.out; omega)).mono ?_
  rintro e w3 ⟨v3, rfl, hv3, hb3⟩
  obtain ⟨a, ha⟩ : ∃ a, a = grp t.toNat := ⟨_, rfl⟩
  obtain ⟨b, hbb⟩ : ∃ b, b = grp (zig n) := ⟨_, rfl⟩
  have hla : a.length ≤ 11 := by rw [ha]; exact (grp_length _).1
  have hlb : b.length ≤ 11 := by rw [hbb]; exact (grp_length _).1
  have hr2 : Rd w3 w3.heap.size v2 a := by rw [ha]; exact (HV2.out.rdY.keep hb3).upY hb3.size
  have hr3 : Rd w3 w3.heap.size v3 b := by rw [hbb]; exact hv3.rdY
  have hbs := BssAt.two (Nat.le_refl _) hr2 hr3
  have HCO : Hid (codeF t n = frameF (a ++ b)) := Lib.hid (by rw [ha, hbb]; rfl)
  obtain ⟨w4, hw4⟩ : ∃ W, W = w3.alloc (.cells #[v2, v3] 33) := ⟨_, rfl⟩
  have hz4 : w4.heap.size = w3.heap.size + 1 := by rw [hw4]; simp
  rw [← hw4] at hbs
  have hc4 := concatB_any _ _ 2 [a, b] w4 hbs (by omega) (by simp; omega) (by simp)
  have HC4 := Lib.hid hc4
  have hb04 : Below w.heap.size w w4 := HB1.out.trans ((HB2.out.trans ((hb3.trans ((show Below w3.heap.size w3 w4 by rw [hw4]; exact two_below w3 _).mono hb3.size)).mono HB2.out.size)).mono HB1.out.size)
  have HB4 := Lib.hid hb04
  have HW4 := Lib.hid hw4
  have HLA := Lib.hid hla
  have HLB := Lib.hid hlb
  obtain ⟨A2, c2, e2⟩ := hr2.shapeY
  obtain ⟨A3, c3, e3⟩ := hr3.shapeY
  subst e2 e3
  clear hv3 hb3 ha hbb hr2 hr3 hbs hw4 hz4 hc4 hb04 hla hlb HV2
  go_wp2_with fail
  rw [← HW4.out]
  refine HC4.out.mono ?_
  rintro e w5 ⟨v5, rfl, hv5, hb5⟩
  rw [show [a, b].flatten = a ++ b by simp] at hv5
  have HP := Lib.hid (fput_any (.slice none 0 0) v5 [] (a ++ b) w5 (rd_nil _ _) hv5.rdY (by have := HLA.out; have := HLB.out; rw [List.length_append]; omega) (by simp))
  obtain ⟨A5, c5, e5⟩ := hv5.rdY.shapeY
  subst e5
  have HB5 := Lib.hid (HB4.out.trans (hb5.mono HB4.out.size))
  clear hv5 hb5 HC4 y1
  obtain ⟨N, hN⟩ : ∃ N, N = (a ++ b).length := ⟨_, rfl⟩
  rw [← hN] at HP ⊢
  obtain ⟨na, hna⟩ : ∃ N, N = a.length := ⟨_, rfl⟩
  obtain ⟨nb, hnb⟩ : ∃ N, N = b.length := ⟨_, rfl⟩
  rw [← hna, ← hnb]
  clear hN hna hnb
  go_wp2_with fail
  refine HP.out.mono ?_
  rintro e w6 ⟨v6, rfl, hv6, hb6⟩
  rw [List.nil_append, ← HCO.out] at hv6
  have HV6 := Lib.hid (hv6.base HB5.out.size)
  have HB6 := Lib.hid (HB5.out.trans (hb6.mono HB5.out.size))
  clear hv6 hb6 HP
  go_wp2_with fail
  go_ret
  exact ⟨_, rfl, HV6.out, HB6.out⟩
/-- What Open made. -/
def VAt (w : World) (v d : Nat) (t n : Int) : Prop := w.heap[v]? = some (.cells #[.pointer (some ⟨d, 0, none⟩), .int .i64 t, .int .i64 n] 53 (0, 0))
section
variable {w : World} {v d : Nat} {t n : Int}
theorem VAt.c0 (h : VAt w v d t n) : w.cell? ⟨v, 0, none⟩ = some (.pointer (some ⟨d, 0, none⟩)) := Go.Joins.cell_of_block h 0
theorem VAt.c1 (h : VAt w v d t n) : w.cell? ⟨v, 1, none⟩ = some (.int .i64 t) := Go.Joins.cell_of_block h 1
theorem VAt.c2 (h : VAt w v d t n) : w.cell? ⟨v, 2, none⟩ = some (.int .i64 n) := Go.Joins.cell_of_block h 2
theorem vmade_any (h : VAt w v d t n) : Calls Tryz.prog 25 #[.pointer (some ⟨v, 0, none⟩)] w fun e w' => e = .returned (.bool true) ∧ w' = w := by
  have y0 := h.c0
  clear h
  go_enter Tryz.func25, Tryz.ntmps25
  go_wp2_with fail
  go_ret
  exact ⟨rfl, rfl⟩
theorem vmade_nil (w : World) : Calls Tryz.prog 25 #[.pointer none] w fun e w' => e = .returned (.bool false) ∧ w' = w := by
  go_enter Tryz.func25, Tryz.ntmps25
  go_wp2_with fail
  go_ret
  exact ⟨rfl, rfl⟩
theorem term_any (h : VAt w v d t n) : Calls Tryz.prog 13 #[.pointer (some ⟨v, 0, none⟩)] w fun e w' => e = .returned (.int .i64 t) ∧ w' = w := by
  have HM := Lib.hid (vmade_any h)
  have y1 := h.c1
  clear h
  go_enter Tryz.func13, Tryz.ntmps13
  go_wp2_with fail
  refine HM.out.mono ?_
  rintro e w1 ⟨rfl, rfl⟩
  go_wp2_with fail
  go_ret
  exact ⟨rfl, rfl⟩
theorem for_any (h : VAt w v d t n) : Calls Tryz.prog 14 #[.pointer (some ⟨v, 0, none⟩)] w fun e w' => e = .returned (.int .i64 n) ∧ w' = w := by
  have HM := Lib.hid (vmade_any h)
  have y1 := h.c2
  clear h
  go_enter Tryz.func14, Tryz.ntmps14
  go_wp2_with fail
  refine HM.out.mono ?_
  rintro e w1 ⟨rfl, rfl⟩
  go_wp2_with fail
  go_ret
  exact ⟨rfl, rfl⟩
theorem term_nil (w : World) : Calls Tryz.prog 13 #[.pointer none] w fun e w' => e = .returned (.int .i64 0) ∧ w' = w := by
  go_enter Tryz.func13, Tryz.ntmps13
  go_wp2_with fail
  refine (vmade_nil w).mono ?_
  rintro e w1 ⟨rfl, rfl⟩
  go_wp2_with fail
  go_ret
  exact ⟨rfl, rfl⟩
theorem for_nil (w : World) : Calls Tryz.prog 14 #[.pointer none] w fun e w' => e = .returned (.int .i64 (-1)) ∧ w' = w := by
  go_enter Tryz.func14, Tryz.ntmps14
  go_wp2_with fail
  refine (vmade_nil w).mono ?_
  rintro e w1 ⟨rfl, rfl⟩
  go_wp2_with fail
  go_ret
  exact ⟨rfl, rfl⟩
end
end Go.Proofs.YtflkaladkbkbgaaGreat
