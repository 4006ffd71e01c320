/- Which tokens may be: by the program, and by the document. -/
import Derived.Test.YtlhkcpfjnhbocaaKPutC
import Derived.Test.YtlhkcpfjnhbocaaKArrA
namespace Go.Proofs.Ytlhkcpfjnhbocaa
set_option linter.unusedVariables false
set_option linter.unusedSimpArgs false
open Go.RowKit
set_option maxRecDepth 100000
/-- A token as a value. -/
def tokV (k i t : Int) : Value := .agg #[.int .i64 k, .int .i64 i, .int .i64 t]
/-- May a token be? -/
def mayTok (k i t : Int) : Bool := decide ((k = 1 ∨ k = 2) ∧ 0 ≤ i ∧ i ≤ 1099511627776 ∧ 0 ≤ t ∧ t ≤ 1099511627776 ∧ (i = 0 ↔ t = 0) ∧ (k = 1 ∨ i ≠ 0))
set_option maxHeartbeats 4000000 in
theorem tmay_any (k i t : Int) (w : World) : Calls Try.prog 21 #[tokV k i t] w fun e w' => e = .returned (.bool (mayTok k i t)) ∧ Below w.heap.size w w' := by
  unfold tokV
  rcases (by omega : k = 1 ∨ k = 2 ∨ (k ≠ 1 ∧ k ≠ 2)) with rfl | rfl | ⟨hk1, hk2⟩
  · rcases (by omega : i < 0 ∨ i = 0 ∨ (0 < i ∧ i ≤ 1099511627776) ∨ 1099511627776 < i) with hi | rfl | hi | hi
    · have e : mayTok 1 i t = false := by unfold mayTok; exact decide_eq_false (by omega)
      rw [e]
      have i1 : i < 0 := by omega
      have i3 : (i == 0) = false := beq_eq_false_iff_ne.2 (by omega)
      have i4 : ¬ 0 < i := by omega
      clear e
      go_enter Try.func21, Try.ntmps21
      go_wp2_with fail
      go_ret
      exact ⟨by first | rfl | simp_all | trivial, (Below.refl _ _).alloc (Nat.le_refl _) _⟩
    · rcases (by omega : t < 0 ∨ t = 0 ∨ (0 < t ∧ t ≤ 1099511627776) ∨ 1099511627776 < t) with ht | rfl | ht | ht
      · have e : mayTok 1 0 t = false := by unfold mayTok; exact decide_eq_false (by omega)
        rw [e]
        have t1 : t < 0 := by omega
        have t3 : (t == 0) = false := beq_eq_false_iff_ne.2 (by omega)
        have t4 : ¬ 0 < t := by omega
        clear e
        go_enter Try.func21, Try.ntmps21
        go_wp2_with fail
        go_ret
        exact ⟨by first | rfl | simp_all | trivial, (Below.refl _ _).alloc (Nat.le_refl _) _⟩
      · have e : mayTok 1 0 0 = true := by unfold mayTok; exact decide_eq_true (by omega)
        rw [e]
        clear e
        go_enter Try.func21, Try.ntmps21
        go_wp2_with fail
        go_ret
        exact ⟨by first | rfl | simp_all | trivial, (Below.refl _ _).alloc (Nat.le_refl _) _⟩
      · have e : mayTok 1 0 t = false := by unfold mayTok; exact decide_eq_false (by omega)
        rw [e]
        have t1 : ¬ t < 0 := by omega
        have t2 : ¬ 1099511627776 < t := by omega
        have t3 : (t == 0) = false := beq_eq_false_iff_ne.2 (by omega)
        have t4 : 0 < t := by omega
        clear e
        go_enter Try.func21, Try.ntmps21
        go_wp2_with fail
        go_ret
        exact ⟨by first | rfl | simp_all | trivial, (Below.refl _ _).alloc (Nat.le_refl _) _⟩
      · have e : mayTok 1 0 t = false := by unfold mayTok; exact decide_eq_false (by omega)
        rw [e]
        have t1 : ¬ t < 0 := by omega
        have t2 : 1099511627776 < t := by omega
        have t3 : (t == 0) = false := beq_eq_false_iff_ne.2 (by omega)
        have t4 : 0 < t := by omega
        clear e
        go_enter Try.func21, Try.ntmps21
        go_wp2_with fail
        go_ret
        exact ⟨by first | rfl | simp_all | trivial, (Below.refl _ _).alloc (Nat.le_refl _) _⟩
    · rcases (by omega : t < 0 ∨ t = 0 ∨ (0 < t ∧ t ≤ 1099511627776) ∨ 1099511627776 < t) with ht | rfl | ht | ht
      · have e : mayTok 1 i t = false := by unfold mayTok; exact decide_eq_false (by omega)
        rw [e]
        have i1 : ¬ i < 0 := by omega
        have i2 : ¬ 1099511627776 < i := by omega
        have i3 : (i == 0) = false := beq_eq_false_iff_ne.2 (by omega)
        have i4 : 0 < i := by omega
        have t1 : t < 0 := by omega
        have t3 : (t == 0) = false := beq_eq_false_iff_ne.2 (by omega)
        have t4 : ¬ 0 < t := by omega
        clear e
        go_enter Try.func21, Try.ntmps21
        go_wp2_with fail
        go_ret
        exact ⟨by first | rfl | simp_all | trivial, (Below.refl _ _).alloc (Nat.le_refl _) _⟩
      · have e : mayTok 1 i 0 = false := by unfold mayTok; exact decide_eq_false (by omega)
        rw [e]
        have i1 : ¬ i < 0 := by omega
        have i2 : ¬ 1099511627776 < i := by omega
        have i3 : (i == 0) = false := beq_eq_false_iff_ne.2 (by omega)
        have i4 : 0 < i := by omega
        clear e
        go_enter Try.func21, Try.ntmps21
        go_wp2_with fail
        go_ret
        exact ⟨by first | rfl | simp_all | trivial, (Below.refl _ _).alloc (Nat.le_refl _) _⟩
      · have e : mayTok 1 i t = true := by unfold mayTok; exact decide_eq_true (by omega)
        rw [e]
        have i1 : ¬ i < 0 := by omega
        have i2 : ¬ 1099511627776 < i := by omega
        have i3 : (i == 0) = false := beq_eq_false_iff_ne.2 (by omega)
        have i4 : 0 < i := by omega
        have t1 : ¬ t < 0 := by omega
        have t2 : ¬ 1099511627776 < t := by omega
        have t3 : (t == 0) = false := beq_eq_false_iff_ne.2 (by omega)
        have t4 : 0 < t := by omega
        clear e
        go_enter Try.func21, Try.ntmps21
        go_wp2_with fail
        go_ret
        exact ⟨by first | rfl | simp_all | trivial, (Below.refl _ _).alloc (Nat.le_refl _) _⟩
      · have e : mayTok 1 i t = false := by unfold mayTok; exact decide_eq_false (by omega)
        rw [e]
        have i1 : ¬ i < 0 := by omega
        have i2 : ¬ 1099511627776 < i := by omega
        have i3 : (i == 0) = false := beq_eq_false_iff_ne.2 (by omega)
        have i4 : 0 < i := by omega
        have t1 : ¬ t < 0 := by omega
        have t2 : 1099511627776 < t := by omega
        have t3 : (t == 0) = false := beq_eq_false_iff_ne.2 (by omega)
        have t4 : 0 < t := by omega
        clear e
        go_enter Try.func21, Try.ntmps21
        go_wp2_with fail
        go_ret
        exact ⟨by first | rfl | simp_all | trivial, (Below.refl _ _).alloc (Nat.le_refl _) _⟩
    · have e : mayTok 1 i t = false := by unfold mayTok; exact decide_eq_false (by omega)
      rw [e]
      have i1 : ¬ i < 0 := by omega
      have i2 : 1099511627776 < i := by omega
      have i3 : (i == 0) = false := beq_eq_false_iff_ne.2 (by omega)
      have i4 : 0 < i := by omega
      clear e
      go_enter Try.func21, Try.ntmps21
      go_wp2_with fail
      go_ret
      exact ⟨by first | rfl | simp_all | trivial, (Below.refl _ _).alloc (Nat.le_refl _) _⟩
  · rcases (by omega : i < 0 ∨ i = 0 ∨ (0 < i ∧ i ≤ 1099511627776) ∨ 1099511627776 < i) with hi | rfl | hi | hi
    · have e : mayTok 2 i t = false := by unfold mayTok; exact decide_eq_false (by omega)
      rw [e]
      have i1 : i < 0 := by omega
      have i3 : (i == 0) = false := beq_eq_false_iff_ne.2 (by omega)
      have i4 : ¬ 0 < i := by omega
      clear e
      go_enter Try.func21, Try.ntmps21
      go_wp2_with fail
      go_ret
      exact ⟨by first | rfl | simp_all | trivial, (Below.refl _ _).alloc (Nat.le_refl _) _⟩
    · rcases (by omega : t < 0 ∨ t = 0 ∨ (0 < t ∧ t ≤ 1099511627776) ∨ 1099511627776 < t) with ht | rfl | ht | ht
      · have e : mayTok 2 0 t = false := by unfold mayTok; exact decide_eq_false (by omega)
        rw [e]
        have t1 : t < 0 := by omega
        have t3 : (t == 0) = false := beq_eq_false_iff_ne.2 (by omega)
        have t4 : ¬ 0 < t := by omega
        clear e
        go_enter Try.func21, Try.ntmps21
        go_wp2_with fail
        go_ret
        exact ⟨by first | rfl | simp_all | trivial, (Below.refl _ _).alloc (Nat.le_refl _) _⟩
      · have e : mayTok 2 0 0 = false := by unfold mayTok; exact decide_eq_false (by omega)
        rw [e]
        clear e
        go_enter Try.func21, Try.ntmps21
        go_wp2_with fail
        go_ret
        exact ⟨by first | rfl | simp_all | trivial, (Below.refl _ _).alloc (Nat.le_refl _) _⟩
      · have e : mayTok 2 0 t = false := by unfold mayTok; exact decide_eq_false (by omega)
        rw [e]
        have t1 : ¬ t < 0 := by omega
        have t2 : ¬ 1099511627776 < t := by omega
        have t3 : (t == 0) = false := beq_eq_false_iff_ne.2 (by omega)
        have t4 : 0 < t := by omega
        clear e
        go_enter Try.func21, Try.ntmps21
        go_wp2_with fail
        go_ret
        exact ⟨by first | rfl | simp_all | trivial, (Below.refl _ _).alloc (Nat.le_refl _) _⟩
      · have e : mayTok 2 0 t = false := by unfold mayTok; exact decide_eq_false (by omega)
        rw [e]
        have t1 : ¬ t < 0 := by omega
        have t2 : 1099511627776 < t := by omega
        have t3 : (t == 0) = false := beq_eq_false_iff_ne.2 (by omega)
        have t4 : 0 < t := by omega
        clear e
        go_enter Try.func21, Try.ntmps21
        go_wp2_with fail
        go_ret
        exact ⟨by first | rfl | simp_all | trivial, (Below.refl _ _).alloc (Nat.le_refl _) _⟩
    · rcases (by omega : t < 0 ∨ t = 0 ∨ (0 < t ∧ t ≤ 1099511627776) ∨ 1099511627776 < t) with ht | rfl | ht | ht
      · have e : mayTok 2 i t = false := by unfold mayTok; exact decide_eq_false (by omega)
        rw [e]
        have i1 : ¬ i < 0 := by omega
        have i2 : ¬ 1099511627776 < i := by omega
        have i3 : (i == 0) = false := beq_eq_false_iff_ne.2 (by omega)
        have i4 : 0 < i := by omega
        have t1 : t < 0 := by omega
        have t3 : (t == 0) = false := beq_eq_false_iff_ne.2 (by omega)
        have t4 : ¬ 0 < t := by omega
        clear e
        go_enter Try.func21, Try.ntmps21
        go_wp2_with fail
        go_ret
        exact ⟨by first | rfl | simp_all | trivial, (Below.refl _ _).alloc (Nat.le_refl _) _⟩
      · have e : mayTok 2 i 0 = false := by unfold mayTok; exact decide_eq_false (by omega)
        rw [e]
        have i1 : ¬ i < 0 := by omega
        have i2 : ¬ 1099511627776 < i := by omega
        have i3 : (i == 0) = false := beq_eq_false_iff_ne.2 (by omega)
        have i4 : 0 < i := by omega
        clear e
        go_enter Try.func21, Try.ntmps21
        go_wp2_with fail
        go_ret
        exact ⟨by first | rfl | simp_all | trivial, (Below.refl _ _).alloc (Nat.le_refl _) _⟩
      · have e : mayTok 2 i t = true := by unfold mayTok; exact decide_eq_true (by omega)
        rw [e]
        have i1 : ¬ i < 0 := by omega
        have i2 : ¬ 1099511627776 < i := by omega
        have i3 : (i == 0) = false := beq_eq_false_iff_ne.2 (by omega)
        have i4 : 0 < i := by omega
        have t1 : ¬ t < 0 := by omega
        have t2 : ¬ 1099511627776 < t := by omega
        have t3 : (t == 0) = false := beq_eq_false_iff_ne.2 (by omega)
        have t4 : 0 < t := by omega
        clear e
        go_enter Try.func21, Try.ntmps21
        go_wp2_with fail
        go_ret
        exact ⟨by first | rfl | simp_all | trivial, (Below.refl _ _).alloc (Nat.le_refl _) _⟩
      · have e : mayTok 2 i t = false := by unfold mayTok; exact decide_eq_false (by omega)
        rw [e]
        have i1 : ¬ i < 0 := by omega
        have i2 : ¬ 1099511627776 < i := by omega
        have i3 : (i == 0) = false := beq_eq_false_iff_ne.2 (by omega)
        have i4 : 0 < i := by omega
        have t1 : ¬ t < 0 := by omega
        have t2 : 1099511627776 < t := by omega
        have t3 : (t == 0) = false := beq_eq_false_iff_ne.2 (by omega)
        have t4 : 0 < t := by omega
        clear e
        go_enter Try.func21, Try.ntmps21
        go_wp2_with fail
        go_ret
        exact ⟨by first | rfl | simp_all | trivial, (Below.refl _ _).alloc (Nat.le_refl _) _⟩
    · have e : mayTok 2 i t = false := by unfold mayTok; exact decide_eq_false (by omega)
      rw [e]
      have i1 : ¬ i < 0 := by omega
      have i2 : 1099511627776 < i := by omega
      have i3 : (i == 0) = false := beq_eq_false_iff_ne.2 (by omega)
      have i4 : 0 < i := by omega
      clear e
      go_enter Try.func21, Try.ntmps21
      go_wp2_with fail
      go_ret
      exact ⟨by first | rfl | simp_all | trivial, (Below.refl _ _).alloc (Nat.le_refl _) _⟩
  · have e : mayTok k i t = false := by unfold mayTok; exact decide_eq_false (by omega)
    rw [e]
    have k1 : (k == 1) = false := beq_eq_false_iff_ne.2 hk1
    have k2 : (k == 2) = false := beq_eq_false_iff_ne.2 hk2
    have k3 : (k != 1) = true := bne_iff_ne.2 hk1
    have k4 : (k != 2) = true := bne_iff_ne.2 hk2
    clear e
    go_enter Try.func21, Try.ntmps21
    go_wp2_with fail
    go_ret
    exact ⟨by first | rfl | simp_all | trivial, (Below.refl _ _).alloc (Nat.le_refl _) _⟩
set_option maxHeartbeats 4000000 in
theorem rtmay_any (k i t : Int) (w : World) : Calls Try.prog 22 #[tokV k i t] w fun e w' => e = .returned (.bool (mayTok k i t)) ∧ Below w.heap.size w w' := by
  unfold tokV
  rcases (by omega : k = 1 ∨ k = 2 ∨ (k ≠ 1 ∧ k ≠ 2)) with rfl | rfl | ⟨hk1, hk2⟩
  · rcases (by omega : i < 0 ∨ i = 0 ∨ (0 < i ∧ i ≤ 1099511627776) ∨ 1099511627776 < i) with hi | rfl | hi | hi
    · have e : mayTok 1 i t = false := by unfold mayTok; exact decide_eq_false (by omega)
      rw [e]
      have i1 : i < 0 := by omega
      have i3 : (i == 0) = false := beq_eq_false_iff_ne.2 (by omega)
      have i4 : ¬ 0 < i := by omega
      clear e
      go_enter Try.func22, Try.ntmps22
      go_wp2_with fail
      go_ret
      exact ⟨by first | rfl | simp_all | trivial, (Below.refl _ _).alloc (Nat.le_refl _) _⟩
    · rcases (by omega : t < 0 ∨ t = 0 ∨ (0 < t ∧ t ≤ 1099511627776) ∨ 1099511627776 < t) with ht | rfl | ht | ht
      · have e : mayTok 1 0 t = false := by unfold mayTok; exact decide_eq_false (by omega)
        rw [e]
        have t1 : t < 0 := by omega
        have t3 : (t == 0) = false := beq_eq_false_iff_ne.2 (by omega)
        have t4 : ¬ 0 < t := by omega
        clear e
        go_enter Try.func22, Try.ntmps22
        go_wp2_with fail
        go_ret
        exact ⟨by first | rfl | simp_all | trivial, (Below.refl _ _).alloc (Nat.le_refl _) _⟩
      · have e : mayTok 1 0 0 = true := by unfold mayTok; exact decide_eq_true (by omega)
        rw [e]
        clear e
        go_enter Try.func22, Try.ntmps22
        go_wp2_with fail
        go_ret
        exact ⟨by first | rfl | simp_all | trivial, (Below.refl _ _).alloc (Nat.le_refl _) _⟩
      · have e : mayTok 1 0 t = false := by unfold mayTok; exact decide_eq_false (by omega)
        rw [e]
        have t1 : ¬ t < 0 := by omega
        have t2 : ¬ 1099511627776 < t := by omega
        have t3 : (t == 0) = false := beq_eq_false_iff_ne.2 (by omega)
        have t4 : 0 < t := by omega
        clear e
        go_enter Try.func22, Try.ntmps22
        go_wp2_with fail
        go_ret
        exact ⟨by first | rfl | simp_all | trivial, (Below.refl _ _).alloc (Nat.le_refl _) _⟩
      · have e : mayTok 1 0 t = false := by unfold mayTok; exact decide_eq_false (by omega)
        rw [e]
        have t1 : ¬ t < 0 := by omega
        have t2 : 1099511627776 < t := by omega
        have t3 : (t == 0) = false := beq_eq_false_iff_ne.2 (by omega)
        have t4 : 0 < t := by omega
        clear e
        go_enter Try.func22, Try.ntmps22
        go_wp2_with fail
        go_ret
        exact ⟨by first | rfl | simp_all | trivial, (Below.refl _ _).alloc (Nat.le_refl _) _⟩
    · rcases (by omega : t < 0 ∨ t = 0 ∨ (0 < t ∧ t ≤ 1099511627776) ∨ 1099511627776 < t) with ht | rfl | ht | ht
      · have e : mayTok 1 i t = false := by unfold mayTok; exact decide_eq_false (by omega)
        rw [e]
        have i1 : ¬ i < 0 := by omega
        have i2 : ¬ 1099511627776 < i := by omega
        have i3 : (i == 0) = false := beq_eq_false_iff_ne.2 (by omega)
        have i4 : 0 < i := by omega
        have t1 : t < 0 := by omega
        have t3 : (t == 0) = false := beq_eq_false_iff_ne.2 (by omega)
        have t4 : ¬ 0 < t := by omega
        clear e
        go_enter Try.func22, Try.ntmps22
        go_wp2_with fail
        go_ret
        exact ⟨by first | rfl | simp_all | trivial, (Below.refl _ _).alloc (Nat.le_refl _) _⟩
      · have e : mayTok 1 i 0 = false := by unfold mayTok; exact decide_eq_false (by omega)
        rw [e]
        have i1 : ¬ i < 0 := by omega
        have i2 : ¬ 1099511627776 < i := by omega
        have i3 : (i == 0) = false := beq_eq_false_iff_ne.2 (by omega)
        have i4 : 0 < i := by omega
        clear e
        go_enter Try.func22, Try.ntmps22
        go_wp2_with fail
        go_ret
        exact ⟨by first | rfl | simp_all | trivial, (Below.refl _ _).alloc (Nat.le_refl _) _⟩
      · have e : mayTok 1 i t = true := by unfold mayTok; exact decide_eq_true (by omega)
        rw [e]
        have i1 : ¬ i < 0 := by omega
        have i2 : ¬ 1099511627776 < i := by omega
        have i3 : (i == 0) = false := beq_eq_false_iff_ne.2 (by omega)
        have i4 : 0 < i := by omega
        have t1 : ¬ t < 0 := by omega
        have t2 : ¬ 1099511627776 < t := by omega
        have t3 : (t == 0) = false := beq_eq_false_iff_ne.2 (by omega)
        have t4 : 0 < t := by omega
        clear e
        go_enter Try.func22, Try.ntmps22
        go_wp2_with fail
        go_ret
        exact ⟨by first | rfl | simp_all | trivial, (Below.refl _ _).alloc (Nat.le_refl _) _⟩
      · have e : mayTok 1 i t = false := by unfold mayTok; exact decide_eq_false (by omega)
        rw [e]
        have i1 : ¬ i < 0 := by omega
        have i2 : ¬ 1099511627776 < i := by omega
        have i3 : (i == 0) = false := beq_eq_false_iff_ne.2 (by omega)
        have i4 : 0 < i := by omega
        have t1 : ¬ t < 0 := by omega
        have t2 : 1099511627776 < t := by omega
        have t3 : (t == 0) = false := beq_eq_false_iff_ne.2 (by omega)
        have t4 : 0 < t := by omega
        clear e
        go_enter Try.func22, Try.ntmps22
        go_wp2_with fail
        go_ret
        exact ⟨by first | rfl | simp_all | trivial, (Below.refl _ _).alloc (Nat.le_refl _) _⟩
    · have e : mayTok 1 i t = false := by unfold mayTok; exact decide_eq_false (by omega)
      rw [e]
      have i1 : ¬ i < 0 := by omega
      have i2 : 1099511627776 < i := by omega
      have i3 : (i == 0) = false := beq_eq_false_iff_ne.2 (by omega)
      have i4 : 0 < i := by omega
      clear e
      go_enter Try.func22, Try.ntmps22
      go_wp2_with fail
      go_ret
      exact ⟨by first | rfl | simp_all | trivial, (Below.refl _ _).alloc (Nat.le_refl _) _⟩
  · rcases (by omega : i < 0 ∨ i = 0 ∨ (0 < i ∧ i ≤ 1099511627776) ∨ 1099511627776 < i) with hi | rfl | hi | hi
    · have e : mayTok 2 i t = false := by unfold mayTok; exact decide_eq_false (by omega)
      rw [e]
      have i1 : i < 0 := by omega
      have i3 : (i == 0) = false := beq_eq_false_iff_ne.2 (by omega)
      have i4 : ¬ 0 < i := by omega
      clear e
      go_enter Try.func22, Try.ntmps22
      go_wp2_with fail
      go_ret
      exact ⟨by first | rfl | simp_all | trivial, (Below.refl _ _).alloc (Nat.le_refl _) _⟩
    · rcases (by omega : t < 0 ∨ t = 0 ∨ (0 < t ∧ t ≤ 1099511627776) ∨ 1099511627776 < t) with ht | rfl | ht | ht
      · have e : mayTok 2 0 t = false := by unfold mayTok; exact decide_eq_false (by omega)
        rw [e]
        have t1 : t < 0 := by omega
        have t3 : (t == 0) = false := beq_eq_false_iff_ne.2 (by omega)
        have t4 : ¬ 0 < t := by omega
        clear e
        go_enter Try.func22, Try.ntmps22
        go_wp2_with fail
        go_ret
        exact ⟨by first | rfl | simp_all | trivial, (Below.refl _ _).alloc (Nat.le_refl _) _⟩
      · have e : mayTok 2 0 0 = false := by unfold mayTok; exact decide_eq_false (by omega)
        rw [e]
        clear e
        go_enter Try.func22, Try.ntmps22
        go_wp2_with fail
        go_ret
        exact ⟨by first | rfl | simp_all | trivial, (Below.refl _ _).alloc (Nat.le_refl _) _⟩
      · have e : mayTok 2 0 t = false := by unfold mayTok; exact decide_eq_false (by omega)
        rw [e]
        have t1 : ¬ t < 0 := by omega
        have t2 : ¬ 1099511627776 < t := by omega
        have t3 : (t == 0) = false := beq_eq_false_iff_ne.2 (by omega)
        have t4 : 0 < t := by omega
        clear e
        go_enter Try.func22, Try.ntmps22
        go_wp2_with fail
        go_ret
        exact ⟨by first | rfl | simp_all | trivial, (Below.refl _ _).alloc (Nat.le_refl _) _⟩
      · have e : mayTok 2 0 t = false := by unfold mayTok; exact decide_eq_false (by omega)
        rw [e]
        have t1 : ¬ t < 0 := by omega
        have t2 : 1099511627776 < t := by omega
        have t3 : (t == 0) = false := beq_eq_false_iff_ne.2 (by omega)
        have t4 : 0 < t := by omega
        clear e
        go_enter Try.func22, Try.ntmps22
        go_wp2_with fail
        go_ret
        exact ⟨by first | rfl | simp_all | trivial, (Below.refl _ _).alloc (Nat.le_refl _) _⟩
    · rcases (by omega : t < 0 ∨ t = 0 ∨ (0 < t ∧ t ≤ 1099511627776) ∨ 1099511627776 < t) with ht | rfl | ht | ht
      · have e : mayTok 2 i t = false := by unfold mayTok; exact decide_eq_false (by omega)
        rw [e]
        have i1 : ¬ i < 0 := by omega
        have i2 : ¬ 1099511627776 < i := by omega
        have i3 : (i == 0) = false := beq_eq_false_iff_ne.2 (by omega)
        have i4 : 0 < i := by omega
        have t1 : t < 0 := by omega
        have t3 : (t == 0) = false := beq_eq_false_iff_ne.2 (by omega)
        have t4 : ¬ 0 < t := by omega
        clear e
        go_enter Try.func22, Try.ntmps22
        go_wp2_with fail
        go_ret
        exact ⟨by first | rfl | simp_all | trivial, (Below.refl _ _).alloc (Nat.le_refl _) _⟩
      · have e : mayTok 2 i 0 = false := by unfold mayTok; exact decide_eq_false (by omega)
        rw [e]
        have i1 : ¬ i < 0 := by omega
        have i2 : ¬ 1099511627776 < i := by omega
        have i3 : (i == 0) = false := beq_eq_false_iff_ne.2 (by omega)
        have i4 : 0 < i := by omega
        clear e
        go_enter Try.func22, Try.ntmps22
        go_wp2_with fail
        go_ret
        exact ⟨by first | rfl | simp_all | trivial, (Below.refl _ _).alloc (Nat.le_refl _) _⟩
      · have e : mayTok 2 i t = true := by unfold mayTok; exact decide_eq_true (by omega)
        rw [e]
        have i1 : ¬ i < 0 := by omega
        have i2 : ¬ 1099511627776 < i := by omega
        have i3 : (i == 0) = false := beq_eq_false_iff_ne.2 (by omega)
        have i4 : 0 < i := by omega
        have t1 : ¬ t < 0 := by omega
        have t2 : ¬ 1099511627776 < t := by omega
        have t3 : (t == 0) = false := beq_eq_false_iff_ne.2 (by omega)
        have t4 : 0 < t := by omega
        clear e
        go_enter Try.func22, Try.ntmps22
        go_wp2_with fail
        go_ret
        exact ⟨by first | rfl | simp_all | trivial, (Below.refl _ _).alloc (Nat.le_refl _) _⟩
      · have e : mayTok 2 i t = false := by unfold mayTok; exact decide_eq_false (by omega)
        rw [e]
        have i1 : ¬ i < 0 := by omega
        have i2 : ¬ 1099511627776 < i := by omega
        have i3 : (i == 0) = false := beq_eq_false_iff_ne.2 (by omega)
        have i4 : 0 < i := by omega
        have t1 : ¬ t < 0 := by omega
        have t2 : 1099511627776 < t := by omega
        have t3 : (t == 0) = false := beq_eq_false_iff_ne.2 (by omega)
        have t4 : 0 < t := by omega
        clear e
        go_enter Try.func22, Try.ntmps22
        go_wp2_with fail
        go_ret
        exact ⟨by first | rfl | simp_all | trivial, (Below.refl _ _).alloc (Nat.le_refl _) _⟩
    · have e : mayTok 2 i t = false := by unfold mayTok; exact decide_eq_false (by omega)
      rw [e]
      have i1 : ¬ i < 0 := by omega
      have i2 : 1099511627776 < i := by omega
      have i3 : (i == 0) = false := beq_eq_false_iff_ne.2 (by omega)
      have i4 : 0 < i := by omega
      clear e
      go_enter Try.func22, Try.ntmps22
      go_wp2_with fail
      go_ret
      exact ⟨by first | rfl | simp_all | trivial, (Below.refl _ _).alloc (Nat.le_refl _) _⟩
  · have e : mayTok k i t = false := by unfold mayTok; exact decide_eq_false (by omega)
    rw [e]
    have k1 : (k == 1) = false := beq_eq_false_iff_ne.2 hk1
    have k2 : (k == 2) = false := beq_eq_false_iff_ne.2 hk2
    have k3 : (k != 1) = true := bne_iff_ne.2 hk1
    have k4 : (k != 2) = true := bne_iff_ne.2 hk2
    clear e
    go_enter Try.func22, Try.ntmps22
    go_wp2_with fail
    go_ret
    exact ⟨by first | rfl | simp_all | trivial, (Below.refl _ _).alloc (Nat.le_refl _) _⟩
end Go.Proofs.Ytlhkcpfjnhbocaa
