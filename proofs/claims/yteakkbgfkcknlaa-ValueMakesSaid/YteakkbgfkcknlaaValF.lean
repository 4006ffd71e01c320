/- Which values may be: a value's own fields. -/
import Derived.Test.YteakkbgfkcknlaaValB
namespace Go.Proofs.Yteakkbgfkcknlaa
open Go.RowKit

theorem LV.alloc {w : World} {S : Nat → Prop} {t : VT} {v : Value} (h : LV w S t v) (hS : ∀ b, S b → b < w.heap.size) (o : Obj) : LV (w.alloc o) S t v := h.keep fun b hb => Below.heap_alloc w o b (hS b hb)
theorem LV.below {w w' : World} {S : Nat → Prop} {t : VT} {v : Value} (h : LV w S t v) (hS : ∀ b, S b → b < w.heap.size) (hb : Below w.heap.size w w') : LV w' S t v := h.keep fun b h => hb.block b (hS b h)
theorem StrsAt.below {w w' : World} {S : Nat → Prop} {A : Option Addr} {ns : List ByteArray} (h : StrsAt w S A ns) (hS : ∀ b, S b → b < w.heap.size) (hb : Below w.heap.size w w') : StrsAt w' S A ns := h.keep fun b h => hb.block b (hS b h)
theorem sub_alloc {w : World} {S : Nat → Prop} (hS : ∀ b, S b → b < w.heap.size) (o : Obj) : ∀ b, S b → b < (w.alloc o).heap.size := fun b hb => by have := hS b hb; simp; omega
theorem sub_below {w w' : World} {S : Nat → Prop} (hS : ∀ b, S b → b < w.heap.size) (hb : Below w.heap.size w w') : ∀ b, S b → b < w'.heap.size := fun b h => Nat.lt_of_lt_of_le (hS b h) hb.size
theorem toStart {w w1 w2 : World} (h : Below w.heap.size w w1) (h2 : Below w1.heap.size w1 w2) : Below w.heap.size w w2 := h.trans (h2.mono h.size)

theorem ret_b {a b : Bool} (h : a = b) : Ending.returned (.bool a) = .returned (.bool b) := by rw [h]
set_option maxHeartbeats 1000000 in
set_option maxRecDepth 100000 in
theorem fits1 (i : Int) (s : ByteArray) (A A' : Option Addr) (n c c' : Nat) (ns : List ByteArray) (w : World) :
    Calls Try.prog 73 #[.agg #[.int .i64 1, .int .i64 i, .string s, .slice A n c, .slice A' ns.length c']] w fun e w' => e = .returned (.bool (fitsP 1 i s n ns)) ∧ Below w.heap.size w w' := by
  have e0 : fitsP 1 i s n ns = fitsP 1 i s n ns := rfl
  conv at e0 => rhs; unfold fitsP
  simp only [Int.reduceEq, if_true, if_false, or_true, true_or, or_false, false_or] at e0
  rw [e0]
  clear e0
  go_enter Try.func73, Try.ntmps73
  go_wp2_with (go_at_call 82; refine (single_any _ _ _ _ _ _ _ _ _ _).mono ?_; rintro e w' ⟨rfl, hb⟩)
  all_goals
    go_ret
    first
      | exact ⟨rfl, toStart (below_box _) hb⟩
      | exact ⟨rfl, below_box _⟩
      | exact ⟨ret_b (by simp_all [nat_beq0, nat_beq] <;> (intros; omega)), toStart (below_box _) hb⟩
      | exact ⟨ret_b (by simp_all [nat_beq0, nat_beq] <;> (intros; omega)), below_box _⟩
set_option maxHeartbeats 1000000 in
set_option maxRecDepth 100000 in
theorem fits2 (i : Int) (s : ByteArray) (A A' : Option Addr) (n c c' : Nat) (ns : List ByteArray) (w : World) :
    Calls Try.prog 73 #[.agg #[.int .i64 2, .int .i64 i, .string s, .slice A n c, .slice A' ns.length c']] w fun e w' => e = .returned (.bool (fitsP 2 i s n ns)) ∧ Below w.heap.size w w' := by
  have e0 : fitsP 2 i s n ns = fitsP 2 i s n ns := rfl
  conv at e0 => rhs; unfold fitsP
  simp only [Int.reduceEq, if_true, if_false, or_true, true_or, or_false, false_or] at e0
  rw [e0]
  clear e0
  go_enter Try.func73, Try.ntmps73
  go_wp2_with (go_at_call 82; refine (single_any _ _ _ _ _ _ _ _ _ _).mono ?_; rintro e w' ⟨rfl, hb⟩)
  all_goals
    go_ret
    first
      | exact ⟨rfl, toStart (below_box _) hb⟩
      | exact ⟨rfl, below_box _⟩
      | exact ⟨ret_b (by simp_all [nat_beq0, nat_beq] <;> (intros; omega)), toStart (below_box _) hb⟩
      | exact ⟨ret_b (by simp_all [nat_beq0, nat_beq] <;> (intros; omega)), below_box _⟩
set_option maxHeartbeats 1000000 in
set_option maxRecDepth 100000 in
theorem fits3 (i : Int) (s : ByteArray) (A A' : Option Addr) (n c c' : Nat) (ns : List ByteArray) (w : World) :
    Calls Try.prog 73 #[.agg #[.int .i64 3, .int .i64 i, .string s, .slice A n c, .slice A' ns.length c']] w fun e w' => e = .returned (.bool (fitsP 3 i s n ns)) ∧ Below w.heap.size w w' := by
  have e0 : fitsP 3 i s n ns = fitsP 3 i s n ns := rfl
  conv at e0 => rhs; unfold fitsP
  simp only [Int.reduceEq, if_true, if_false, or_true, true_or, or_false, false_or] at e0
  rw [e0]
  clear e0
  go_enter Try.func73, Try.ntmps73
  go_wp2_with (go_at_call 82; refine (single_any _ _ _ _ _ _ _ _ _ _).mono ?_; rintro e w' ⟨rfl, hb⟩)
  all_goals
    go_ret
    first
      | exact ⟨rfl, toStart (below_box _) hb⟩
      | exact ⟨rfl, below_box _⟩
      | exact ⟨ret_b (by simp_all [nat_beq0, nat_beq] <;> (intros; omega)), toStart (below_box _) hb⟩
      | exact ⟨ret_b (by simp_all [nat_beq0, nat_beq] <;> (intros; omega)), below_box _⟩
set_option maxHeartbeats 1000000 in
set_option maxRecDepth 100000 in
theorem fits4 (i : Int) (s : ByteArray) (A A' : Option Addr) (n c c' : Nat) (ns : List ByteArray) (w : World) :
    Calls Try.prog 73 #[.agg #[.int .i64 4, .int .i64 i, .string s, .slice A n c, .slice A' ns.length c']] w fun e w' => e = .returned (.bool (fitsP 4 i s n ns)) ∧ Below w.heap.size w w' := by
  have e0 : fitsP 4 i s n ns = fitsP 4 i s n ns := rfl
  conv at e0 => rhs; unfold fitsP
  simp only [Int.reduceEq, if_true, if_false, or_true, true_or, or_false, false_or] at e0
  rw [e0]
  clear e0
  go_enter Try.func73, Try.ntmps73
  go_wp2_with (go_at_call 82; refine (single_any _ _ _ _ _ _ _ _ _ _).mono ?_; rintro e w' ⟨rfl, hb⟩)
  all_goals
    go_ret
    first
      | exact ⟨rfl, toStart (below_box _) hb⟩
      | exact ⟨rfl, below_box _⟩
      | exact ⟨ret_b (by simp_all [nat_beq0, nat_beq] <;> (intros; omega)), toStart (below_box _) hb⟩
      | exact ⟨ret_b (by simp_all [nat_beq0, nat_beq] <;> (intros; omega)), below_box _⟩
set_option maxHeartbeats 1000000 in
set_option maxRecDepth 100000 in
theorem fits5 (i : Int) (s : ByteArray) (A A' : Option Addr) (n c c' : Nat) (ns : List ByteArray) (w : World) :
    Calls Try.prog 73 #[.agg #[.int .i64 5, .int .i64 i, .string s, .slice A n c, .slice A' ns.length c']] w fun e w' => e = .returned (.bool (fitsP 5 i s n ns)) ∧ Below w.heap.size w w' := by
  have e0 : fitsP 5 i s n ns = fitsP 5 i s n ns := rfl
  conv at e0 => rhs; unfold fitsP
  simp only [Int.reduceEq, if_true, if_false, or_true, true_or, or_false, false_or] at e0
  rw [e0]
  clear e0
  go_enter Try.func73, Try.ntmps73
  go_wp2_with (go_at_call 82; refine (single_any _ _ _ _ _ _ _ _ _ _).mono ?_; rintro e w' ⟨rfl, hb⟩)
  all_goals
    go_ret
    first
      | exact ⟨rfl, toStart (below_box _) hb⟩
      | exact ⟨rfl, below_box _⟩
      | exact ⟨ret_b (by simp_all [nat_beq0, nat_beq] <;> (intros; omega)), toStart (below_box _) hb⟩
      | exact ⟨ret_b (by simp_all [nat_beq0, nat_beq] <;> (intros; omega)), below_box _⟩
set_option maxHeartbeats 1000000 in
set_option maxRecDepth 100000 in
theorem fits6 (i : Int) (s : ByteArray) (A A' : Option Addr) (n c c' : Nat) (ns : List ByteArray) (w : World) :
    Calls Try.prog 73 #[.agg #[.int .i64 6, .int .i64 i, .string s, .slice A n c, .slice A' ns.length c']] w fun e w' => e = .returned (.bool (fitsP 6 i s n ns)) ∧ Below w.heap.size w w' := by
  have e0 : fitsP 6 i s n ns = fitsP 6 i s n ns := rfl
  conv at e0 => rhs; unfold fitsP
  simp only [Int.reduceEq, if_true, if_false, or_true, true_or, or_false, false_or] at e0
  rw [e0]
  clear e0
  go_enter Try.func73, Try.ntmps73
  go_wp2_with (go_at_call 82; refine (single_any _ _ _ _ _ _ _ _ _ _).mono ?_; rintro e w' ⟨rfl, hb⟩)
  all_goals
    go_ret
    first
      | exact ⟨rfl, toStart (below_box _) hb⟩
      | exact ⟨rfl, below_box _⟩
      | exact ⟨ret_b (by simp_all [nat_beq0, nat_beq] <;> (intros; omega)), toStart (below_box _) hb⟩
      | exact ⟨ret_b (by simp_all [nat_beq0, nat_beq] <;> (intros; omega)), below_box _⟩
set_option maxHeartbeats 1000000 in
set_option maxRecDepth 100000 in
theorem fits7 (i : Int) (s : ByteArray) (A A' : Option Addr) (n c c' : Nat) (ns : List ByteArray) (w : World) (S : Nat → Prop) (hS : ∀ b, S b → b < w.heap.size) (hN : StrsAt w S A' ns) (hl : ns.length ≤ 140737488351232) :
    Calls Try.prog 73 #[.agg #[.int .i64 7, .int .i64 i, .string s, .slice A n c, .slice A' ns.length c']] w fun e w' => e = .returned (.bool (fitsP 7 i s n ns)) ∧ Below w.heap.size w w' := by
  have e0 : fitsP 7 i s n ns = fitsP 7 i s n ns := rfl
  conv at e0 => rhs; unfold fitsP
  simp only [Int.reduceEq, if_true, if_false, or_true, true_or, or_false, false_or] at e0
  rw [e0]
  clear e0
  have HN := Lib.hid (hN.below hS (below_box (.cells #[.int .i64 7, .int .i64 i, .string s, .slice A n c, .slice A' ns.length c'] 49)))
  clear hN
  go_enter Try.func73, Try.ntmps73
  go_wp2_with (go_at_call 83; refine (distinct_any S _ _ _ _ (sub_alloc hS _) (by simp_all; exact HN.out) hl).mono ?_; rintro e w' ⟨rfl, hb⟩)
  all_goals
    go_ret
    first
      | exact ⟨rfl, toStart (below_box _) hb⟩
      | exact ⟨rfl, below_box _⟩
      | exact ⟨ret_b (by simp_all [nat_beq0, nat_beq] <;> (intros; omega)), toStart (below_box _) hb⟩
      | exact ⟨ret_b (by simp_all [nat_beq0, nat_beq] <;> (intros; omega)), below_box _⟩
set_option maxHeartbeats 1000000 in
set_option maxRecDepth 100000 in
theorem fits0 (k i : Int) (s : ByteArray) (A A' : Option Addr) (n c c' : Nat) (ns : List ByteArray) (w : World) (hk : ¬ (1 ≤ k ∧ k ≤ 7)) :
    Calls Try.prog 73 #[.agg #[.int .i64 k, .int .i64 i, .string s, .slice A n c, .slice A' ns.length c']] w fun e w' => e = .returned (.bool (fitsP k i s n ns)) ∧ Below w.heap.size w w' := by
  have e0 : fitsP k i s n ns = false := by
    unfold fitsP
    rw [if_neg (by omega), if_neg (by omega), if_neg (by omega), if_neg (by omega), if_neg (by omega), if_neg (by omega)]
  rw [e0]
  have b1 : (k == 1) = false := by simp; omega
  have b2 : (k == 2) = false := by simp; omega
  have b3 : (k == 3) = false := by simp; omega
  have b4 : (k == 4) = false := by simp; omega
  have b5 : (k == 5) = false := by simp; omega
  have b6 : (k == 6) = false := by simp; omega
  have b7 : (k == 7) = false := by simp; omega
  clear e0 hk
  go_enter Try.func73, Try.ntmps73
  go_wp2_with fail
  go_ret
  exact ⟨rfl, below_box _⟩
theorem fits_any (S : Nat → Prop) (t : VT) (v : Value) (w : World) (hS : ∀ b, S b → b < w.heap.size) (h : LV w S t v) : Calls Try.prog 73 #[v] w fun e w' => e = .returned (.bool (fitsT t)) ∧ Below w.heap.size w w' := by
  obtain ⟨A, c, A', c', rfl, -, -, -, -, h5, h6, -⟩ := h.shape
  cases t with
  | mk k i s l ns =>
  show Calls Try.prog 73 #[.agg #[.int .i64 k, .int .i64 i, .string s, .slice A l.length c, .slice A' ns.length c']] w fun e w' => e = .returned (.bool (fitsP k i s l.length ns)) ∧ Below w.heap.size w w'
  by_cases hk : 1 ≤ k ∧ k ≤ 7
  · obtain rfl | rfl | rfl | rfl | rfl | rfl | rfl : k = 1 ∨ k = 2 ∨ k = 3 ∨ k = 4 ∨ k = 5 ∨ k = 6 ∨ k = 7 := by omega
    · exact fits1 _ _ _ _ _ _ _ _ _
    · exact fits2 _ _ _ _ _ _ _ _ _
    · exact fits3 _ _ _ _ _ _ _ _ _
    · exact fits4 _ _ _ _ _ _ _ _ _
    · exact fits5 _ _ _ _ _ _ _ _ _
    · exact fits6 _ _ _ _ _ _ _ _ _
    · exact fits7 _ _ _ _ _ _ _ _ _ S hS h6 h5
  · exact fits0 _ _ _ _ _ _ _ _ _ _ hk
end Go.Proofs.Yteakkbgfkcknlaa
