/- Beginnings of lists of texts, by the program. -/
import Derived.Test.YtipiplnhbecjeaaKPathA
namespace Go.Proofs.Ytipiplnhbecjeaa
set_option linter.unusedVariables false
set_option linter.unusedSimpArgs false
open Go.RowKit

theorem begP_len {a b : List ByteArray} (h : a.length = b.length) : begP a b = decide (a = b) := by
  unfold begP
  rw [decide_eq_true (by omega), Bool.true_and, List.take_of_length_le (by omega)]
  exact decide_eq_decide.2 ⟨Eq.symm, Eq.symm⟩
set_option maxHeartbeats 1000000 in
theorem equal_any (A B : Option Addr) (c d n : Nat) (a b : List ByteArray) (w : World) (S T : Nat → Prop) (h : StrsAt w S A a) (k : StrsAt w T B b) (hS : ∀ b, S b → b < w.heap.size) (hT : ∀ b, T b → b < w.heap.size) (hn : a.length ≤ 140737488351232) (hab : a.length = b.length) (hnn : n = b.length) :
    Calls Try.prog 85 #[.slice A a.length c, .slice B n d] w fun e w' => e = .returned (.bool (decide (a = b))) ∧ Below w.heap.size w w' := by
  have HS := Lib.hid h
  have HT := Lib.hid k
  have HN := Lib.hid hn
  have HA := Lib.hid hab
  have HE := Lib.hid (hnn.trans hab.symm)
  obtain rfl : n = a.length := HE.out
  clear h k hab hnn HE
  go_enter Try.func85, Try.ntmps85
  go_wp2_with fail
  go_loopw [13] (fun i wr => ∃ k : Nat, i = .int .i64 k ∧ k ≤ a.length ∧ Hid (Below w.heap.size w wr) ∧ Hid (∀ j (h : j < a.length) (h' : j < b.length), j < k → a[j] = b[j])) (fun i _ => a.length - (intOf i).toNat)
  case atStart => exact ⟨0, rfl, by omega, Below.refl _ _, fun j _ _ h => absurd h (by omega)⟩
  case round =>
    obtain ⟨k, rfl, hk, HB, HJ⟩ := hrel
    by_cases hlt : k < a.length
    · have hkb : k < b.length := by have := HA.out; omega
      obtain ⟨p, o, rfl, hp, hc⟩ := HS.out (by omega)
      obtain ⟨q, r, rfl, hq, hd⟩ := HT.out (by omega)
      have hck := (HB.out.cell (p := ⟨p, o + k, none⟩) (hS p hp)).trans (hc k hlt).1
      have hdk := (HB.out.cell (p := ⟨q, r + k, none⟩) (hT q hq)).trans (hd k hkb).1
      clear hc hd
      by_cases he : a[k] = b[k]
      · have e2 : (a[k].toList == b[k].toList) = true := by rw [str_beq]; exact decide_eq_true he
        have HE := Lib.hid he
        clear he
        go_wp2
        go_quiet (fail)
        go_wp2
        go_roundw
        case rel => exact ⟨k + 1, by go_num, by omega, below_drewN HB.out _, fun j h h' hjk => by
          by_cases e : j = k
          · subst e; exact HE.out
          · exact HJ.out j h h' (by omega)⟩
        case measure => simp [intOf]; omega
      · have e2 : (a[k].toList == b[k].toList) = false := by rw [str_beq]; exact decide_eq_false he
        have HE := Lib.hid he
        clear he
        go_wp2
        go_quiet (fail)
        go_wp2
        go_ret
        exact ⟨ret_bool (decide_eq_false fun h => HE.out (by subst h; rfl)).symm, below_drewN HB.out _⟩
    · obtain rfl : k = a.length := by omega
      clear hlt hk
      go_wp2_with fail
      go_ret
      exact ⟨ret_bool (decide_eq_true (List.ext_getElem HA.out fun j h h' => HJ.out j h h' h)).symm, HB.out⟩

set_option maxHeartbeats 1000000 in
theorem begins_any (A B : Option Addr) (c d : Nat) (a b : List ByteArray) (w : World) (S T : Nat → Prop) (h : StrsAt w S A a) (k : StrsAt w T B b) (hS : ∀ b, S b → b < w.heap.size) (hT : ∀ b, T b → b < w.heap.size) (hn : a.length ≤ 140737488351232) (hm : b.length ≤ 140737488351232) (hd : b.length ≤ d) :
    Calls Try.prog 65 #[.slice A a.length c, .slice B b.length d] w fun e w' => e = .returned (.bool (begP a b)) ∧ Below w.heap.size w w' := by
  by_cases hl : a.length ≤ b.length
  · have el : decide (a.length ≤ b.length) = true := by simpa using hl
    have ht : (b.take a.length).length = a.length := by simp; omega
    have HT := Lib.hid ht
    clear ht
    have HK := Lib.hid (k.take a.length)
    go_enter Try.func65, Try.ntmps65
    go_wp2_with fail
    refine (equal_any A B c d a.length a (b.take a.length) _ S T h HK.out hS hT hn HT.out.symm HT.out.symm).mono ?_
    rintro e w1 ⟨rfl, hb⟩
    have HB := Lib.hid hb
    clear hb
    go_wp2_with fail
    go_ret
    exact ⟨ret_bool (by unfold begP; rw [el, Bool.true_and]; exact decide_eq_decide.2 ⟨Eq.symm, Eq.symm⟩), HB.out⟩
  · have el : decide (a.length ≤ b.length) = false := by simpa using hl
    go_enter Try.func65, Try.ntmps65
    go_wp2_with fail
    go_ret
    exact ⟨ret_bool (by unfold begP; rw [el]; rfl), Below.refl _ _⟩

set_option maxHeartbeats 1000000 in
theorem meet_any (A B : Option Addr) (c d : Nat) (a b : List ByteArray) (w : World) (S T : Nat → Prop) (h : StrsAt w S A a) (k : StrsAt w T B b) (hS : ∀ b, S b → b < w.heap.size) (hT : ∀ b, T b → b < w.heap.size) (hn : a.length ≤ 140737488351232) (hm : b.length ≤ 140737488351232) (hc : a.length ≤ c) (hd : b.length ≤ d) :
    Calls Try.prog 42 #[.slice A a.length c, .slice B b.length d] w fun e w' => e = .returned (.bool (begP a b || begP b a)) ∧ Below w.heap.size w w' := by
  have HS := Lib.hid h
  have HT := Lib.hid k
  clear h k
  go_enter Try.func42, Try.ntmps42
  go_wp2_with fail
  refine (begins_any A B c d a b _ S T HS.out HT.out hS hT hn hm hd).mono ?_
  rintro e w1 ⟨rfl, hb⟩
  have HB := Lib.hid hb
  clear hb
  cases hx : begP a b
  · go_wp2_with fail
    refine (begins_any B A d c b a _ T S (HT.out.keep fun b hb => HB.out.block b (hT b hb)) (HS.out.keep fun b hb => HB.out.block b (hS b hb)) (fun b hb => Nat.lt_of_lt_of_le (hT b hb) HB.out.size) (fun b hb => Nat.lt_of_lt_of_le (hS b hb) HB.out.size) hm hn hc).mono ?_
    rintro e w2 ⟨rfl, hb⟩
    have HB2 := Lib.hid (grow_trans HB.out hb)
    clear hb
    go_wp2_with fail
    go_ret
    exact ⟨ret_bool (by rw [hx, Bool.false_or]), HB2.out⟩
  · go_wp2_with fail
    go_ret
    exact ⟨ret_bool (by rw [hx, Bool.true_or]), HB.out⟩
set_option maxHeartbeats 1000000 in
theorem rpsame_any (A B : Option Addr) (c d : Nat) (a b : List ByteArray) (w : World) (S T : Nat → Prop) (h : StrsAt w S A a) (k : StrsAt w T B b) (hS : ∀ b, S b → b < w.heap.size) (hT : ∀ b, T b → b < w.heap.size) (hn : a.length ≤ 140737488351232) (hm : b.length ≤ 140737488351232) :
    Calls Try.prog 29 #[.slice A a.length c, .slice B b.length d] w fun e w' => e = .returned (.bool (decide (a = b))) ∧ Below w.heap.size w w' := by
  by_cases hl : a.length = b.length
  · have HL := Lib.hid hl
    have el : ((a.length : Int) == (b.length : Int)) = true := beq_iff_eq.2 (by omega)
    clear hl
    go_enter Try.func29, Try.ntmps29
    go_wp2_with fail
    refine (rbegins_any A B c d a b _ S T h k hS hT hn hm).mono ?_
    rintro e w1 ⟨rfl, hb⟩
    have HB := Lib.hid hb
    clear hb
    go_wp2_with fail
    go_ret
    exact ⟨ret_bool (begP_len HL.out), HB.out⟩
  · have HL := Lib.hid hl
    have el : ((a.length : Int) == (b.length : Int)) = false := beq_eq_false_iff_ne.2 (by omega)
    clear hl
    go_enter Try.func29, Try.ntmps29
    go_wp2_with fail
    go_ret
    exact ⟨ret_bool (decide_eq_false fun h => HL.out (by rw [h])).symm, Below.refl _ _⟩
end Go.Proofs.Ytipiplnhbecjeaa
