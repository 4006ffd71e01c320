/- The groups at the beginning of a string, read. -/
import Derived.Test.YtclgekmpldeedaaVarD
namespace Go.Proofs.Ytclgekmpldeedaa
set_option linter.unusedVariables false
set_option linter.unusedSimpArgs false
open Go.RowKit

/-- What a round of the reading finds. -/
def GInv (s : ByteArray) (k acc : Nat) : Prop := acc < 128 ^ k ∧ getG k acc (s.data.toList.drop k) = getG 0 0 s.data.toList

theorem pow7 (k : Nat) : (2 : Nat) ^ (7 * k) = 128 ^ k := by rw [Nat.pow_mul]
theorem pow_le9 (k : Nat) (h : k ≤ 9) : (128 : Nat) ^ k ≤ 9223372036854775808 := by
  have : (128 : Nat) ^ k ≤ 128 ^ 9 := Nat.pow_le_pow_right (by omega) h
  have e9 : (128 : Nat) ^ 9 = 9223372036854775808 := by decide
  omega
theorem mul_pow_lt (c k : Nat) (hc : c < 128) (h : k ≤ 9) (h9 : k = 9 → c ≤ 1) : c * 128 ^ k ≤ 9223372036854775808 := by
  by_cases e : k = 9
  · subst e
    have := h9 rfl
    have e9 : (128 : Nat) ^ 9 = 9223372036854775808 := by decide
    have : c * 128 ^ 9 ≤ 1 * 128 ^ 9 := Nat.mul_le_mul_right _ (by omega)
    omega
  · have h2 := pow_le9 (k + 1) (by omega)
    have e3 : (128 : Nat) ^ (k + 1) = 128 * 128 ^ k := by rw [Nat.pow_succ]; omega
    have : c * 128 ^ k ≤ 128 * 128 ^ k := Nat.mul_le_mul_right _ (by omega)
    omega
theorem or_val (acc b k : Nat) (hacc : acc < 128 ^ k) (h : k ≤ 9) (h9 : k = 9 → b % 128 ≤ 1) :
    bits .or .u64 (acc : Int) (IntKind.u64.wrap ((b : Int) % 128 * 2 ^ (7 * k))) = ((acc + b % 128 * 128 ^ k : Nat) : Int) := by
  have hm := mul_pow_lt (b % 128) k (by omega) h h9
  have hp := pow_le9 k h
  have e : IntKind.u64.wrap ((b : Int) % 128 * 2 ^ (7 * k)) = ((b % 128 * 128 ^ k : Nat) : Int) := by
    have e1 : ((b : Int) % 128 * 2 ^ (7 * k)) = ((b % 128 * 128 ^ k : Nat) : Int) := by
      rw [← pow7]; simp
    rw [e1, IntKind.wrap_u64]; omega
  rw [e, u64_or_nat _ _ (by omega) (by omega), Nat.or_comm, nat_join (7 * k) _ _ (by rw [pow7]; exact Nat.mul_mod_left _ _) (by rw [pow7]; exact hacc)]
  omega
theorem ret_g {X Y : Int} {p q : Nat} (h1 : X = (p : Int)) (h2 : Y = (q : Int)) :
    Ending.returned (.tuple #[.int .u64 X, .int .i64 Y]) = .returned (.tuple #[.int .u64 p, .int .i64 q]) := by rw [h1, h2]

theorem drop_at (s : ByteArray) (k : Nat) (hk : k < s.size) : s.data.toList.drop k = s[k] :: s.data.toList.drop (k + 1) := by
  rw [List.drop_eq_getElem_cons (by simpa using hk)]; rfl
theorem G_end {s : ByteArray} {k acc : Nat} (HG : GInv s k acc) (h10 : k ≤ 10) (hn : ¬ (k < s.size ∧ k < 10)) (hle : k ≤ s.size) : getG 0 0 s.data.toList = (0, 0) := by
  rw [← HG.2]
  by_cases h : k < s.size
  · rw [drop_at s k h, getG, if_pos (by omega)]
  · rw [List.drop_eq_nil_of_le (by simp; omega), getG]
theorem G_hi {s : ByteArray} {k acc : Nat} (HG : GInv s k acc) (hk : k < s.size) (h10 : k < 10) (h9 : k = 9) (hb : 1 < s[k].toNat) : getG 0 0 s.data.toList = (0, 0) := by
  rw [← HG.2, drop_at s k hk, getG, if_neg (by omega), if_pos ⟨h9, hb⟩]
theorem G_zero {s : ByteArray} {k acc : Nat} (HG : GInv s k acc) (hk : k < s.size) (h10 : k < 10) (h0 : 0 < k) (hb : s[k].toNat = 0) : getG 0 0 s.data.toList = (0, 0) := by
  rw [← HG.2, drop_at s k hk, getG, if_neg (by omega), if_neg (by omega), if_pos (by omega), if_pos ⟨hb, h0⟩]
theorem G_last {s : ByteArray} {k acc : Nat} (HG : GInv s k acc) (hk : k < s.size) (h10 : k < 10) (h9 : k = 9 → s[k].toNat ≤ 1) (hb : s[k].toNat < 128) (hz : s[k].toNat = 0 → ¬ 0 < k) :
    bits .or .u64 (acc : Int) (IntKind.u64.wrap ((s[k].toNat : Int) % 128 * 2 ^ (7 * k))) = ((getG 0 0 s.data.toList).1 : Int) ∧ (k : Int) + 1 = ((getG 0 0 s.data.toList).2 : Int) := by
  rw [or_val acc s[k].toNat k HG.1 (by omega) (by omega)]
  rw [← HG.2, drop_at s k hk, getG, if_neg (by omega), if_neg (by omega), if_pos (by omega), if_neg (by omega)]
  rw [Nat.mod_eq_of_lt hb]
  exact ⟨rfl, by simp⟩
theorem G_last9 {s : ByteArray} {k acc : Nat} (HG : GInv s k acc) (hk : k < s.size) (h9 : k = 9) (hb : s[k].toNat ≤ 1) (hz : ¬ s[k].toNat = 0) :
    bits .or .u64 (acc : Int) ((s[k].toNat : Int) % 128 * 9223372036854775808) = ((getG 0 0 s.data.toList).1 : Int) ∧ (10 : Int) = ((getG 0 0 s.data.toList).2 : Int) := by
  have h := G_last HG hk (by omega) (fun _ => hb) (by omega) (fun h => absurd h hz)
  have e : IntKind.u64.wrap ((s[k].toNat : Int) % 128 * 2 ^ (7 * k)) = (s[k].toNat : Int) % 128 * 9223372036854775808 := by
    have e1 : (2 : Int) ^ (7 * k) = 9223372036854775808 := by rw [h9]; rfl
    rw [e1, IntKind.wrap_u64]; omega
  rw [e] at h
  refine ⟨h.1, ?_⟩
  rw [← h.2, h9]; rfl
theorem G_last0 {s : ByteArray} {k acc : Nat} (HG : GInv s k acc) (hk : k < s.size) (h0 : ¬ 0 < k) (hb : s[k].toNat = 0) :
    bits .or .u64 (acc : Int) (IntKind.u64.wrap 0) = ((getG 0 0 s.data.toList).1 : Int) ∧ (k : Int) + 1 = ((getG 0 0 s.data.toList).2 : Int) := by
  have h := G_last HG hk (by omega) (by omega) (by omega) (fun _ => h0)
  have e : ((s[k].toNat : Int) % 128 * 2 ^ (7 * k)) = 0 := by rw [hb]; simp
  rw [e] at h
  exact h
theorem G_more {s : ByteArray} {k acc : Nat} (HG : GInv s k acc) (hk : k < s.size) (h10 : k < 10) (h9 : k ≠ 9) (hb : 128 ≤ s[k].toNat) :
    ∃ acc' : Nat, bits .or .u64 (acc : Int) (IntKind.u64.wrap ((s[k].toNat : Int) % 128 * 2 ^ (7 * k))) = (acc' : Int) ∧ GInv s (k + 1) acc' := by
  have hlt := UInt8.toNat_lt s[k]
  refine ⟨_, or_val acc s[k].toNat k HG.1 (by omega) (by omega), ?_, ?_⟩
  · have e3 : (128 : Nat) ^ (k + 1) = 128 * 128 ^ k := by rw [Nat.pow_succ]; omega
    have : s[k].toNat % 128 * 128 ^ k ≤ 127 * 128 ^ k := Nat.mul_le_mul_right _ (by omega)
    have := HG.1
    omega
  · rw [← HG.2, drop_at s k hk]
    conv => rhs; rw [getG, if_neg (by omega), if_neg (by omega), if_neg (by omega)]
    have e : s[k].toNat % 128 = s[k].toNat - 128 := by omega
    rw [e]

end Go.Proofs.Ytclgekmpldeedaa
