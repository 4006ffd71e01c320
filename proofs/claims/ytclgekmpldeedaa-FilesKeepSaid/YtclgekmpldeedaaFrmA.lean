/- The sum of bytes: plain, as the program goes on with it bit by bit, and as the document says it. -/
import Derived.Test.YtclgekmpldeedaaRefA
namespace Go.Proofs.Ytclgekmpldeedaa
set_option linter.unusedVariables false
set_option linter.unusedSimpArgs false
open Go.RowKit

/-- One bit, one byte, and bytes. -/
def crcStep (x : Nat) : Nat := if x % 2 = 1 then (x / 2) ^^^ 3988292384 else x / 2
def crcBits : Nat → Nat → Nat
  | 0, x => x
  | k + 1, x => crcBits k (crcStep x)
def crcByte (x : Nat) (b : UInt8) : Nat := crcBits 8 (x ^^^ b.toNat)
def crcFrom (x : Nat) (l : List UInt8) : Nat := l.foldl crcByte x
def crcOf (l : List UInt8) : Nat := 4294967295 - crcFrom 4294967295 l

theorem crcStep_lt {x : Nat} (h : x < 4294967296) : crcStep x < 4294967296 := by
  unfold crcStep
  split
  · exact Nat.xor_lt_two_pow (n := 32) (by omega) (by omega)
  · omega
theorem crcBits_lt : ∀ (k x : Nat), x < 4294967296 → crcBits k x < 4294967296
  | 0, x, h => h
  | k + 1, x, h => crcBits_lt k _ (crcStep_lt h)
theorem xor_byte_lt {x : Nat} (b : UInt8) (h : x < 4294967296) : x ^^^ b.toNat < 4294967296 := Nat.xor_lt_two_pow (n := 32) (by omega) (by have := UInt8.toNat_lt b; omega)
theorem crcByte_lt {x : Nat} (b : UInt8) (h : x < 4294967296) : crcByte x b < 4294967296 := crcBits_lt 8 _ (xor_byte_lt b h)
theorem crcFrom_lt : ∀ (l : List UInt8) (x : Nat), x < 4294967296 → crcFrom x l < 4294967296
  | [], x, h => h
  | b :: l, x, h => crcFrom_lt l _ (crcByte_lt b h)
theorem crcOf_lt (l : List UInt8) : crcOf l < 4294967296 := by unfold crcOf; omega
theorem crcFrom_cons (x : Nat) (b : UInt8) (l : List UInt8) : crcFrom x (b :: l) = crcFrom (crcByte x b) l := rfl
theorem crcFrom_drop (x k : Nat) (l : List UInt8) (h : k < l.length) : crcFrom x (l.drop k) = crcFrom (crcByte x l[k]) (l.drop (k + 1)) := by
  rw [List.drop_eq_getElem_cons h, crcFrom_cons]

theorem ret_u32 {a b : Int} (h : a = b) : Ending.returned (.int .u32 a) = .returned (.int .u32 b) := by rw [h]

theorem step_val (x : Nat) (hx : x < 4294967296) :
    bits .xor .u32 ((x : Int) / 2) (bits .and .u32 3988292384 (-bits .and .u32 (x : Int) 1 % 4294967296)) = ((crcStep x : Nat) : Int) := by
  have e1 : bits .and .u32 (x : Int) 1 = ((x % 2 : Nat) : Int) := by
    have := u32_and_nat x 1 hx (by omega)
    rw [Nat.and_one_is_mod] at this
    exact this
  rw [e1]
  have e2 : ((x : Int) / 2) = ((x / 2 : Nat) : Int) := by omega
  rw [e2]
  unfold crcStep
  by_cases h : x % 2 = 1
  · rw [if_pos h, h]
    have e3 : (-((1 : Nat) : Int) % 4294967296) = ((4294967295 : Nat) : Int) := by decide
    have e4 : bits .and .u32 3988292384 ((4294967295 : Nat) : Int) = ((3988292384 : Nat) : Int) := by decide
    rw [e3, e4, u32_xor_nat _ _ (by omega) (by omega)]
  · have h0 : x % 2 = 0 := by omega
    rw [if_neg h, h0]
    have e3 : (-((0 : Nat) : Int) % 4294967296) = ((0 : Nat) : Int) := by decide
    have e4 : bits .and .u32 3988292384 ((0 : Nat) : Int) = ((0 : Nat) : Int) := by decide
    rw [e3, e4, u32_xor_nat _ _ (by omega) (by omega), Nat.xor_zero]

theorem crcBits_succ (j z : Nat) (h : j < 8) : crcBits (8 - j) z = crcBits (8 - (j + 1)) (crcStep z) := by
  have e : 8 - j = (8 - (j + 1)) + 1 := by omega
  rw [e, crcBits]
theorem xor_byte (y : Nat) (b : UInt8) (hy : y < 4294967296) : bits .xor .u32 (y : Int) (b.toNat : Int) = ((y ^^^ b.toNat : Nat) : Int) := u32_xor_nat _ _ hy (by have := UInt8.toNat_lt b; omega)
theorem not_u32 (y : Nat) (hy : y < 4294967296) : bits .xor .u32 4294967295 (y : Int) = ((4294967295 - y : Nat) : Int) := by
  have h := u32_xor_nat 4294967295 y (by omega) hy
  have h2 : (4294967295 : Nat) ^^^ y = 4294967295 - y := by
    have h : (BitVec.allOnes 32 ^^^ BitVec.ofNat 32 y) = ~~~ (BitVec.ofNat 32 y) := by rw [BitVec.allOnes_xor]
    have h2 := congrArg BitVec.toNat h
    rw [BitVec.toNat_xor, BitVec.toNat_allOnes, BitVec.toNat_not, BitVec.toNat_ofNat, Nat.mod_eq_of_lt hy] at h2
    exact h2
  rw [← h2]
  exact h

theorem byte_mod (b : UInt8) : ((b.toNat : Int) % 4294967296) = (b.toNat : Int) := by have := UInt8.toNat_lt b; omega
theorem half_odd (z : Nat) (hz : z < 4294967296) (h : z % 2 = 1) : Value.int .u32 (bits .xor .u32 ((z : Int) / 2 % 4294967296) 3988292384) = .int .u32 ((crcStep z : Nat) : Int) := by
  have e : ((z : Int) / 2 % 4294967296) = ((z / 2 : Nat) : Int) := by omega
  have := u32_xor_nat (z / 2) 3988292384 (by omega) (by omega)
  rw [e]
  unfold crcStep
  rw [if_pos h, ← this]
  rfl
theorem half_even (z : Nat) (hz : z < 4294967296) (h : ¬ z % 2 = 1) : Value.int .u32 ((z : Int) / 2 % 4294967296) = .int .u32 ((crcStep z : Nat) : Int) := by
  have e : ((z : Int) / 2 % 4294967296) = ((z / 2 : Nat) : Int) := by omega
  unfold crcStep
  rw [if_neg h, e]
theorem wrap_u32_nat (n : Nat) (h : n < 4294967296) : wrap64 (n : Int) = (n : Int) := by unfold wrap64; omega
theorem last_val2 (y x : Nat) (l : List UInt8) (k : Nat) (hk : l.length ≤ k) (h : y < 4294967296 ∧ crcFrom y (l.drop k) = crcFrom x l) : (y : Int) = ((crcFrom x l : Nat) : Int) := by
  have h2 := h.2
  rw [List.drop_eq_nil_of_le hk] at h2
  rw [← h2]
  rfl
theorem last_val (y : Nat) (l : List UInt8) (k : Nat) (hk : l.length ≤ k) (h : y < 4294967296 ∧ crcFrom y (l.drop k) = crcFrom 4294967295 l) : wrap64 (bits .xor .u32 IntKind.u32.max (y : Int)) = ((crcOf l : Nat) : Int) := by
  have e : IntKind.u32.max = (4294967295 : Int) := by decide
  rw [e, not_u32 y h.1, wrap_u32_nat _ (by omega)]
  have h2 := h.2
  rw [List.drop_eq_nil_of_le hk] at h2
  unfold crcOf
  rw [← h2]
  rfl
theorem sum_val (l : List UInt8) : wrap64 (bits .xor .u32 IntKind.u32.max ((crcFrom 4294967295 l : Nat) : Int)) = ((crcOf l : Nat) : Int) :=
  last_val (crcFrom 4294967295 l) l l.length (Nat.le_refl _) ⟨crcFrom_lt l _ (by decide), by simp [crcFrom]⟩



end Go.Proofs.Ytclgekmpldeedaa
