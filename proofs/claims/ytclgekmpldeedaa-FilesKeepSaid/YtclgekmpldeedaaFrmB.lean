/- A sum's four bytes: laid by the program and by the document, and read by the program; how many bytes a frame has. -/
import Derived.Test.YtclgekmpldeedaaFrmA
import Derived.Test.YtclgekmpldeedaaRefC
namespace Go.Proofs.Ytclgekmpldeedaa
set_option linter.unusedVariables false
set_option linter.unusedSimpArgs false
open Go.RowKit

/-- A number's first k bytes, the lowest first. -/
def loB : Nat → Nat → List UInt8
  | 0, _ => []
  | k + 1, n => UInt8.ofNat n :: loB k (n / 256)
theorem loB_length : ∀ k n, (loB k n).length = k
  | 0, _ => rfl
  | k + 1, n => by rw [loB, List.length_cons, loB_length k]
theorem loB_four (n : Nat) : loB 4 n = [UInt8.ofNat n, UInt8.ofNat (n / 256), UInt8.ofNat (n / 65536), UInt8.ofNat (n / 16777216)] := by
  simp only [loB, Nat.div_div_eq_div_mul, Nat.reduceMul]
theorem byte_nat (n : Nat) : IntKind.u8.wrap (n : Int) = ((UInt8.ofNat n).toNat : Int) := by
  rw [IntKind.wrap_u8', UInt8.toNat_ofNat']
  omega
theorem byte_nat' (n : Nat) : ((n : Int) % 256) = ((UInt8.ofNat n).toNat : Int) := by
  rw [UInt8.toNat_ofNat']
  omega


/-- A literal of bytes. -/
theorem own_lit (w : World) (l : List UInt8) (hl : l.length ≤ maxLen) : OwnB (w.alloc (.cells (bcells l).toArray 5)) w.heap.size (.slice (some ⟨w.heap.size, 0, none⟩) l.length l.length) l :=
  ⟨by simp [bcells], .inr ⟨_, l.length, _, rfl, Nat.le_refl _, heap_alloc_new w _, Nat.le_refl _, hl, by simp [bcells], by
    rw [Nat.mul_one]
    exact List.take_of_length_le (by simp [bcells])⟩⟩

/-- The next bytes, as a number whose lowest byte comes first. -/
def rdSum : Nat → Nat → Nat → Option (List UInt8) → Nat × Option (List UInt8)
  | 0, _, acc, st => (acc, st)
  | j + 1, i, acc, st => rdSum j (i + 1) (acc + (rdByte st).1 * 256 ^ i) (rdByte st).2
theorem rdByte_lt (st : Option (List UInt8)) : (rdByte st).1 < 256 := by
  rcases st with _ | ⟨_ | ⟨b, r⟩⟩
  · decide
  · decide
  · exact UInt8.toNat_lt b
theorem i64_or_nat (a b : Nat) (ha : a < 9223372036854775808) (hb : b < 9223372036854775808) : bits .or .i64 (a : Int) (b : Int) = ((a ||| b : Nat) : Int) := by
  have hx : a ||| b < 2 ^ 63 := Nat.or_lt_two_pow (by omega) (by omega)
  show IntKind.i64.wrap ((BitVec.ofInt 64 (a : Int) ||| BitVec.ofInt 64 (b : Int)).toNat : Int) = _
  rw [BitVec.toNat_or, ofInt_u64 a (by omega), ofInt_u64 b (by omega), IntKind.wrap_i64]
  omega
theorem or_byte (acc b k : Nat) (hk : k ≤ 3) (ha : acc < 256 ^ k) (hb : b < 256) : bits .or .i64 (acc : Int) ((b * 256 ^ k : Nat) : Int) = ((acc + b * 256 ^ k : Nat) : Int) := by
  have hp : (256 : Nat) ^ k ≤ 256 ^ 3 := Nat.pow_le_pow_right (by omega) hk
  have e3 : (256 : Nat) ^ 3 = 16777216 := by decide
  have hm : b * 256 ^ k ≤ 255 * 256 ^ k := Nat.mul_le_mul_right _ (by omega)
  rw [i64_or_nat _ _ (by omega) (by omega)]
  have e8 : (256 : Nat) ^ k = 2 ^ (8 * k) := by rw [Nat.pow_mul]
  rw [Nat.or_comm, nat_join (8 * k) (b * 256 ^ k) acc (by rw [e8]; exact Nat.mul_mod_left _ _) (by rw [← e8]; exact ha), Nat.add_comm]
theorem acc_lt (acc b k : Nat) (ha : acc < 256 ^ k) (hb : b < 256) : acc + b * 256 ^ k < 256 ^ (k + 1) := by
  have hm : b * 256 ^ k ≤ 255 * 256 ^ k := Nat.mul_le_mul_right _ (by omega)
  rw [Nat.pow_succ]
  omega

theorem shl_byte (b k : Nat) (hk : k ≤ 3) (hb : b < 256) : wrap64 ((b : Int) * 2 ^ (8 * k)) = ((b * 256 ^ k : Nat) : Int) := by
  have hp : (256 : Nat) ^ k ≤ 256 ^ 3 := Nat.pow_le_pow_right (by omega) hk
  have e3 : (256 : Nat) ^ 3 = 16777216 := by decide
  have hm : b * 256 ^ k ≤ 255 * 256 ^ k := Nat.mul_le_mul_right _ (by omega)
  have e8 : (2 : Int) ^ (8 * k) = ((256 ^ k : Nat) : Int) := by
    have : (256 : Nat) ^ k = 2 ^ (8 * k) := by rw [Nat.pow_mul]
    rw [this]; simp
  rw [e8, ← Int.natCast_mul]
  unfold wrap64
  omega


/-- How many bytes the frame of n bytes has. -/
def frameLen (n : Nat) : Nat := (grp n).length + n + 4
end Go.Proofs.Ytclgekmpldeedaa
