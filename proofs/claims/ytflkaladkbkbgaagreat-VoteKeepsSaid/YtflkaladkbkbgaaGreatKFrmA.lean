/- The sum of bytes: plain, as the program goes on with it bit by bit, and as the document says it. -/
import Derived.Test.YtflkaladkbkbgaaGreatKRefA
import Derived.Laws.AppendOwnNone
import Derived.Lib.AppendZerosOnto
import Derived.Lib.AppendZeros
import Derived.Lib.SliceRun
namespace Go.Proofs.YtflkaladkbkbgaaGreat
set_option linter.unusedVariables false
set_option linter.unusedSimpArgs false
open Go.RowKit

/-- One bit, one byte, and bytes. -/
def crcStep (x : Nat) : Nat := if x % 2 = 1 then (x / 2) ^^^ 3988292384 else x / 2
def crcBits : Nat → Nat → Nat
  | 0, x => x
  | k + 1, x => crcBits k (crcStep x)
def crcByte (x : Nat) (b : UInt8) : Nat := crcBits 8 (x ^^^ b.toNat)
def crcFrom (x : Nat) (l : List UInt8) : Nat := l.foldl crcByte x
def crcOf (l : List UInt8) : Nat := 4294967295 - crcFrom 4294967295 l

theorem crcStep_lt {x : Nat} (h : x < 4294967296) : crcStep x < 4294967296 := by
  unfold crcStep
  split
  · exact Nat.xor_lt_two_pow (n := 32) (by omega) (by omega)
  · omega
theorem crcBits_lt : ∀ (k x : Nat), x < 4294967296 → crcBits k x < 4294967296
  | 0, x, h => h
  | k + 1, x, h => crcBits_lt k _ (crcStep_lt h)
theorem xor_byte_lt {x : Nat} (b : UInt8) (h : x < 4294967296) : x ^^^ b.toNat < 4294967296 := Nat.xor_lt_two_pow (n := 32) (by omega) (by have := UInt8.toNat_lt b; omega)
theorem crcByte_lt {x : Nat} (b : UInt8) (h : x < 4294967296) : crcByte x b < 4294967296 := crcBits_lt 8 _ (xor_byte_lt b h)
theorem crcFrom_lt : ∀ (l : List UInt8) (x : Nat), x < 4294967296 → crcFrom x l < 4294967296
  | [], x, h => h
  | b :: l, x, h => crcFrom_lt l _ (crcByte_lt b h)
theorem crcOf_lt (l : List UInt8) : crcOf l < 4294967296 := by unfold crcOf; omega
theorem crcFrom_cons (x : Nat) (b : UInt8) (l : List UInt8) : crcFrom x (b :: l) = crcFrom (crcByte x b) l := rfl
theorem crcFrom_drop (x k : Nat) (l : List UInt8) (h : k < l.length) : crcFrom x (l.drop k) = crcFrom (crcByte x l[k]) (l.drop (k + 1)) := by
  rw [List.drop_eq_getElem_cons h, crcFrom_cons]

theorem ret_u32 {a b : Int} (h : a = b) : Ending.returned (.int .u32 a) = .returned (.int .u32 b) := by rw [h]

theorem step_val (x : Nat) (hx : x < 4294967296) :
    bits .xor .u32 ((x : Int) / 2) (bits .and .u32 3988292384 (-bits .and .u32 (x : Int) 1 % 4294967296)) = ((crcStep x : Nat) : Int) := by
  have e1 : bits .and .u32 (x : Int) 1 = ((x % 2 : Nat) : Int) := by
    have := u32_and_nat x 1 hx (by omega)
    rw [Nat.and_one_is_mod] at this
    exact this
  rw [e1]
  have e2 : ((x : Int) / 2) = ((x / 2 : Nat) : Int) := by omega
  rw [e2]
  unfold crcStep
  by_cases h : x % 2 = 1
  · rw [if_pos h, h]
    have e3 : (-((1 : Nat) : Int) % 4294967296) = ((4294967295 : Nat) : Int) := by decide
    have e4 : bits .and .u32 3988292384 ((4294967295 : Nat) : Int) = ((3988292384 : Nat) : Int) := by decide
    rw [e3, e4, u32_xor_nat _ _ (by omega) (by omega)]
  · have h0 : x % 2 = 0 := by omega
    rw [if_neg h, h0]
    have e3 : (-((0 : Nat) : Int) % 4294967296) = ((0 : Nat) : Int) := by decide
    have e4 : bits .and .u32 3988292384 ((0 : Nat) : Int) = ((0 : Nat) : Int) := by decide
    rw [e3, e4, u32_xor_nat _ _ (by omega) (by omega), Nat.xor_zero]
set_option maxHeartbeats 400000 in
theorem sumc_any (x : Nat) (w : World) (hx : x < 4294967296) :
    Calls Tryz.prog 75 #[.int .u32 x] w fun e w' => e = .returned (.int .u32 (crcStep x)) ∧ w = w' := by
  have H1 := Lib.hid hx
  clear hx
  go_enter Tryz.func75, Tryz.ntmps75
  go_wp2
  go_ret
  exact ⟨ret_u32 (step_val x H1.out), rfl⟩

theorem crcBits_succ (j z : Nat) (h : j < 8) : crcBits (8 - j) z = crcBits (8 - (j + 1)) (crcStep z) := by
  have e : 8 - j = (8 - (j + 1)) + 1 := by omega
  rw [e, crcBits]
theorem xor_byte (y : Nat) (b : UInt8) (hy : y < 4294967296) : bits .xor .u32 (y : Int) (b.toNat : Int) = ((y ^^^ b.toNat : Nat) : Int) := u32_xor_nat _ _ hy (by have := UInt8.toNat_lt b; omega)
theorem not_u32 (y : Nat) (hy : y < 4294967296) : bits .xor .u32 4294967295 (y : Int) = ((4294967295 - y : Nat) : Int) := by
  have h := u32_xor_nat 4294967295 y (by omega) hy
  have h2 : (4294967295 : Nat) ^^^ y = 4294967295 - y := by
    have h : (BitVec.allOnes 32 ^^^ BitVec.ofNat 32 y) = ~~~ (BitVec.ofNat 32 y) := by rw [BitVec.allOnes_xor]
    have h2 := congrArg BitVec.toNat h
    rw [BitVec.toNat_xor, BitVec.toNat_allOnes, BitVec.toNat_not, BitVec.toNat_ofNat, Nat.mod_eq_of_lt hy] at h2
    exact h2
  rw [← h2]
  exact h

theorem byte_mod (b : UInt8) : ((b.toNat : Int) % 4294967296) = (b.toNat : Int) := by have := UInt8.toNat_lt b; omega
theorem half_odd (z : Nat) (hz : z < 4294967296) (h : z % 2 = 1) : Value.int .u32 (bits .xor .u32 ((z : Int) / 2 % 4294967296) 3988292384) = .int .u32 ((crcStep z : Nat) : Int) := by
  have e : ((z : Int) / 2 % 4294967296) = ((z / 2 : Nat) : Int) := by omega
  have := u32_xor_nat (z / 2) 3988292384 (by omega) (by omega)
  rw [e]
  unfold crcStep
  rw [if_pos h, ← this]
  rfl
theorem half_even (z : Nat) (hz : z < 4294967296) (h : ¬ z % 2 = 1) : Value.int .u32 ((z : Int) / 2 % 4294967296) = .int .u32 ((crcStep z : Nat) : Int) := by
  have e : ((z : Int) / 2 % 4294967296) = ((z / 2 : Nat) : Int) := by omega
  unfold crcStep
  rw [if_neg h, e]
theorem wrap_u32_nat (n : Nat) (h : n < 4294967296) : wrap64 (n : Int) = (n : Int) := by unfold wrap64; omega
theorem last_val2 (y x : Nat) (l : List UInt8) (k : Nat) (hk : l.length ≤ k) (h : y < 4294967296 ∧ crcFrom y (l.drop k) = crcFrom x l) : (y : Int) = ((crcFrom x l : Nat) : Int) := by
  have h2 := h.2
  rw [List.drop_eq_nil_of_le hk] at h2
  rw [← h2]
  rfl
theorem last_val (y : Nat) (l : List UInt8) (k : Nat) (hk : l.length ≤ k) (h : y < 4294967296 ∧ crcFrom y (l.drop k) = crcFrom 4294967295 l) : wrap64 (bits .xor .u32 IntKind.u32.max (y : Int)) = ((crcOf l : Nat) : Int) := by
  have e : IntKind.u32.max = (4294967295 : Int) := by decide
  rw [e, not_u32 y h.1, wrap_u32_nat _ (by omega)]
  have h2 := h.2
  rw [List.drop_eq_nil_of_le hk] at h2
  unfold crcOf
  rw [← h2]
  rfl
theorem sum_val (l : List UInt8) : wrap64 (bits .xor .u32 IntKind.u32.max ((crcFrom 4294967295 l : Nat) : Int)) = ((crcOf l : Nat) : Int) :=
  last_val (crcFrom 4294967295 l) l l.length (Nat.le_refl _) ⟨crcFrom_lt l _ (by decide), by simp [crcFrom]⟩


/-- A function value that enters the closure of the sum. -/
theorem enters_sumc : Enters 75 := fun _ _ => by simp [callFunc, go_sem, Tryz.func75, Tryz.f75]
set_option maxHeartbeats 1000000 in
set_option maxRecDepth 1000000 in
theorem through_any (v : Value) (l : List UInt8) (x : Nat) (w : World) (B : Nat) (h : Rd w B v l) (hl : l.length ≤ 9223372036854775807) (hx : x < 4294967296) :
    Calls Tryz.prog 74 #[v, .int .u32 x, .func (.func 75) #[] #[]] w fun e w' => e = .returned (.int .u32 (crcFrom x l)) ∧ w = w' := by
  obtain ⟨A, cap, rfl, hcap, hmax, hA⟩ := h
  have HA := Lib.hid hA
  have HL := Lib.hid hl
  have HX := Lib.hid hx
  have hcf : ∀ (args : Array Value) (W : World), (callFunc 75 args).run Tryz.prog W = .ok (.enter 75 args) W := enters_sumc
  have HCF := Lib.hid hcf
  clear hA hl hx hcf
  go_enter Tryz.func74, Tryz.ntmps74
  go_wp2
  go_loop [1, 11] (fun x1 i => ∃ k y : Nat, x1 = .int .u32 y ∧ i = .int .i64 k ∧ k ≤ l.length ∧ Hid (y < 4294967296 ∧ crcFrom y (l.drop k) = crcFrom x l)) (fun _ i => l.length - (intOf i).toNat)
  case atStart => exact ⟨0, x, rfl, rfl, by omega, HX.out, rfl⟩
  case round =>
    obtain ⟨k, y, rfl, rfl, hk, HY⟩ := hrel
    by_cases hlt : k < l.length
    · obtain ⟨b, off, rfl, hbB, hcell⟩ := HA.out (by omega)
      have hc := hcell k hlt
      obtain ⟨bk, hbk⟩ : ∃ bk : Nat, bk = l[k].toNat := ⟨_, rfl⟩
      have HBK := Lib.hid hbk
      have hb8 := UInt8.toNat_lt l[k]
      rw [← hbk] at hc hb8
      have HC := Lib.hid hcell
      have H8 := Lib.hid hb8
      clear hbk hcell hb8 HA
      go_wp2
      go_loop [1, 19] (fun x1 i => ∃ j z : Nat, x1 = .int .u32 z ∧ i = .int .i64 j ∧ j ≤ 8 ∧ Hid (z < 4294967296 ∧ crcBits (8 - j) z = crcByte y l[k])) (fun _ i => 8 - (intOf i).toNat)
      case atStart => exact ⟨0, y ^^^ l[k].toNat, by rw [HBK.out, byte_mod, xor_byte _ _ HY.out.1], rfl, by omega, xor_byte_lt _ HY.out.1, rfl⟩
      case round =>
        obtain ⟨j, z, rfl, rfl, hj, HZ⟩ := hrel
        by_cases hj8 : j < 8
        · have hcf := HCF.out
          go_wp2_with fail
          refine (sumc_any z _ HZ.out.1).mono ?_
          rintro e w' ⟨rfl, rfl⟩
          clear hcf
          go_wp2_with fail
          go_round
          case rel => exact ⟨j + 1, crcStep z, rfl, by go_num, by omega, crcStep_lt HZ.out.1, by rw [← crcBits_succ j z hj8]; exact HZ.out.2⟩
          case measure => simp [intOf]; omega
        · have hj2 : j = 8 := by omega
          subst hj2
          go_wp2
          go_round
          case rel => exact ⟨k + 1, z, rfl, by go_num, by omega, HZ.out.1, by rw [show z = crcByte y l[k] from HZ.out.2, ← crcFrom_drop y k l hlt]; exact HY.out.2⟩
          case measure => simp [intOf]; omega
    · have hk2 : k = l.length := by omega
      go_wp2
      go_ret
      exact ⟨ret_u32 (last_val2 y x l k (by omega) HY.out), rfl⟩

set_option maxHeartbeats 400000 in
theorem sum_any (v : Value) (l : List UInt8) (w : World) (B : Nat) (h : Rd w B v l) (hl : l.length ≤ 9223372036854775807) :
    Calls Tryz.prog 49 #[v] w fun e w' => e = .returned (.int .i64 (crcOf l)) ∧ w = w' := by
  have H := Lib.hid h
  have HL := Lib.hid hl
  clear h hl
  go_enter Tryz.func49, Tryz.ntmps49
  go_wp2_with fail
  refine (through_any v l 4294967295 _ B H.out HL.out (by decide)).mono ?_
  rintro e w' ⟨rfl, rfl⟩
  obtain ⟨y, hy⟩ : ∃ y, y = crcFrom 4294967295 l := ⟨_, rfl⟩
  have HY := Lib.hid hy
  rw [← hy]
  clear hy
  go_wp2_with fail
  go_ret
  exact ⟨ret_i64 (by rw [HY.out]; exact sum_val l), rfl⟩
end Go.Proofs.YtflkaladkbkbgaaGreat

/- A sum's four bytes: laid by the program and by the document, and read by the program; how many bytes a frame has. -/
namespace Go.Proofs.YtflkaladkbkbgaaGreat
set_option linter.unusedVariables false
set_option linter.unusedSimpArgs false
open Go.RowKit

/-- A number's first k bytes, the lowest first. -/
def loB : Nat → Nat → List UInt8
  | 0, _ => []
  | k + 1, n => UInt8.ofNat n :: loB k (n / 256)
theorem loB_length : ∀ k n, (loB k n).length = k
  | 0, _ => rfl
  | k + 1, n => by rw [loB, List.length_cons, loB_length k]
theorem loB_four (n : Nat) : loB 4 n = [UInt8.ofNat n, UInt8.ofNat (n / 256), UInt8.ofNat (n / 65536), UInt8.ofNat (n / 16777216)] := by
  simp only [loB, Nat.div_div_eq_div_mul, Nat.reduceMul]
theorem byte_nat (n : Nat) : IntKind.u8.wrap (n : Int) = ((UInt8.ofNat n).toNat : Int) := by
  rw [IntKind.wrap_u8', UInt8.toNat_ofNat']
  omega
theorem byte_nat' (n : Nat) : ((n : Int) % 256) = ((UInt8.ofNat n).toNat : Int) := by
  rw [UInt8.toNat_ofNat']
  omega


/-- A literal of bytes. -/
theorem own_lit (w : World) (l : List UInt8) (hl : l.length ≤ maxLen) : OwnB (w.alloc (.cells (bcells l).toArray 5)) w.heap.size (.slice (some ⟨w.heap.size, 0, none⟩) l.length l.length) l :=
  ⟨by simp [bcells], .inr ⟨_, l.length, _, rfl, Nat.le_refl _, heap_alloc_new w _, Nat.le_refl _, hl, by simp [bcells], by
    rw [Nat.mul_one]
    exact List.take_of_length_le (by simp [bcells])⟩⟩

/-- The next bytes, as a number whose lowest byte comes first. -/
def rdSum : Nat → Nat → Nat → Option (List UInt8) → Nat × Option (List UInt8)
  | 0, _, acc, st => (acc, st)
  | j + 1, i, acc, st => rdSum j (i + 1) (acc + (rdByte st).1 * 256 ^ i) (rdByte st).2
theorem rdByte_lt (st : Option (List UInt8)) : (rdByte st).1 < 256 := by
  rcases st with _ | ⟨_ | ⟨b, r⟩⟩
  · decide
  · decide
  · exact UInt8.toNat_lt b
theorem i64_or_nat (a b : Nat) (ha : a < 9223372036854775808) (hb : b < 9223372036854775808) : bits .or .i64 (a : Int) (b : Int) = ((a ||| b : Nat) : Int) := by
  have hx : a ||| b < 2 ^ 63 := Nat.or_lt_two_pow (by omega) (by omega)
  show IntKind.i64.wrap ((BitVec.ofInt 64 (a : Int) ||| BitVec.ofInt 64 (b : Int)).toNat : Int) = _
  rw [BitVec.toNat_or, ofInt_u64 a (by omega), ofInt_u64 b (by omega), IntKind.wrap_i64]
  omega
theorem or_byte (acc b k : Nat) (hk : k ≤ 3) (ha : acc < 256 ^ k) (hb : b < 256) : bits .or .i64 (acc : Int) ((b * 256 ^ k : Nat) : Int) = ((acc + b * 256 ^ k : Nat) : Int) := by
  have hp : (256 : Nat) ^ k ≤ 256 ^ 3 := Nat.pow_le_pow_right (by omega) hk
  have e3 : (256 : Nat) ^ 3 = 16777216 := by decide
  have hm : b * 256 ^ k ≤ 255 * 256 ^ k := Nat.mul_le_mul_right _ (by omega)
  rw [i64_or_nat _ _ (by omega) (by omega)]
  have e8 : (256 : Nat) ^ k = 2 ^ (8 * k) := by rw [Nat.pow_mul]
  rw [Nat.or_comm, nat_join (8 * k) (b * 256 ^ k) acc (by rw [e8]; exact Nat.mul_mod_left _ _) (by rw [← e8]; exact ha), Nat.add_comm]
theorem acc_lt (acc b k : Nat) (ha : acc < 256 ^ k) (hb : b < 256) : acc + b * 256 ^ k < 256 ^ (k + 1) := by
  have hm : b * 256 ^ k ≤ 255 * 256 ^ k := Nat.mul_le_mul_right _ (by omega)
  rw [Nat.pow_succ]
  omega

theorem shl_byte (b k : Nat) (hk : k ≤ 3) (hb : b < 256) : wrap64 ((b : Int) * 2 ^ (8 * k)) = ((b * 256 ^ k : Nat) : Int) := by
  have hp : (256 : Nat) ^ k ≤ 256 ^ 3 := Nat.pow_le_pow_right (by omega) hk
  have e3 : (256 : Nat) ^ 3 = 16777216 := by decide
  have hm : b * 256 ^ k ≤ 255 * 256 ^ k := Nat.mul_le_mul_right _ (by omega)
  have e8 : (2 : Int) ^ (8 * k) = ((256 ^ k : Nat) : Int) := by
    have : (256 : Nat) ^ k = 2 ^ (8 * k) := by rw [Nat.pow_mul]
    rw [this]; simp
  rw [e8, ← Int.natCast_mul]
  unfold wrap64
  omega

set_option maxHeartbeats 1000000 in
set_option maxRecDepth 1000000 in
theorem readsum_any (g : Nat) (st : Option (List UInt8)) (w : World) (h : SrcL w g st) :
    Calls Tryz.prog 57 #[.pointer (some ⟨g, 0, none⟩)] w fun e w' => e = .returned (.int .i64 (rdSum 4 0 0 st).1) ∧ SrcL w' g (rdSum 4 0 0 st).2 ∧ Only w w' g := by
  have H := Lib.hid h
  clear h
  go_enter Tryz.func57, Tryz.ntmps57
  go_wp2
  go_loopw [3, 5] (fun n i wr => ∃ (k acc : Nat) (r : Option (List UInt8)), n = .int .i64 acc ∧ i = .int .i64 k ∧ k ≤ 4 ∧ Hid (acc < 256 ^ k ∧ rdSum (4 - k) k acc r = rdSum 4 0 0 st) ∧ Hid (SrcL wr g r) ∧ Hid (Only w wr g)) (fun _ i _ => 4 - (intOf i).toNat)
  case atStart => exact ⟨0, 0, st, rfl, rfl, by omega, ⟨by decide, rfl⟩, H, Only.refl _ _⟩
  case round =>
    obtain ⟨k, acc, r, rfl, rfl, hk, HA, HS, HO⟩ := hrel
    by_cases hlt : k < 4
    · have hsh : (8 * (k : Int)).toNat = 8 * k := by omega
      go_wp2_with fail
      refine (sbyte_any g r _ HS.out).mono ?_
      rintro e w1 ⟨rfl, hs, ho⟩
      obtain ⟨b, hb⟩ : ∃ b, b = (rdByte r).1 := ⟨_, rfl⟩
      have HB := Lib.hid hb
      have hb8 := rdByte_lt r
      rw [← hb] at hb8 ⊢
      have HS1 := Lib.hid hs
      have HO1 := Lib.hid (HO.out.trans ho)
      clear hb hs ho H
      go_wp2_with fail
      go_roundw
      case rel => exact ⟨k + 1, acc + b * 256 ^ k, (rdByte r).2, by rw [shl_byte b k (by omega) hb8, or_byte acc b k (by omega) HA.out.1 hb8], by go_num, by omega, ⟨acc_lt _ _ _ HA.out.1 hb8, by
        have e : 4 - k = (4 - (k + 1)) + 1 := by omega
        have h2 := HA.out.2
        rw [e, rdSum, ← HB.out] at h2
        exact h2⟩, HS1, HO1⟩
      case measure => simp [intOf]; omega
    · have hk2 : k = 4 := by omega
      subst hk2
      have e : (acc, r) = rdSum 4 0 0 st := by rw [← HA.out.2]; rfl
      clear H
      go_wp2_with fail
      go_ret
      rw [← e]
      exact ⟨rfl, HS.out, HO.out⟩

/-- How many bytes the frame of n bytes has. -/
def frameLen (n : Nat) : Nat := (grp n).length + n + 4
end Go.Proofs.YtflkaladkbkbgaaGreat

/- Rows of bytes read by appends; lists of such rows, and the library's putting of them behind one another. -/
namespace Go.Proofs.YtflkaladkbkbgaaGreat
set_option linter.unusedVariables false
set_option linter.unusedSimpArgs false
open Go.RowKit

theorem addr_addY (b off i : Nat) : ((⟨b, off, none⟩ : Addr).add i) = ⟨b, off + i, none⟩ := by
  unfold Addr.add
  split
  · next h => simp [h]
  · rfl
theorem OwnB.rdY {w : World} {B : Nat} {v : Value} {l : List UInt8} (h : OwnB w B v l) : Rd w w.heap.size v l := by
  have hc := fun g hg => World.ownsRow.cells (g := g) h hg
  have hlt := World.ownsRow.lt h
  rcases h.2 with ⟨rfl, h0⟩ | ⟨g, cap, cur, rfl, hB, hh, hcap, hm, -⟩
  · have hl : l = [] := List.eq_nil_of_length_eq_zero h0
    subst hl
    exact ⟨none, 0, rfl, Nat.le_refl _, ⟨by omega, fun _ => rfl⟩, fun h => absurd h (by simp)⟩
  · refine ⟨some ⟨g, 0, none⟩, cap, rfl, hcap, ⟨by unfold maxLen at hm; omega, fun h => by cases h⟩, fun hp => ⟨g, 0, rfl, (hlt g rfl).2, fun i hi => ?_⟩⟩
    have h1 := hc g rfl i (.int .u8 (l[i].toNat : Int)) (by simp [bcells, hi])
    rw [addr_addY] at h1
    exact h1
set_option maxRecDepth 100000 in
theorem append_bytesY {w : World} {ops : Array Oper} {rest : List Oper} {o : Oper} {a : Act} {Q : Exit → Act → World → Prop} (hgd : o.guard = none) (s x : Operand)
    (ho : o.op = .call { callee := .builtin .append, args := #[s, x], argTypes := #[33, 33] }) (B : Nat) (v : Value) (l : List UInt8) (hs : a.eval s = v) (hown : OwnB w B v l)
    (D : Nat) (vx : Value) (m : List UInt8) (hx : a.eval x = vx) (hrd : Rd w D vx m) (hB : B ≤ w.heap.size) (hl : l.length + m.length ≤ 140737488355328)
    (K : ∀ v' w', OwnB w' B v' (l ++ m) → w.grownBy w' v.ownBlock → wpList Tryz.prog ops Q rest (a.put o.dst v') w') : wpList Tryz.prog ops Q (o :: rest) a w := by
  obtain ⟨i0, hi, hz0, hz1, hz2⟩ := info_parts Tryz.infoU8
  obtain ⟨A, cap, rfl, hcap, ⟨hc2, hA⟩, hc⟩ := hrd
  cases A with
  | none =>
    have hm : m = [] := by
      match m, hc with
      | [], _ => rfl
      | b :: r, hc => obtain ⟨_, _, h, _⟩ := hc (by simp); cases h
    subst hm
    obtain rfl := hA rfl
    refine wpList_append_own_none hgd s x 33 ho B 5 i0 1 Tryz.underlying33 hi v l.length (bcells l) hs hown hx ?_
    exact K v w (by rw [List.append_nil]; exact hown) ⟨rfl, rfl, rfl, Nat.le_refl _, fun _ _ _ => rfl⟩
  | some ad =>
    refine wpList_append_own _ hgd s x 33 ho B 5 i0 (.int .u8 0) 1 1 Tryz.underlying33 hi hz0 hz1 hz2 rfl (by decide) v l.length (bcells l) hs hown ad m.length cap (bcells m) hx (by simp [bcells]) ?_ (bcells_oneCell m) (by unfold maxLen; omega) (by omega) hB ?_
    · intro j u hj
      have hjl : j < m.length := by have := (List.getElem?_eq_some_iff.1 hj).1; simpa [bcells] using this
      obtain ⟨b, off, hAd, -, hcell⟩ := hc (by omega)
      injection hAd with hAd
      subst hAd
      rw [addr_addY, hcell j hjl]
      simpa [bcells, List.getElem?_map, List.getElem?_eq_getElem hjl] using hj
    · intro v' w' h1 h2 _
      exact K v' w' (by unfold OwnB; rw [List.length_append, bcells_append]; exact h1) h2
theorem below_ownY {a w w' : World} {B : Nat} {v : Value} {l : List UInt8} (hb : Below B a w) (h : OwnB w B v l) (hB : B ≤ w.heap.size) (hg : w.grownBy w' v.ownBlock) : Below B a w' := hb.grown hg hB (fun k hk => (World.ownsRow.lt h k hk).1)
theorem Rd.upY {w : World} {B B' : Nat} {v : Value} {l : List UInt8} (h : Rd w B v l) (hb : B ≤ B') : Rd w B' v l := by
  obtain ⟨A, cap, hv, hc, hm, h1⟩ := h
  refine ⟨A, cap, hv, hc, hm, fun hl => ?_⟩
  obtain ⟨b, off, hA, hbB, hcell⟩ := h1 hl
  exact ⟨b, off, hA, by omega, hcell⟩
theorem Rd.shapeY {w : World} {B : Nat} {v : Value} {l : List UInt8} (h : Rd w B v l) : ∃ A cap, v = .slice A l.length cap := by
  obtain ⟨A, cap, hv, _⟩ := h
  exact ⟨A, cap, hv⟩

/-- Rows of bytes, one behind the other, in blocks below B. -/
def BssAt (w : World) (B : Nat) (A : Option Addr) (ls : List (List UInt8)) : Prop :=
  0 < ls.length → ∃ b off, A = some ⟨b, off, none⟩ ∧ b < B ∧ ∀ i (h : i < ls.length), ∃ v, w.cell? ⟨b, off + i, none⟩ = some v ∧ Rd w B v ls[i]
theorem BssAt.keep {w w' : World} {B : Nat} {A : Option Addr} {ls : List (List UInt8)} (h : BssAt w B A ls) (hb : Below B w w') : BssAt w' B A ls := fun hl => by
  obtain ⟨b, off, hA, hbB, hc⟩ := h hl
  refine ⟨b, off, hA, hbB, fun i hi => ?_⟩
  obtain ⟨v, hv, hr⟩ := hc i hi
  exact ⟨v, (hb.cell (p := ⟨b, off + i, none⟩) hbB).trans hv, hr.keep hb⟩

set_option maxHeartbeats 1000000 in
set_option maxRecDepth 100000 in
theorem growB_nil (n : Nat) (w : World) (hn : n ≤ 140737488351232) : Calls Tryz.prog 76 #[.slice none 0 0, .int .i64 n] w (Gives [] w) := by
  obtain ⟨i0, hi, hz0, hz1, hz2⟩ := info_parts Tryz.infoU8
  by_cases h0 : n = 0
  · subst h0
    go_enter Tryz.func76, Tryz.ntmps76
    go_wp2_with fail
    go_ret
    exact ⟨_, rfl, World.ownsRow_nil _ _ _ _, Below.refl _ _⟩
  · have hrz : ∀ ty, (Builtin.append_ #[33, 3] ty #[.slice none 0 0, .int .i64 n]).run Tryz.prog w = .ok (.slice (some ⟨w.heap.size, 0, none⟩) n (grownCap w n 0 5)) (w.drew.alloc (.cells (#[] ++ Builtin.zeroCells (Value.int .u8 0).cells n ++ Builtin.zeroCells (Value.int .u8 0).cells (grownCap w n 0 5 - n)) 5)) := fun ty => by
      have h := Lib.run_append_grow_zeros w 33 3 ty 5 i0 (.int .u8 0) .i64 .i64 Tryz.underlying33 Tryz.underlying3 hi hz0 none 0 0 [] (run_firstCells_none w.drew i0.size 0 0 0) n (by omega) (by omega) (by omega) (by omega) (by rw [hz2]; omega) (growslice_fits (by omega) (by rw [hz2]; omega))
      simpa using h
    have hG := grownCap_ge w n 0 5
    have hG2 := grownCap_le_maxLen w n 0 5 (by unfold maxLen; omega)
    obtain ⟨G, hGe⟩ : ∃ G, G = grownCap w n 0 5 := ⟨_, rfl⟩
    rw [← hGe] at hrz hG hG2
    have HG := Lib.hid hG2
    unfold maxLen at hG2
    have hn1 : (1 : Int) ≤ (n : Int) := by omega
    have HR : Hid (OwnB (w.drew.alloc (.cells (#[] ++ Builtin.zeroCells (Value.int .u8 0).cells n ++ Builtin.zeroCells (Value.int .u8 0).cells (G - n)) 5)) w.heap.size (.slice (some ⟨w.heap.size, 0, none⟩) 0 G) []) := by
      refine World.ownsRow_made (size := 1) w.drew _ G (Nat.le_refl _) HG.out ?_
      simp only [Array.size_append, size_zeroCells]
      simp [Value.cells]; omega
    obtain ⟨C, hC⟩ : ∃ C, C = (#[] ++ Builtin.zeroCells (Value.int .u8 0).cells n ++ Builtin.zeroCells (Value.int .u8 0).cells (G - n)) := ⟨_, rfl⟩
    rw [← hC] at hrz HR
    clear hGe h0 hC
    go_enter Tryz.func76, Tryz.ntmps76
    go_wp2_with (at_builtin; refine Lib.wpList_append_run _ rfl _ _ _ _ rfl _ _ rfl rfl _ _ (hrz _) ?_)
    go_ret
    exact ⟨_, rfl, HR.out, (Below.refl _ _).drew.alloc (Nat.le_refl _) _⟩

theorem flat_take_le (ls : List (List UInt8)) (k : Nat) : (ls.take k).flatten.length ≤ ls.flatten.length := by
  conv => rhs; rw [← List.take_append_drop k ls, List.flatten_append, List.length_append]
  omega
theorem flat_take_succ (ls : List (List UInt8)) (k : Nat) (h : k < ls.length) : (ls.take (k + 1)).flatten = (ls.take k).flatten ++ ls[k] := by
  rw [List.take_succ_eq_append_getElem h, List.flatten_append]
  simp

set_option maxHeartbeats 4000000 in
set_option maxRecDepth 100000 in
theorem concatB_any (B : Nat) (A : Option Addr) (c : Nat) (ls : List (List UInt8)) (w : World) (h : BssAt w B A ls) (hB : B ≤ w.heap.size) (hl : ls.flatten.length ≤ 140737488351232) (hn : ls.length ≤ 140737488351232) :
    Calls Tryz.prog 50 #[.slice A ls.length c] w (Gives ls.flatten w) := by
  have H := Lib.hid h
  have HL := Lib.hid hl
  clear h hl
  go_enter Tryz.func50, Tryz.ntmps50
  go_wp2_with fail
  go_loopw [3, 11] (fun n i wr => ∃ k m : Nat, i = .int .i64 k ∧ n = .int .i64 m ∧ wr = w ∧ k ≤ ls.length ∧ Hid (m = (ls.take k).flatten.length)) (fun _ i _ => ls.length - (intOf i).toNat)
  case atStart => exact ⟨0, 0, rfl, rfl, rfl, by omega, by show _ = _; simp⟩
  case round =>
    obtain ⟨k0, m, rfl, rfl, rfl, hk0, HK⟩ := hrel
    have hml : m ≤ 140737488351232 := by have := HK.out; have := flat_take_le ls k0; have := HL.out; omega
    by_cases hlt : k0 < ls.length
    · obtain ⟨b, off, rfl, hbB, hcell⟩ := H.out (by omega)
      obtain ⟨v, hv, hr⟩ := hcell k0 hlt
      obtain ⟨Av, cv, rfl⟩ := hr.shapeY
      have hm2 : m + ls[k0].length = (ls.take (k0 + 1)).flatten.length := by rw [flat_take_succ ls k0 hlt, List.length_append, HK.out]
      have hm3 : m + ls[k0].length ≤ 140737488351232 := by have := flat_take_le ls (k0 + 1); have := HL.out; omega
      obtain ⟨q, hq⟩ : ∃ q, q = ls[k0].length := ⟨_, rfl⟩
      have HM2 : Hid (m + q = (ls.take (k0 + 1)).flatten.length) := by rw [hq]; exact hm2
      rw [← hq] at hv hm3
      clear hcell hr hm2 hq H
      go_wp2_with fail
      go_roundw
      case rel => exact ⟨k0 + 1, m + q, by go_num, by go_num, trivial, by omega, HM2⟩
      case measure => simp [intOf]; omega
    · have hk2 : k0 = ls.length := by omega
      subst hk2
      go_wp2_with fail
      refine (growB_nil _ _ hml).mono ?_
      rintro e w1 ⟨v, rfl, hv, hb1⟩
      have HV := Lib.hid hv
      have HB1 := Lib.hid hb1
      clear hv hb1
      go_wp2_with fail
      obtain ⟨wo, hwo⟩ : ∃ wo : World, wo = wr := ⟨_, rfl⟩
      rw [← hwo] at hB H HV HB1
      have HWO := Lib.hid hwo
      clear hwo HK
      go_loopw [6, 27] (fun v i wr => ∃ k : Nat, i = .int .i64 k ∧ k ≤ ls.length ∧ Hid (Below wo.heap.size wo wr) ∧ Hid (OwnB wr wo.heap.size v (ls.take k).flatten)) (fun _ i _ => ls.length - (intOf i).toNat)
      case atStart => exact ⟨0, rfl, by omega, HB1, HV⟩
      case round =>
        obtain ⟨k1, rfl, hk1, HB2, HO⟩ := hrel
        have hsz := HB2.out.size
        by_cases hlt : k1 < ls.length
        · obtain ⟨b, off, rfl, hbB, hcell⟩ := (H.out.keep (HB2.out.mono hB)) (by omega)
          obtain ⟨vx, hv, hr⟩ := hcell k1 hlt
          have hfl := flat_take_succ ls k1 hlt
          have hml2 : (ls.take k1).flatten.length + ls[k1].length ≤ 140737488355328 := by
            have h1 := flat_take_le ls (k1 + 1)
            rw [hfl, List.length_append] at h1
            have := HL.out; omega
          obtain ⟨x, hx⟩ : ∃ x, x = ls[k1] := ⟨_, rfl⟩
          rw [← hx] at hr hml2 hfl
          obtain ⟨y, hy⟩ : ∃ y, y = (ls.take k1).flatten := ⟨_, rfl⟩
          rw [← hy] at HO hml2 hfl
          have HF := Lib.hid hfl
          have HR := Lib.hid hr
          have HML := Lib.hid hml2
          clear hcell hr hx hy hfl hml2 H
          go_wp2_with (at_builtin; go_must (refine append_bytesY rfl _ _ rfl wo.heap.size _ y rfl HO.out _ vx x rfl HR.out hsz HML.out ?_))
          intro v2 w2 hv2 hg
          have HV2 := Lib.hid hv2
          have HB3 := Lib.hid (below_ownY HB2.out HO.out hsz hg)
          clear hv2 hg
          go_wp2_with fail
          go_roundw
          case rel => exact ⟨k1 + 1, by go_num, by omega, HB3, by rw [HF.out]; exact HV2⟩
          case measure => simp [intOf]; omega
        · have hk2 : k1 = ls.length := by omega
          have hv2 := HO.out
          rw [hk2, List.take_of_length_le (Nat.le_refl _)] at hv2
          have HV2 := Lib.hid hv2
          clear hv2
          clear HO
          go_wp2_with fail
          go_ret
          exact ⟨_, rfl, by rw [← HWO.out]; exact HV2.out, by rw [← HWO.out]; exact HB2.out⟩
end Go.Proofs.YtflkaladkbkbgaaGreat
