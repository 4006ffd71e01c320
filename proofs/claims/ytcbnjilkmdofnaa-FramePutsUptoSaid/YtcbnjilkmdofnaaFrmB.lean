/- A sum's four bytes: laid by the program and by the document, and read by the program; how many bytes a frame has. -/
import Derived.Test.YtcbnjilkmdofnaaFrmA
import Derived.Test.YtcbnjilkmdofnaaRefC
namespace Go.Proofs.Ytcbnjilkmdofnaa
set_option linter.unusedVariables false
set_option linter.unusedSimpArgs false
open Go.RowKit

/-- A number's first k bytes, the lowest first. -/
def loB : Nat → Nat → List UInt8
  | 0, _ => []
  | k + 1, n => UInt8.ofNat n :: loB k (n / 256)
theorem loB_length : ∀ k n, (loB k n).length = k
  | 0, _ => rfl
  | k + 1, n => by rw [loB, List.length_cons, loB_length k]
theorem loB_four (n : Nat) : loB 4 n = [UInt8.ofNat n, UInt8.ofNat (n / 256), UInt8.ofNat (n / 65536), UInt8.ofNat (n / 16777216)] := by
  simp only [loB, Nat.div_div_eq_div_mul, Nat.reduceMul]
theorem byte_nat (n : Nat) : IntKind.u8.wrap (n : Int) = ((UInt8.ofNat n).toNat : Int) := by
  rw [IntKind.wrap_u8', UInt8.toNat_ofNat']
  omega
theorem byte_nat' (n : Nat) : ((n : Int) % 256) = ((UInt8.ofNat n).toNat : Int) := by
  rw [UInt8.toNat_ofNat']
  omega

set_option maxHeartbeats 1000000 in
set_option maxRecDepth 1000000 in
theorem sumcode_any (n : Nat) (w : World) (hn : n < 4294967296) :
    Calls Try.prog 56 #[.int .i64 n] w (Gives (loB 4 n) w) := by
  obtain ⟨i0, hi, hz0, hz1, hz2⟩ := info_parts Try.infoU8
  have HN := Lib.hid hn
  clear hn
  go_enter Try.func56, Try.ntmps56
  go_wp2
  go_loopw [0, 3, 4] (fun n1 v1 i wr => ∃ (k m : Nat) (acc : List UInt8), n1 = .int .i64 m ∧ i = .int .i64 k ∧ k ≤ 4 ∧ Hid (m < 4294967296 ∧ acc ++ loB (4 - k) m = loB 4 n) ∧ OwnB wr w.heap.size v1 acc ∧ Below w.heap.size w wr) (fun _ _ i _ => 4 - (intOf i).toNat)
  case atStart => exact ⟨0, n, [], rfl, rfl, by omega, ⟨HN.out, rfl⟩, World.ownsRow_nil _ _ _ _, Below.refl _ _⟩
  case round =>
    obtain ⟨k, m, acc, rfl, rfl, hk, HM, hown1, hbel⟩ := hrel
    have hal : acc.length + (4 - k) = 4 := by
      have h1 := congrArg List.length HM.out.2
      rw [List.length_append, loB_length, loB_length] at h1
      exact h1
    have hsz := hbel.size
    have hown2 : wr.ownsRow w.heap.size 5 1 _ acc.length (bcells acc) := hown1
    by_cases hlt : k < 4
    · go_wp2_with (at_builtin; go_must (refine wpList_append_own _ rfl _ _ 22 rfl w.heap.size 5 i0 (.int .u8 0) 1 1 Try.underlying22 hi hz0 hz1 hz2 rfl (by decide) _ _ _ rfl (hown2.alloc _) ⟨wr.heap.size, 0, none⟩ 1 1 [.int .u8 ((m : Int) % 256)] rfl rfl ?c1 ?c2 ?c3 ?c4 ?c5 ?_))
      case c1 => exact cell_one_new _ _ _
      case c2 => intro u hu; simp at hu; subst hu; rfl
      case c3 => unfold maxLen; omega
      case c4 => omega
      case c5 => simp; omega
      intro v2 w2 hown3 hg _
      have hb2 := below_app hbel (Nat.le_refl _) hown1 hg
      have hs2 := OwnB_step (l := acc) (byte_nat' m) hown3
      clear hown3 hg hown2 hown1
      go_wp2
      go_roundw
      case rel => exact ⟨k + 1, m / 256, acc ++ [UInt8.ofNat m], by go_num, by go_num, by omega, ⟨by have := HM.out.1; omega, by
        have e : 4 - k = (4 - (k + 1)) + 1 := by omega
        have h2 := HM.out.2
        rw [e, loB] at h2
        rw [List.append_assoc, List.singleton_append]; exact h2⟩, hs2, hb2⟩
      case measure => simp [intOf]; omega
    · have hk2 : k = 4 := by omega
      subst hk2
      have e : acc = loB 4 n := by have := HM.out.2; simpa [loB] using this
      subst e
      go_wp2
      go_ret
      exact ⟨_, rfl, hown1, hbel⟩

/-- A literal of bytes. -/
theorem own_lit (w : World) (l : List UInt8) (hl : l.length ≤ maxLen) : OwnB (w.alloc (.cells (bcells l).toArray 5)) w.heap.size (.slice (some ⟨w.heap.size, 0, none⟩) l.length l.length) l :=
  ⟨by simp [bcells], .inr ⟨_, l.length, _, rfl, Nat.le_refl _, heap_alloc_new w _, Nat.le_refl _, hl, by simp [bcells], by
    rw [Nat.mul_one]
    exact List.take_of_length_le (by simp [bcells])⟩⟩
set_option maxHeartbeats 400000 in
theorem rfour_any (n : Nat) (w : World) (hn : n < 4294967296) :
    Calls Try.prog 59 #[.int .i64 n] w (Gives (loB 4 n) w) := by
  have HN := Lib.hid hn
  clear hn
  go_enter Try.func59, Try.ntmps59
  go_wp2
  go_ret
  refine ⟨_, rfl, ?_, (Below.refl _ _).alloc (Nat.le_refl _) _⟩
  have h := own_lit w (loB 4 n) (by rw [loB_length]; decide)
  have e : (#[.int .u8 ((n : Int) % 256), .int .u8 ((n : Int) / 256 % 256), .int .u8 ((n : Int) / 65536 % 256), .int .u8 ((n : Int) / 16777216 % 256)] : Array Value) = (bcells (loB 4 n)).toArray := by
    rw [loB_four]
    have e1 : ((n : Int) / 256) = ((n / 256 : Nat) : Int) := by omega
    have e2 : ((n : Int) / 65536) = ((n / 65536 : Nat) : Int) := by omega
    have e3 : ((n : Int) / 16777216) = ((n / 16777216 : Nat) : Int) := by omega
    rw [e1, e2, e3, byte_nat', byte_nat', byte_nat', byte_nat']
    rfl
  rw [loB_length, ← e] at h
  exact h

/-- The next bytes, as a number whose lowest byte comes first. -/
def rdSum : Nat → Nat → Nat → Option (List UInt8) → Nat × Option (List UInt8)
  | 0, _, acc, st => (acc, st)
  | j + 1, i, acc, st => rdSum j (i + 1) (acc + (rdByte st).1 * 256 ^ i) (rdByte st).2
theorem rdByte_lt (st : Option (List UInt8)) : (rdByte st).1 < 256 := by
  rcases st with _ | ⟨_ | ⟨b, r⟩⟩
  · decide
  · decide
  · exact UInt8.toNat_lt b
theorem i64_or_nat (a b : Nat) (ha : a < 9223372036854775808) (hb : b < 9223372036854775808) : bits .or .i64 (a : Int) (b : Int) = ((a ||| b : Nat) : Int) := by
  have hx : a ||| b < 2 ^ 63 := Nat.or_lt_two_pow (by omega) (by omega)
  show IntKind.i64.wrap ((BitVec.ofInt 64 (a : Int) ||| BitVec.ofInt 64 (b : Int)).toNat : Int) = _
  rw [BitVec.toNat_or, ofInt_u64 a (by omega), ofInt_u64 b (by omega), IntKind.wrap_i64]
  omega
theorem or_byte (acc b k : Nat) (hk : k ≤ 3) (ha : acc < 256 ^ k) (hb : b < 256) : bits .or .i64 (acc : Int) ((b * 256 ^ k : Nat) : Int) = ((acc + b * 256 ^ k : Nat) : Int) := by
  have hp : (256 : Nat) ^ k ≤ 256 ^ 3 := Nat.pow_le_pow_right (by omega) hk
  have e3 : (256 : Nat) ^ 3 = 16777216 := by decide
  have hm : b * 256 ^ k ≤ 255 * 256 ^ k := Nat.mul_le_mul_right _ (by omega)
  rw [i64_or_nat _ _ (by omega) (by omega)]
  have e8 : (256 : Nat) ^ k = 2 ^ (8 * k) := by rw [Nat.pow_mul]
  rw [Nat.or_comm, nat_join (8 * k) (b * 256 ^ k) acc (by rw [e8]; exact Nat.mul_mod_left _ _) (by rw [← e8]; exact ha), Nat.add_comm]
theorem acc_lt (acc b k : Nat) (ha : acc < 256 ^ k) (hb : b < 256) : acc + b * 256 ^ k < 256 ^ (k + 1) := by
  have hm : b * 256 ^ k ≤ 255 * 256 ^ k := Nat.mul_le_mul_right _ (by omega)
  rw [Nat.pow_succ]
  omega

theorem shl_byte (b k : Nat) (hk : k ≤ 3) (hb : b < 256) : wrap64 ((b : Int) * 2 ^ (8 * k)) = ((b * 256 ^ k : Nat) : Int) := by
  have hp : (256 : Nat) ^ k ≤ 256 ^ 3 := Nat.pow_le_pow_right (by omega) hk
  have e3 : (256 : Nat) ^ 3 = 16777216 := by decide
  have hm : b * 256 ^ k ≤ 255 * 256 ^ k := Nat.mul_le_mul_right _ (by omega)
  have e8 : (2 : Int) ^ (8 * k) = ((256 ^ k : Nat) : Int) := by
    have : (256 : Nat) ^ k = 2 ^ (8 * k) := by rw [Nat.pow_mul]
    rw [this]; simp
  rw [e8, ← Int.natCast_mul]
  unfold wrap64
  omega

set_option maxHeartbeats 1000000 in
set_option maxRecDepth 1000000 in
theorem readsum_any (g : Nat) (st : Option (List UInt8)) (w : World) (h : SrcL w g st) :
    Calls Try.prog 63 #[.pointer (some ⟨g, 0, none⟩)] w fun e w' => e = .returned (.int .i64 (rdSum 4 0 0 st).1) ∧ SrcL w' g (rdSum 4 0 0 st).2 ∧ Only w w' g := by
  have H := Lib.hid h
  clear h
  go_enter Try.func63, Try.ntmps63
  go_wp2
  go_loopw [3, 5] (fun n i wr => ∃ (k acc : Nat) (r : Option (List UInt8)), n = .int .i64 acc ∧ i = .int .i64 k ∧ k ≤ 4 ∧ Hid (acc < 256 ^ k ∧ rdSum (4 - k) k acc r = rdSum 4 0 0 st) ∧ Hid (SrcL wr g r) ∧ Hid (Only w wr g)) (fun _ i _ => 4 - (intOf i).toNat)
  case atStart => exact ⟨0, 0, st, rfl, rfl, by omega, ⟨by decide, rfl⟩, H, Only.refl _ _⟩
  case round =>
    obtain ⟨k, acc, r, rfl, rfl, hk, HA, HS, HO⟩ := hrel
    by_cases hlt : k < 4
    · have hsh : (8 * (k : Int)).toNat = 8 * k := by omega
      go_wp2_with fail
      refine (sbyte_any g r _ HS.out).mono ?_
      rintro e w1 ⟨rfl, hs, ho⟩
      obtain ⟨b, hb⟩ : ∃ b, b = (rdByte r).1 := ⟨_, rfl⟩
      have HB := Lib.hid hb
      have hb8 := rdByte_lt r
      rw [← hb] at hb8 ⊢
      have HS1 := Lib.hid hs
      have HO1 := Lib.hid (HO.out.trans ho)
      clear hb hs ho H
      go_wp2_with fail
      go_roundw
      case rel => exact ⟨k + 1, acc + b * 256 ^ k, (rdByte r).2, by rw [shl_byte b k (by omega) hb8, or_byte acc b k (by omega) HA.out.1 hb8], by go_num, by omega, ⟨acc_lt _ _ _ HA.out.1 hb8, by
        have e : 4 - k = (4 - (k + 1)) + 1 := by omega
        have h2 := HA.out.2
        rw [e, rdSum, ← HB.out] at h2
        exact h2⟩, HS1, HO1⟩
      case measure => simp [intOf]; omega
    · have hk2 : k = 4 := by omega
      subst hk2
      have e : (acc, r) = rdSum 4 0 0 st := by rw [← HA.out.2]; rfl
      clear H
      go_wp2_with fail
      go_ret
      rw [← e]
      exact ⟨rfl, HS.out, HO.out⟩

/-- How many bytes the frame of n bytes has. -/
def frameLen (n : Nat) : Nat := (grp n).length + n + 4
set_option maxHeartbeats 400000 in
theorem fsize_any (A : Option Addr) (n cap : Nat) (w : World) (hn : n ≤ 9223372036854775807) :
    Calls Try.prog 29 #[.slice A n cap] w fun e w' => e = .returned (.int .i64 (if n ≤ 65536 then frameLen n else 0 : Nat)) ∧ Below w.heap.size w w' := by
  by_cases h : n ≤ 65536
  · have h1 : ¬ (65536 : Int) < (n : Int) := by omega
    rw [if_pos h]
    go_enter Try.func29, Try.ntmps29
    go_wp2_with fail
    refine (count_any n _ (by omega)).mono ?_
    rintro e w' (⟨-, -, v, rfl, hv, hb⟩ | ⟨hn2, -, -⟩)
    · have hgl := grp_length n
      obtain ⟨g, cap2, rfl, -, -, -⟩ := hv.shape hgl.2
      have HB := Lib.hid hb
      clear hv hb
      obtain ⟨q, hq⟩ : ∃ q, q = (grp n).length := ⟨_, rfl⟩
      have HQ := Lib.hid hq
      have e : ((n : Int).toNat) = n := by omega
      simp only [e]
      rw [← hq] at hgl ⊢
      clear hq e
      go_wp2_with fail
      go_ret
      refine ⟨ret_i64 ?_, HB.out⟩
      unfold frameLen
      rw [← HQ.out]
      omega
    · exact absurd hn2 (by omega)
  · have h1 : (65536 : Int) < (n : Int) := by omega
    rw [if_neg h]
    go_enter Try.func29, Try.ntmps29
    go_wp2_with fail
    go_ret
    exact ⟨rfl, Below.refl _ _⟩
end Go.Proofs.Ytcbnjilkmdofnaa
