/- What each function of the package that lays numbers, counts and texts as bytes does, call by call. -/
import Derived.Test.YtcbnjilkmdofnaaRows
import Derived.Test.YtcbnjilkmdofnaaMath
import Derived.WalkKit
import Derived.WalkSpells
import Derived.WalkLawsBesides
import Derived.Lib.Hide
import Derived.Lib.AppendStr
import Derived.Lib.SmallJoins
import Derived.Laws.BitsAllLaws
import Derived.Laws.BytesArg
import Derived.Laws.DeepNot64
namespace Go.Proofs.Ytcbnjilkmdofnaa
set_option linter.unusedVariables false
set_option linter.unusedSimpArgs false
open Go.RowKit

theorem Try.infoU8 : (Try.prog.info? 5).map (fun i => (i.zero, i.size, i.bytes)) = some (some (.int .u8 0), 1, 1) := by kernel_rfl

theorem u64_max : IntKind.u64.max = 18446744073709551615 := by decide
theorem xor_all (a : Nat) (ha : a < 18446744073709551616) : 18446744073709551615 ^^^ a = 18446744073709551615 - a := by
  have h : (BitVec.allOnes 64 ^^^ BitVec.ofNat 64 a) = ~~~ (BitVec.ofNat 64 a) := by
    rw [BitVec.allOnes_xor]
  have h2 := congrArg BitVec.toNat h
  rw [BitVec.toNat_xor, BitVec.toNat_allOnes, BitVec.toNat_not, BitVec.toNat_ofNat, Nat.mod_eq_of_lt ha] at h2
  exact h2
theorem fold_neg (x : Int) (h1 : -9223372036854775808 ≤ x) (h2 : x < 0) :
    bits .xor .u64 IntKind.u64.max (IntKind.u64.wrap (IntKind.u64.wrap x * 2)) = (zig x : Int) := by
  have e : IntKind.u64.wrap (IntKind.u64.wrap x * 2) = ((2 * x + 18446744073709551616).toNat : Int) := by
    rw [IntKind.wrap_u64, IntKind.wrap_u64]; omega
  have hm : IntKind.u64.max = ((18446744073709551615 : Nat) : Int) := u64_max
  rw [e, hm, u64_xor_nat _ _ (by omega) (by omega), xor_all _ (by omega)]
  unfold zig; rw [if_pos h2]; omega
theorem fold_pos (x : Int) (h1 : 0 ≤ x) (h2 : x ≤ 9223372036854775807) :
    IntKind.u64.wrap (IntKind.u64.wrap x * 2) = (zig x : Int) := by
  rw [IntKind.wrap_u64, IntKind.wrap_u64]; unfold zig; rw [if_neg (by omega)]; omega
theorem ret_u64 {a b : Int} (h : a = b) : Ending.returned (.int .u64 a) = .returned (.int .u64 b) := by rw [h]
theorem ret_i64 {a b : Int} (h : a = b) : Ending.returned (.int .i64 a) = .returned (.int .i64 b) := by rw [h]


theorem unfold_even (n : Nat) (hn : n < 18446744073709551616) (h : ((n : Int) % 2 == 1) = false) : wrap64 ((n : Int) / 2) = zag n := by
  have h' : ¬ n % 2 = 1 := by simp at h; omega
  unfold zag wrap64; rw [if_neg h']; omega
theorem unfold_odd (n : Nat) (hn : n < 18446744073709551616) (h : ((n : Int) % 2 == 1) = true) : bits .xor .i64 (-1) (wrap64 ((n : Int) / 2)) = zag n := by
  have h' : n % 2 = 1 := by simp at h; omega
  have e : wrap64 ((n : Int) / 2) = ((n / 2 : Nat) : Int) := by unfold wrap64; omega
  rw [e, i64_not _ (by omega)]
  unfold zag; rw [if_pos h']; omega

/-- A slice of bytes that the call owns, from block B on. -/
def OwnB (w : World) (B : Nat) (v : Value) (l : List UInt8) : Prop := w.ownsRow B 5 1 v l.length (bcells l)

theorem u8_or128 (n : Nat) : bits .or .u8 ((n : Int) % 128) 128 = ((UInt8.ofNat (n % 128 + 128)).toNat : Int) := by
  rw [ofNat_toNat _ (by omega)]
  have e : ((n : Int) % 128) = ((n % 128 : Nat) : Int) := by omega
  rw [e]
  have h2 : (128 : Int) = ((128 : Nat) : Int) := rfl
  rw [h2, u8_or_nat _ _ (by omega) (by omega), Nat.or_comm, nat_join 7 128 (n % 128) (by decide) (by simp; omega)]
  omega

/-- Behind an append of one byte. -/
theorem OwnB_step {w1 : World} {B : Nat} {v' : Value} {l : List UInt8} {b : UInt8} {u : Int} (hu : u = (b.toNat : Int))
    (h : w1.ownsRow B 5 1 v' (l.length + 1) (bcells l ++ [Value.int .u8 u])) : OwnB w1 B v' (l ++ [b]) := by
  subst hu
  unfold OwnB
  rw [bcells_append, bcells_one, List.length_append]
  exact h
theorem below_app {B : Nat} {w wr w1 : World} {v : Value} {l : List UInt8} {o : Obj} (hb : Below B w wr) (hB : B ≤ w.heap.size) (hown : OwnB wr B v l) (hg : (wr.alloc o).grownBy w1 v.ownBlock) : Below B w w1 :=
  (hb.alloc (Nat.le_trans hB hb.size) o).grown hg (by have := hb.size; simp; omega) (fun k hk => (hown.lt k hk).1)

theorem u8_last (m : Nat) (h : m < 128) : (m : Int) = ((UInt8.ofNat m).toNat : Int) := by
  rw [ofNat_toNat _ (by omega)]

set_option maxHeartbeats 1000000 in
set_option maxRecDepth 1000000 in
theorem puts_any (B : Nat) (v : Value) (xs : List UInt8) (n : Nat) (w : World) (hn : n < 18446744073709551616) (hown : OwnB w B v xs) (hB : B ≤ w.heap.size) (hx : xs.length ≤ 140737488355300) :
    Calls Try.prog 72 #[v, .int .u64 n] w fun e w' => ∃ v', e = .returned v' ∧ OwnB w' B v' (xs ++ grp n) ∧ Below B w w' := by
  obtain ⟨i0, hi, hz0, hz1, hz2⟩ := info_parts Try.infoU8
  have HN := Lib.hid hn
  have HX := Lib.hid hx
  clear hn hx
  go_enter Try.func72, Try.ntmps72
  go_wp2
  go_loopw [0, 1] (fun v1 n1 wr => ∃ (m : Nat) (acc : List UInt8), n1 = .int .u64 m ∧ Hid (m < 18446744073709551616 ∧ acc ++ grp m = grp n) ∧ OwnB wr B v1 (xs ++ acc) ∧ Below B w wr) (fun _ n1 _ => (intOf n1).toNat)
  case atStart => exact ⟨n, [], rfl, ⟨HN.out, rfl⟩, by simpa using hown, Below.refl _ _⟩
  case round =>
    obtain ⟨m, acc, rfl, HM, hown1, hbel⟩ := hrel
    have hal : acc.length ≤ 11 := by
      have h1 := congrArg List.length HM.out.2
      have := (grp_length n).1
      simp at h1; omega
    have hsz := hbel.size
    by_cases hm : 128 ≤ m
    · have hown2 : wr.ownsRow B 5 1 _ (xs ++ acc).length (bcells (xs ++ acc)) := hown1
      go_wp2_with (at_builtin; go_must (refine wpList_append_own _ rfl _ _ 22 rfl B 5 i0 (.int .u8 0) 1 1 Try.underlying22 hi hz0 hz1 hz2 rfl (by decide) _ _ _ rfl (hown2.alloc _) ⟨wr.heap.size, 0, none⟩ 1 1 [.int .u8 (bits .or .u8 ((m : Int) % 128) 128)] rfl rfl ?c1 ?c2 ?c3 ?c4 ?c5 ?_))
      case c1 => exact cell_one_new _ _ _
      case c2 => intro u hu; simp at hu; subst hu; rfl
      case c3 => have := HX.out; rw [List.length_append]; unfold maxLen; omega
      case c4 => have := HX.out; rw [List.length_append]; omega
      case c5 => simp; omega
      intro v2 w2 hown3 hg _
      have hb2 := below_app hbel hB hown1 hg
      have hs2 := OwnB_step (l := xs ++ acc) (u8_or128 m) (by rw [List.length_append]; exact hown3)
      clear hown3 hg hown2 hown1
      go_wp2
      go_roundw
      case rel => exact ⟨m / 128, acc ++ [UInt8.ofNat (m % 128 + 128)], by go_num, ⟨by have := HM.out.1; omega, by
        rw [List.append_assoc, List.singleton_append, ← grp_large m hm HM.out.1]; exact HM.out.2⟩, by rw [← List.append_assoc]; exact hs2, hb2⟩
      case measure => simp [intOf]; omega
    · have hown2 : wr.ownsRow B 5 1 _ (xs ++ acc).length (bcells (xs ++ acc)) := hown1
      have hm' : m < 128 := by omega
      go_wp2_with (at_builtin; go_must (refine wpList_append_own _ rfl _ _ 22 rfl B 5 i0 (.int .u8 0) 1 1 Try.underlying22 hi hz0 hz1 hz2 rfl (by decide) _ _ _ rfl (hown2.alloc _) ⟨wr.heap.size, 0, none⟩ 1 1 [.int .u8 (m : Int)] rfl rfl ?d1 ?d2 ?d3 ?d4 ?d5 ?_))
      case d1 => exact cell_one_new _ _ _
      case d2 => intro u hu; simp at hu; subst hu; rfl
      case d3 => have := HX.out; rw [List.length_append]; unfold maxLen; omega
      case d4 => have := HX.out; rw [List.length_append]; omega
      case d5 => simp; omega
      intro v2 w2 hown3 hg _
      have hb2 := below_app hbel hB hown1 hg
      have hs2 := OwnB_step (l := xs ++ acc) (u8_last m hm') (by rw [List.length_append]; exact hown3)
      clear hown3 hg hown2 hown1
      go_wp2
      go_ret
      exact ⟨_, rfl, by rw [← HM.out.2, grp_small m hm', ← List.append_assoc]; exact hs2, hb2⟩
end Go.Proofs.Ytcbnjilkmdofnaa
