/- What each function of the package that lays numbers, counts and texts as bytes does, call by call. -/
import Derived.Test.YtclgekmpldeedaaRows
import Derived.Test.YtclgekmpldeedaaMath
import Derived.WalkKit
import Derived.WalkSpells
import Derived.WalkLawsBesides
import Derived.Lib.Hide
import Derived.Lib.AppendStr
import Derived.Lib.SmallJoins
import Derived.Laws.BitsAllLaws
import Derived.Laws.BytesArg
import Derived.Laws.DeepNot64
namespace Go.Proofs.Ytclgekmpldeedaa
set_option linter.unusedVariables false
set_option linter.unusedSimpArgs false
open Go.RowKit

theorem Try.infoU8 : (Try.prog.info? 5).map (fun i => (i.zero, i.size, i.bytes)) = some (some (.int .u8 0), 1, 1) := by kernel_rfl

theorem u64_max : IntKind.u64.max = 18446744073709551615 := by decide
theorem xor_all (a : Nat) (ha : a < 18446744073709551616) : 18446744073709551615 ^^^ a = 18446744073709551615 - a := by
  have h : (BitVec.allOnes 64 ^^^ BitVec.ofNat 64 a) = ~~~ (BitVec.ofNat 64 a) := by
    rw [BitVec.allOnes_xor]
  have h2 := congrArg BitVec.toNat h
  rw [BitVec.toNat_xor, BitVec.toNat_allOnes, BitVec.toNat_not, BitVec.toNat_ofNat, Nat.mod_eq_of_lt ha] at h2
  exact h2
theorem fold_neg (x : Int) (h1 : -9223372036854775808 ≤ x) (h2 : x < 0) :
    bits .xor .u64 IntKind.u64.max (IntKind.u64.wrap (IntKind.u64.wrap x * 2)) = (zig x : Int) := by
  have e : IntKind.u64.wrap (IntKind.u64.wrap x * 2) = ((2 * x + 18446744073709551616).toNat : Int) := by
    rw [IntKind.wrap_u64, IntKind.wrap_u64]; omega
  have hm : IntKind.u64.max = ((18446744073709551615 : Nat) : Int) := u64_max
  rw [e, hm, u64_xor_nat _ _ (by omega) (by omega), xor_all _ (by omega)]
  unfold zig; rw [if_pos h2]; omega
theorem fold_pos (x : Int) (h1 : 0 ≤ x) (h2 : x ≤ 9223372036854775807) :
    IntKind.u64.wrap (IntKind.u64.wrap x * 2) = (zig x : Int) := by
  rw [IntKind.wrap_u64, IntKind.wrap_u64]; unfold zig; rw [if_neg (by omega)]; omega
theorem ret_u64 {a b : Int} (h : a = b) : Ending.returned (.int .u64 a) = .returned (.int .u64 b) := by rw [h]
theorem ret_i64 {a b : Int} (h : a = b) : Ending.returned (.int .i64 a) = .returned (.int .i64 b) := by rw [h]


theorem unfold_even (n : Nat) (hn : n < 18446744073709551616) (h : ((n : Int) % 2 == 1) = false) : wrap64 ((n : Int) / 2) = zag n := by
  have h' : ¬ n % 2 = 1 := by simp at h; omega
  unfold zag wrap64; rw [if_neg h']; omega
theorem unfold_odd (n : Nat) (hn : n < 18446744073709551616) (h : ((n : Int) % 2 == 1) = true) : bits .xor .i64 (-1) (wrap64 ((n : Int) / 2)) = zag n := by
  have h' : n % 2 = 1 := by simp at h; omega
  have e : wrap64 ((n : Int) / 2) = ((n / 2 : Nat) : Int) := by unfold wrap64; omega
  rw [e, i64_not _ (by omega)]
  unfold zag; rw [if_pos h']; omega

/-- A slice of bytes that the call owns, from block B on. -/
def OwnB (w : World) (B : Nat) (v : Value) (l : List UInt8) : Prop := w.ownsRow B 5 1 v l.length (bcells l)

theorem u8_or128 (n : Nat) : bits .or .u8 ((n : Int) % 128) 128 = ((UInt8.ofNat (n % 128 + 128)).toNat : Int) := by
  rw [ofNat_toNat _ (by omega)]
  have e : ((n : Int) % 128) = ((n % 128 : Nat) : Int) := by omega
  rw [e]
  have h2 : (128 : Int) = ((128 : Nat) : Int) := rfl
  rw [h2, u8_or_nat _ _ (by omega) (by omega), Nat.or_comm, nat_join 7 128 (n % 128) (by decide) (by simp; omega)]
  omega

/-- Behind an append of one byte. -/
theorem OwnB_step {w1 : World} {B : Nat} {v' : Value} {l : List UInt8} {b : UInt8} {u : Int} (hu : u = (b.toNat : Int))
    (h : w1.ownsRow B 5 1 v' (l.length + 1) (bcells l ++ [Value.int .u8 u])) : OwnB w1 B v' (l ++ [b]) := by
  subst hu
  unfold OwnB
  rw [bcells_append, bcells_one, List.length_append]
  exact h
theorem below_app {B : Nat} {w wr w1 : World} {v : Value} {l : List UInt8} {o : Obj} (hb : Below B w wr) (hB : B ≤ w.heap.size) (hown : OwnB wr B v l) (hg : (wr.alloc o).grownBy w1 v.ownBlock) : Below B w w1 :=
  (hb.alloc (Nat.le_trans hB hb.size) o).grown hg (by have := hb.size; simp; omega) (fun k hk => (hown.lt k hk).1)

theorem u8_last (m : Nat) (h : m < 128) : (m : Int) = ((UInt8.ofNat m).toNat : Int) := by
  rw [ofNat_toNat _ (by omega)]

end Go.Proofs.Ytclgekmpldeedaa
