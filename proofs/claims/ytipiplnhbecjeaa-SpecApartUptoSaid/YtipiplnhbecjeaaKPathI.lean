/- The index that a step says. -/
import Derived.Test.YtipiplnhbecjeaaKMath
import Derived.Outline
import Derived.Lib.OthersKept
import Derived.Lib.DecodeN
namespace Go.Proofs.Ytipiplnhbecjeaa
set_option linter.unusedVariables false
set_option linter.unusedSimpArgs false
open Go.RowKit

/-- Digits, n being said already: the number that comes of them; nothing, if one is none, or the number is too large. -/
def idxF : Nat → List UInt8 → Option Nat
  | n, [] => some n
  | n, b :: r => if b.toNat < 48 ∨ 57 < b.toNat then none else if 999 < 10 * n + (b.toNat - 48) then none else idxF (10 * n + (b.toNat - 48)) r
/-- The index that a step says. -/
def idxP (l : List UInt8) : Option Nat := if l = [] ∨ (l.head? = some 48 ∧ l.length ≠ 1) then none else idxF 0 l

def IdxR (l : List UInt8) (w : World) (e : Ending) (w' : World) : Prop := (match idxP l with | some n => e = .returned (.tuple #[.int .i64 n, .bool true]) | none => e = .returned (.tuple #[.int .i64 0, .bool false])) ∧ Below w.heap.size w w'
theorem IdxR.none {l : List UInt8} {w w' : World} (h : idxP l = none) (hb : Below w.heap.size w w') : IdxR l w (.returned (.tuple #[.int .i64 0, .bool false])) w' := by unfold IdxR; rw [h]; exact ⟨rfl, hb⟩
theorem IdxR.some {l : List UInt8} {w w' : World} {n : Nat} {k : Int} (h : idxP l = some n) (hk : k = n) (hb : Below w.heap.size w w') : IdxR l w (.returned (.tuple #[.int .i64 k, .bool true])) w' := by unfold IdxR; rw [h, hk]; exact ⟨rfl, hb⟩

theorem below_iter (w : World) (s : ByteArray) (k : Nat) : Below w.heap.size w (w.iter s k) := (Below.refl _ _).alloc (Nat.le_refl _) _
theorem idxP_go {s : ByteArray} (h0 : 0 < s.size) (h : ¬ (s[0].toNat = 48 ∧ ¬ s.toList = [48])) : idxP s.data.toList = idxF 0 s.data.toList := by
  unfold idxP
  rw [if_neg]
  rintro (h1 | ⟨h1, h2⟩)
  · have h2 := congrArg List.length h1
    have hl : s.data.toList.length = s.size := rfl
    rw [hl, List.length_nil] at h2; omega
  · have e : s.data.toList[0]? = some s[0] := by rw [List.getElem?_eq_getElem (by exact h0)]; rfl
    rw [List.head?_eq_getElem?, e] at h1
    injection h1 with h1
    refine h ⟨by rw [h1]; rfl, fun h3 => h2 ?_⟩
    rw [ByteArray.toList_eq] at h3
    rw [h3]; rfl
theorem idxP_zero {s : ByteArray} (h0 : 0 < s.size) (h : s[0].toNat = 48) (h2 : ¬ s.toList = [48]) : idxP s.data.toList = none := by
  unfold idxP
  rw [if_pos]
  refine .inr ⟨?_, fun h3 => h2 ?_⟩
  · have e : s.data.toList[0]? = some s[0] := by rw [List.getElem?_eq_getElem (by exact h0)]; rfl
    rw [List.head?_eq_getElem?, e]
    exact congrArg some (UInt8.toNat_inj.1 h)
  · rw [ByteArray.toList_eq]
    have e : s.data.toList[0]? = some s[0] := by rw [List.getElem?_eq_getElem (by exact h0)]; rfl
    match hl : s.data.toList, h3 with
    | [b], _ =>
      rw [hl] at e
      injection e with e
      rw [e]
      exact congrArg (fun x => [x]) (UInt8.toNat_inj.1 h)
theorem idxF_bad {s : ByteArray} {k m : Nat} (h : k < s.size) (hb : s[k].toNat < 48 ∨ 57 < s[k].toNat) : idxF m (s.data.toList.drop k) = none := by
  rw [drop_cons s k h]; unfold idxF; rw [if_pos hb]
theorem idxF_large {s : ByteArray} {k m : Nat} (h : k < s.size) (hb : ¬ (s[k].toNat < 48 ∨ 57 < s[k].toNat)) (hl : 999 < 10 * m + (s[k].toNat - 48)) : idxF m (s.data.toList.drop k) = none := by
  rw [drop_cons s k h]; unfold idxF; rw [if_neg hb, if_pos hl]
theorem idxF_on {s : ByteArray} {k m : Nat} (h : k < s.size) (hb : ¬ (s[k].toNat < 48 ∨ 57 < s[k].toNat)) (hl : ¬ 999 < 10 * m + (s[k].toNat - 48)) : idxF m (s.data.toList.drop k) = idxF (10 * m + (s[k].toNat - 48)) (s.data.toList.drop (k + 1)) := by
  rw [drop_cons s k h]; conv => lhs; unfold idxF
  rw [if_neg hb, if_neg hl]


/-! ### by the document -/
theorem idxF_long : ∀ (j n : Nat) (l : List UInt8), 10 ^ j ≤ n → 3 ≤ l.length + j → 0 < l.length → j ≤ 2 → idxF n l = none
  | j, n, [], _, _, h, _ => absurd h (by simp)
  | j, n, b :: r, hn, hl, _, hj => by
    unfold idxF
    split
    · rfl
    · split
      · rfl
      · next hb hv =>
        have hp : 0 < 10 ^ j := Nat.pow_pos (by omega)
        have e : (10 : Nat) ^ (j + 1) = 10 * 10 ^ j := by rw [Nat.pow_succ]; omega
        by_cases h2 : j = 2
        · subst h2
          omega
        · refine idxF_long (j + 1) _ r (by omega) (by simp at hl; omega) (by simp at hl; omega) (by omega)
theorem idxP_long {l : List UInt8} (h : 3 < l.length) : idxP l = none := by
  unfold idxP
  split
  · rfl
  · next hc =>
    match l, h with
    | b :: r, h =>
      unfold idxF
      split
      · rfl
      · split
        · rfl
        · next hb hv =>
          have h48 : b.toNat ≠ 48 := fun h3 => hc (.inr ⟨congrArg some (UInt8.toNat_inj.1 h3), by omega⟩)
          exact idxF_long 0 _ r (by simp; omega) (by simp at h; omega) (by simp at h; omega) (by omega)
def idxI (l : List UInt8) : Int := match idxP l with | some n => n | none => -1
theorem idxI_none {l : List UInt8} (h : idxP l = none) : idxI l = -1 := by unfold idxI; rw [h]
theorem idxI_some {l : List UInt8} {n : Nat} (h : idxP l = some n) : idxI l = n := by unfold idxI; rw [h]
theorem ret_i64' {a b : Int} (h : a = b) : Ending.returned (.int .i64 a) = .returned (.int .i64 b) := by rw [h]
theorem idxF_bound {k m : Nat} (h : m < 10 ^ k) (hk : k < 3) (d : Nat) (hd : d ≤ 9) : 10 * m + d < 10 ^ (k + 1) ∧ 10 * m + d ≤ 999 := by
  have e : (10 : Nat) ^ (k + 1) = 10 * 10 ^ k := by rw [Nat.pow_succ]; omega
  have h3 : (10 : Nat) ^ k ≤ 10 ^ 2 := Nat.pow_le_pow_right (by omega) (by omega)
  have : (10 : Nat) ^ 2 = 100 := by decide
  omega

end Go.Proofs.Ytipiplnhbecjeaa
