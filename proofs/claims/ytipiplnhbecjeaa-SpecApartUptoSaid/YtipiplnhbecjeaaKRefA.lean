/- The document's own reading of groups, over bytes that came in. -/
import Derived.Test.YtipiplnhbecjeaaKVarH
namespace Go.Proofs.Ytipiplnhbecjeaa
set_option linter.unusedVariables false
set_option linter.unusedSimpArgs false
open Go.RowKit

/-- A slice value that reads as l, in blocks below B. -/
def Rd (w : World) (B : Nat) (v : Value) (l : List UInt8) : Prop :=
  ∃ (A : Option Addr) (cap : Nat), v = .slice A l.length cap ∧ l.length ≤ cap ∧ (cap ≤ 9223372036854775807 ∧ (A = none → cap = 0)) ∧
    (0 < l.length → ∃ b off, A = some ⟨b, off, none⟩ ∧ b < B ∧ ∀ i (h : i < l.length), w.cell? ⟨b, off + i, none⟩ = some (.int .u8 (l[i].toNat : Int)))
theorem Rd.keep {w w' : World} {B : Nat} {v : Value} {l : List UInt8} (h : Rd w B v l) (hb : Below B w w') : Rd w' B v l := by
  obtain ⟨A, cap, hv, hc, hm, h1⟩ := h
  refine ⟨A, cap, hv, hc, hm, fun hl => ?_⟩
  obtain ⟨b, off, hA, hbB, hcell⟩ := h1 hl
  exact ⟨b, off, hA, hbB, fun i hi => (hb.cell (p := ⟨b, off + i, none⟩) hbB).trans (hcell i hi)⟩


theorem add_val (acc b k : Nat) (hacc : acc < 128 ^ k) (h : k ≤ 9) (h9 : k = 9 → b % 128 ≤ 1) :
    IntKind.u64.wrap ((acc : Int) + IntKind.u64.wrap ((b : Int) % 128 * 2 ^ (7 * k))) = ((acc + b % 128 * 128 ^ k : Nat) : Int) := by
  have hm := mul_pow_lt (b % 128) k (by omega) h h9
  have hp := pow_le9 k h
  have e : IntKind.u64.wrap ((b : Int) % 128 * 2 ^ (7 * k)) = ((b % 128 * 128 ^ k : Nat) : Int) := by
    have e1 : ((b : Int) % 128 * 2 ^ (7 * k)) = ((b % 128 * 128 ^ k : Nat) : Int) := by
      rw [← pow7]; simp
    rw [e1, IntKind.wrap_u64]; omega
  rw [e, IntKind.wrap_u64]
  omega

/-- What a round of the document's reading finds. -/
def GL (l : List UInt8) (k acc : Nat) : Prop := acc < 128 ^ k ∧ getG k acc (l.drop k) = getG 0 0 l
theorem dropL (l : List UInt8) (k : Nat) (hk : k < l.length) : l.drop k = l[k] :: l.drop (k + 1) := List.drop_eq_getElem_cons hk
theorem GL_end {l : List UInt8} {k acc : Nat} (HG : GL l k acc) (hn : ¬ (k < l.length ∧ k < 10)) (h10 : k ≤ 10) (hle : k ≤ l.length) : getG 0 0 l = (0, 0) := by
  rw [← HG.2]
  by_cases h : k < l.length
  · rw [dropL l k h, getG, if_pos (by omega)]
  · rw [List.drop_eq_nil_of_le (by omega), getG]
theorem GL_hi {l : List UInt8} {k acc : Nat} (HG : GL l k acc) (hk : k < l.length) (h9 : k = 9) (hb : 1 < l[k].toNat) : getG 0 0 l = (0, 0) := by
  rw [← HG.2, dropL l k hk, getG, if_neg (by omega), if_pos ⟨h9, hb⟩]
theorem GL_zero {l : List UInt8} {k acc : Nat} (HG : GL l k acc) (hk : k < l.length) (h10 : k < 10) (h0 : 0 < k) (hb : l[k].toNat = 0) : getG 0 0 l = (0, 0) := by
  rw [← HG.2, dropL l k hk, getG, if_neg (by omega), if_neg (by omega), if_pos (by omega), if_pos ⟨hb, h0⟩]
theorem GL_last {l : List UInt8} {k acc : Nat} (HG : GL l k acc) (hk : k < l.length) (h10 : k < 10) (h9 : k = 9 → l[k].toNat ≤ 1) (hb : l[k].toNat < 128) (hz : l[k].toNat = 0 → ¬ 0 < k) :
    IntKind.u64.wrap ((acc : Int) + IntKind.u64.wrap ((l[k].toNat : Int) % 128 * 2 ^ (7 * k))) = ((getG 0 0 l).1 : Int) ∧ (getG 0 0 l).2 = k + 1 := by
  rw [add_val acc l[k].toNat k HG.1 (by omega) (by omega)]
  rw [← HG.2, dropL l k hk, getG, if_neg (by omega), if_neg (by omega), if_pos (by omega), if_neg (by omega)]
  rw [Nat.mod_eq_of_lt hb]
  exact ⟨rfl, rfl⟩
theorem GL_more {l : List UInt8} {k acc : Nat} (HG : GL l k acc) (hk : k < l.length) (h10 : k < 10) (h9 : k ≠ 9) (hb : 128 ≤ l[k].toNat) :
    ∃ acc' : Nat, IntKind.u64.wrap ((acc : Int) + IntKind.u64.wrap ((l[k].toNat : Int) % 128 * 2 ^ (7 * k))) = (acc' : Int) ∧ GL l (k + 1) acc' := by
  have hlt := UInt8.toNat_lt l[k]
  refine ⟨_, add_val acc l[k].toNat k HG.1 (by omega) (by omega), ?_, ?_⟩
  · have e3 : (128 : Nat) ^ (k + 1) = 128 * 128 ^ k := by rw [Nat.pow_succ]; omega
    have : l[k].toNat % 128 * 128 ^ k ≤ 127 * 128 ^ k := Nat.mul_le_mul_right _ (by omega)
    have := HG.1
    omega
  · rw [← HG.2, dropL l k hk]
    conv => rhs; rw [getG, if_neg (by omega), if_neg (by omega), if_neg (by omega)]
    have e : l[k].toNat % 128 = l[k].toNat - 128 := by omega
    rw [e]

/-- What the document's source says next, as that of the program. -/
theorem rdN_max (l : List UInt8) : rdN 18446744073709551615 (some l) = if (getG 0 0 l).2 = 0 then (0, none) else ((getG 0 0 l).1, some (l.drop (getG 0 0 l).2)) := by
  have := getG_lt l 0 0 (by decide) (by omega)
  simp only [rdN]
  by_cases h : (getG 0 0 l).2 = 0
  · rw [if_pos (Or.inl h), if_pos h]
  · rw [if_neg (by omega), if_neg h]


/-- The slice behind k elements. -/
theorem Rd.cut {w : World} {B b off cap k : Nat} {l : List UInt8} (h : Rd w B (.slice (some ⟨b, off, none⟩) l.length cap) l) (hk : k ≤ l.length) :
    Rd w B (.slice (if cap = k then some ⟨b, off, none⟩ else some ⟨b, off + k, none⟩) (l.length - k) (cap - k)) (l.drop k) := by
  obtain ⟨A, cap', hv, hc, hm, h1⟩ := h
  injection hv with hA _ hcap
  subst hA; subst hcap
  refine ⟨_, _, by rw [List.length_drop], by rw [List.length_drop]; omega, ⟨by omega, fun h => by split at h <;> cases h⟩, fun hl => ?_⟩
  rw [List.length_drop] at hl
  obtain ⟨b', off', hA, hB, hcell⟩ := h1 (by omega)
  injection hA with hA; injection hA with hA1 hA2
  subst hA1; subst hA2
  rw [if_neg (by omega)]
  refine ⟨b, off + k, rfl, hB, fun i hi => ?_⟩
  rw [List.length_drop] at hi
  have := hcell (k + i) (by omega)
  rw [List.getElem_drop, Nat.add_assoc]
  exact this


theorem top9 : IntKind.u64.wrap (((1 : Nat) : Int) % 128 * 2 ^ (7 * 9)) = 9223372036854775808 := by decide
end Go.Proofs.Ytipiplnhbecjeaa

/- The document's own source: bytes, numbers, counts and texts. -/
namespace Go.Proofs.Ytipiplnhbecjeaa
set_option linter.unusedVariables false
set_option linter.unusedSimpArgs false
open Go.RowKit

/-- What of a source's block is wanted in a walk. -/
structure RCells (w : World) (g : Nat) (v : Value) (b : Bool) : Prop where
  c0 : w.cell? ⟨g, 0, none⟩ = some v
  c1 : w.cell? ⟨g, 1, none⟩ = some (.bool b)
  f0 : w.frozen? ⟨g, 0, none⟩ = false
  f1 : w.frozen? ⟨g, 1, none⟩ = false


theorem zag_even (n : Nat) (h : n % 2 = 0) : zag n = ((n / 2 : Nat) : Int) := by unfold zag; rw [if_neg (by omega)]
theorem zag_odd (n : Nat) (h : ¬ n % 2 = 0) : zag n = -((n / 2 : Nat) : Int) - 1 := by unfold zag; rw [if_pos (by omega)]

/-- The document's count: from the groups. -/
theorem rdCount_bad {n : Int} {l : List UInt8} (h : (rdN 18446744073709551615 (some l)).2 = none ∨ 4611686018427387904 < (rdN 18446744073709551615 (some l)).1 ∨ n < ((rdN 18446744073709551615 (some l)).1 : Int)) (hn : (rdN 18446744073709551615 (some l)).2 = none → (rdN 18446744073709551615 (some l)).1 = 0) :
    rdCount n (some l) = (0, none) := by
  unfold rdCount
  split
  · rfl
  · next h0 =>
    rw [rdN_max] at h
    simp only [rdN]
    by_cases hz : (getG 0 0 l).2 = 0
    · rw [if_pos (Or.inl hz)]
    · rw [if_neg hz] at h
      rw [if_pos]
      refine .inr ?_
      unfold mc
      rcases h with h | h | h
      · cases h
      · split <;> (simp only [] at h; omega)
      · split <;> (simp only [] at h; omega)
theorem rdCount_good {n : Int} {l r : List UInt8} (h1 : (rdN 18446744073709551615 (some l)).2 = some r) (h2 : (rdN 18446744073709551615 (some l)).1 ≤ 4611686018427387904) (h3 : ((rdN 18446744073709551615 (some l)).1 : Int) ≤ n) :
    rdCount n (some l) = rdN 18446744073709551615 (some l) := by
  unfold rdCount
  rw [if_neg (by omega), rdN_max]
  rw [rdN_max] at h1 h2 h3
  by_cases hz : (getG 0 0 l).2 = 0
  · rw [if_pos hz] at h1; cases h1
  · rw [if_neg hz] at h2 h3 ⊢
    simp only [rdN]
    rw [if_neg]
    unfold mc
    simp only [] at h2 h3
    split <;> omega
end Go.Proofs.Ytipiplnhbecjeaa

/- The document's own source, on: counts and texts, what is left, whether all is read. -/
namespace Go.Proofs.Ytipiplnhbecjeaa
set_option linter.unusedVariables false
set_option linter.unusedSimpArgs false
open Go.RowKit

def leftOf : Option (List UInt8) → Int
  | none => 0
  | some l => l.length
def doneOf : Option (List UInt8) → Int
  | none => 10
  | some l => if l.isEmpty then 0 else 10
theorem rdN_none (m : Nat) (st : Option (List UInt8)) (h : (rdN m st).2 = none) : (rdN m st).1 = 0 := by
  cases st with
  | none => rfl
  | some l =>
    simp only [rdN] at h ⊢
    split at h
    · next hc => rw [if_pos hc]
    · cases h


end Go.Proofs.Ytipiplnhbecjeaa

/- The document's own source: texts. -/
namespace Go.Proofs.Ytipiplnhbecjeaa
set_option linter.unusedVariables false
set_option linter.unusedSimpArgs false
open Go.RowKit

set_option maxRecDepth 100000 in
/-- A slice that came in, cut and made a string. -/
theorem Rd.conv {w : World} {B n cap : Nat} {A : Option Addr} {l : List UInt8} (h : Rd w B (.slice A l.length cap) l) (hn : n ≤ l.length) (c : Nat) :
    (convert 39 9 (.slice A n c)).run Try.prog w = .ok (.string ⟨(l.take n).toArray⟩) w := by
  obtain ⟨A', cap', hv, _, _, h1⟩ := h
  injection hv with hA _ _
  subst hA
  rcases Nat.eq_zero_or_pos n with rfl | hp
  · rcases A with _ | a
    · rw [run_convert_bytes_nil w 39 5 Try.underlying39 Try.underlying5 0 c 9 Try.underlying9]
      rfl
    · exact run_convert_bytes_back w 39 9 5 a c [] Try.underlying39 Try.underlying5 Try.underlying9 (fun j hj => absurd hj (by simp))
  · obtain ⟨b, off, rfl, _, hcell⟩ := h1 (by omega)
    rw [run_convert_bytes_arg w 39 5 Try.underlying39 Try.underlying5 b off n c ((l.take n).map fun b => (b.toNat : Int)) (by simp; omega) ?_ 9 Try.underlying9, strOfNums_bytes]
    intro i hi
    rw [hcell i (by omega)]
    have hi2 : i < l.length := by omega
    simp [List.getElem?_map, List.getElem?_eq_getElem hi2, List.getD, List.getElem?_take, hi]

/-- The slice behind k elements, whatever it is. -/
theorem Rd.cutAny {w : World} {B cap k : Nat} {A : Option Addr} {l : List UInt8} (h : Rd w B (.slice A l.length cap) l) (hk : k ≤ l.length) :
    Rd w B (.slice (if cap = k then A else A.map (·.add k)) (l.length - k) (cap - k)) (l.drop k) := by
  obtain ⟨A', cap', hv, hc, hm, h1⟩ := h
  injection hv with hA _ hcap
  subst hA; subst hcap
  refine ⟨_, _, by rw [List.length_drop], by rw [List.length_drop]; omega, ⟨by omega, fun h => ?_⟩, fun hl => ?_⟩
  · split at h
    · omega
    · rcases A with _ | a
      · have := hm.2 rfl; omega
      · cases h
  · rw [List.length_drop] at hl
    obtain ⟨b, off, rfl, hB, hcell⟩ := h1 (by omega)
    rw [if_neg (by omega)]
    refine ⟨b, off + k, by simp only [Option.map_some, Addr.add]; split <;> simp_all, hB, fun i hi => ?_⟩
    rw [List.length_drop] at hi
    have := hcell (k + i) (by omega)
    rw [List.getElem_drop, Nat.add_assoc]
    exact this

end Go.Proofs.Ytipiplnhbecjeaa
