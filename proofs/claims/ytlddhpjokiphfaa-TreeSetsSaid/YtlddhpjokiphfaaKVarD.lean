/- The document's code of a text; sources that are nil, bad or good: whether they are bad, what is left, whether all is read; spoiling; beginning. -/
import Derived.Test.YtlddhpjokiphfaaKVarA
import Derived.Laws.IdiomStrings
import Derived.Lib.ConvBytes
import Derived.BigQuiet
import Derived.Deep.QuietTactic
namespace Go.Proofs.Ytlddhpjokiphfaa
set_option linter.unusedVariables false
set_option linter.unusedSimpArgs false
open Go.RowKit



/-! Sources. -/

/-- All but block g is as it was. -/
abbrev Only (w w' : World) (g : Nat) : Prop := w.grownBy w' (some g)
theorem Only.refl (w : World) (g : Nat) : Only w w g := World.grownBy.refl w _
theorem Only.set {a w : World} {g : Nat} (h : Only a w g) (i : Nat) (u : Value) : Only a (w.setCell ⟨g, i, none⟩ u) g :=
  ⟨h.os, h.tape, h.output, by simpa [World.setCell] using h.size, fun k hk hne => (Below.heap_setCell w _ u k (by rintro rfl; exact hne rfl)).trans (h.block k hk hne)⟩
theorem Only.alloc {a w : World} {g : Nat} (h : Only a w g) (o : Obj) : Only a (w.alloc o) g :=
  ⟨h.os, h.tape, h.output, Nat.le_trans h.size (by simp), fun k hk hne => (Below.heap_alloc w o k (Nat.lt_of_lt_of_le hk h.size)).trans (h.block k hk hne)⟩
theorem Only.trans {a b c : World} {g : Nat} (h : Only a b g) (k : Only b c g) : Only a c g :=
  ⟨k.os.trans h.os, k.tape.trans h.tape, k.output.trans h.output, Nat.le_trans h.size k.size, fun i hi hne => (k.block i (Nat.lt_of_lt_of_le hi h.size) hne).trans (h.block i hi hne)⟩
/-- A store into a block that is new. -/
theorem Only.setNew {a w : World} {g : Nat} (h : Only a w g) {p : Addr} (hp : a.heap.size ≤ p.block) (u : Value) : Only a (w.setCell p u) g :=
  ⟨h.os, h.tape, h.output, by simpa [World.setCell] using h.size, fun k hk hne => (Below.heap_setCell w _ u k (by omega)).trans (h.block k hk hne)⟩
theorem Only.below {a w : World} {g B : Nat} (h : Only a w g) (hB : B ≤ a.heap.size) (hg : B ≤ g) : Below B a w :=
  ⟨h.os, h.tape, h.output, h.size, fun k hk => h.block k (by omega) (by rintro ⟨⟩; omega)⟩
theorem Only.ofBelow {a w : World} {g : Nat} (h : Below a.heap.size a w) : Only a w g := ⟨h.os, h.tape, h.output, h.size, fun k hk _ => h.block k hk⟩


end Go.Proofs.Ytlddhpjokiphfaa

/- A source begun, and moved on by a function that tells how far. -/
namespace Go.Proofs.Ytlddhpjokiphfaa
set_option linter.unusedVariables false
set_option linter.unusedSimpArgs false
open Go.RowKit



/-- A call of function k through a value enters it. -/
def Enters (k : Nat) : Prop := ∀ (args : Array Value) (W : World), (callFunc k args).run Try.prog W = .ok (.enter k args) W


end Go.Proofs.Ytlddhpjokiphfaa

/- The groups at the beginning of a string, read. -/
namespace Go.Proofs.Ytlddhpjokiphfaa
set_option linter.unusedVariables false
set_option linter.unusedSimpArgs false
open Go.RowKit

/-- What a round of the reading finds. -/
def GInv (s : ByteArray) (k acc : Nat) : Prop := acc < 128 ^ k ∧ getG k acc (s.data.toList.drop k) = getG 0 0 s.data.toList

theorem pow7 (k : Nat) : (2 : Nat) ^ (7 * k) = 128 ^ k := by rw [Nat.pow_mul]
theorem pow_le9 (k : Nat) (h : k ≤ 9) : (128 : Nat) ^ k ≤ 9223372036854775808 := by
  have : (128 : Nat) ^ k ≤ 128 ^ 9 := Nat.pow_le_pow_right (by omega) h
  have e9 : (128 : Nat) ^ 9 = 9223372036854775808 := by decide
  omega
theorem mul_pow_lt (c k : Nat) (hc : c < 128) (h : k ≤ 9) (h9 : k = 9 → c ≤ 1) : c * 128 ^ k ≤ 9223372036854775808 := by
  by_cases e : k = 9
  · subst e
    have := h9 rfl
    have e9 : (128 : Nat) ^ 9 = 9223372036854775808 := by decide
    have : c * 128 ^ 9 ≤ 1 * 128 ^ 9 := Nat.mul_le_mul_right _ (by omega)
    omega
  · have h2 := pow_le9 (k + 1) (by omega)
    have e3 : (128 : Nat) ^ (k + 1) = 128 * 128 ^ k := by rw [Nat.pow_succ]; omega
    have : c * 128 ^ k ≤ 128 * 128 ^ k := Nat.mul_le_mul_right _ (by omega)
    omega
theorem or_val (acc b k : Nat) (hacc : acc < 128 ^ k) (h : k ≤ 9) (h9 : k = 9 → b % 128 ≤ 1) :
    bits .or .u64 (acc : Int) (IntKind.u64.wrap ((b : Int) % 128 * 2 ^ (7 * k))) = ((acc + b % 128 * 128 ^ k : Nat) : Int) := by
  have hm := mul_pow_lt (b % 128) k (by omega) h h9
  have hp := pow_le9 k h
  have e : IntKind.u64.wrap ((b : Int) % 128 * 2 ^ (7 * k)) = ((b % 128 * 128 ^ k : Nat) : Int) := by
    have e1 : ((b : Int) % 128 * 2 ^ (7 * k)) = ((b % 128 * 128 ^ k : Nat) : Int) := by
      rw [← pow7]; simp
    rw [e1, IntKind.wrap_u64]; omega
  rw [e, u64_or_nat _ _ (by omega) (by omega), Nat.or_comm, nat_join (7 * k) _ _ (by rw [pow7]; exact Nat.mul_mod_left _ _) (by rw [pow7]; exact hacc)]
  omega
theorem ret_g {X Y : Int} {p q : Nat} (h1 : X = (p : Int)) (h2 : Y = (q : Int)) :
    Ending.returned (.tuple #[.int .u64 X, .int .i64 Y]) = .returned (.tuple #[.int .u64 p, .int .i64 q]) := by rw [h1, h2]

theorem drop_at (s : ByteArray) (k : Nat) (hk : k < s.size) : s.data.toList.drop k = s[k] :: s.data.toList.drop (k + 1) := by
  rw [List.drop_eq_getElem_cons (by simpa using hk)]; rfl
theorem G_end {s : ByteArray} {k acc : Nat} (HG : GInv s k acc) (h10 : k ≤ 10) (hn : ¬ (k < s.size ∧ k < 10)) (hle : k ≤ s.size) : getG 0 0 s.data.toList = (0, 0) := by
  rw [← HG.2]
  by_cases h : k < s.size
  · rw [drop_at s k h, getG, if_pos (by omega)]
  · rw [List.drop_eq_nil_of_le (by simp; omega), getG]
theorem G_hi {s : ByteArray} {k acc : Nat} (HG : GInv s k acc) (hk : k < s.size) (h10 : k < 10) (h9 : k = 9) (hb : 1 < s[k].toNat) : getG 0 0 s.data.toList = (0, 0) := by
  rw [← HG.2, drop_at s k hk, getG, if_neg (by omega), if_pos ⟨h9, hb⟩]
theorem G_zero {s : ByteArray} {k acc : Nat} (HG : GInv s k acc) (hk : k < s.size) (h10 : k < 10) (h0 : 0 < k) (hb : s[k].toNat = 0) : getG 0 0 s.data.toList = (0, 0) := by
  rw [← HG.2, drop_at s k hk, getG, if_neg (by omega), if_neg (by omega), if_pos (by omega), if_pos ⟨hb, h0⟩]
theorem G_last {s : ByteArray} {k acc : Nat} (HG : GInv s k acc) (hk : k < s.size) (h10 : k < 10) (h9 : k = 9 → s[k].toNat ≤ 1) (hb : s[k].toNat < 128) (hz : s[k].toNat = 0 → ¬ 0 < k) :
    bits .or .u64 (acc : Int) (IntKind.u64.wrap ((s[k].toNat : Int) % 128 * 2 ^ (7 * k))) = ((getG 0 0 s.data.toList).1 : Int) ∧ (k : Int) + 1 = ((getG 0 0 s.data.toList).2 : Int) := by
  rw [or_val acc s[k].toNat k HG.1 (by omega) (by omega)]
  rw [← HG.2, drop_at s k hk, getG, if_neg (by omega), if_neg (by omega), if_pos (by omega), if_neg (by omega)]
  rw [Nat.mod_eq_of_lt hb]
  exact ⟨rfl, by simp⟩
theorem G_last9 {s : ByteArray} {k acc : Nat} (HG : GInv s k acc) (hk : k < s.size) (h9 : k = 9) (hb : s[k].toNat ≤ 1) (hz : ¬ s[k].toNat = 0) :
    bits .or .u64 (acc : Int) ((s[k].toNat : Int) % 128 * 9223372036854775808) = ((getG 0 0 s.data.toList).1 : Int) ∧ (10 : Int) = ((getG 0 0 s.data.toList).2 : Int) := by
  have h := G_last HG hk (by omega) (fun _ => hb) (by omega) (fun h => absurd h hz)
  have e : IntKind.u64.wrap ((s[k].toNat : Int) % 128 * 2 ^ (7 * k)) = (s[k].toNat : Int) % 128 * 9223372036854775808 := by
    have e1 : (2 : Int) ^ (7 * k) = 9223372036854775808 := by rw [h9]; rfl
    rw [e1, IntKind.wrap_u64]; omega
  rw [e] at h
  refine ⟨h.1, ?_⟩
  rw [← h.2, h9]; rfl
theorem G_last0 {s : ByteArray} {k acc : Nat} (HG : GInv s k acc) (hk : k < s.size) (h0 : ¬ 0 < k) (hb : s[k].toNat = 0) :
    bits .or .u64 (acc : Int) (IntKind.u64.wrap 0) = ((getG 0 0 s.data.toList).1 : Int) ∧ (k : Int) + 1 = ((getG 0 0 s.data.toList).2 : Int) := by
  have h := G_last HG hk (by omega) (by omega) (by omega) (fun _ => h0)
  have e : ((s[k].toNat : Int) % 128 * 2 ^ (7 * k)) = 0 := by rw [hb]; simp
  rw [e] at h
  exact h
theorem G_more {s : ByteArray} {k acc : Nat} (HG : GInv s k acc) (hk : k < s.size) (h10 : k < 10) (h9 : k ≠ 9) (hb : 128 ≤ s[k].toNat) :
    ∃ acc' : Nat, bits .or .u64 (acc : Int) (IntKind.u64.wrap ((s[k].toNat : Int) % 128 * 2 ^ (7 * k))) = (acc' : Int) ∧ GInv s (k + 1) acc' := by
  have hlt := UInt8.toNat_lt s[k]
  refine ⟨_, or_val acc s[k].toNat k HG.1 (by omega) (by omega), ?_, ?_⟩
  · have e3 : (128 : Nat) ^ (k + 1) = 128 * 128 ^ k := by rw [Nat.pow_succ]; omega
    have : s[k].toNat % 128 * 128 ^ k ≤ 127 * 128 ^ k := Nat.mul_le_mul_right _ (by omega)
    have := HG.1
    omega
  · rw [← HG.2, drop_at s k hk]
    conv => rhs; rw [getG, if_neg (by omega), if_neg (by omega), if_neg (by omega)]
    have e : s[k].toNat % 128 = s[k].toNat - 128 := by omega
    rw [e]

end Go.Proofs.Ytlddhpjokiphfaa

/- A source's methods that read, at a source that is nil, bad, or good. -/
namespace Go.Proofs.Ytlddhpjokiphfaa
set_option linter.unusedVariables false
set_option linter.unusedSimpArgs false
open Go.RowKit

/-- A code that is read, most at most: what it says, and its bytes: (0, 0), if there is none. -/
def readN (s : ByteArray) (most : Nat) : Nat × Nat := if (getG 0 0 s.data.toList).2 = 0 ∨ most < (getG 0 0 s.data.toList).1 then (0, 0) else getG 0 0 s.data.toList
theorem readN_size (s : ByteArray) (most : Nat) : (readN s most).2 ≤ s.size := by
  unfold readN
  have := (getG_size_le s.data.toList 0 0).1
  split
  · exact Nat.zero_le _
  · simpa using this
theorem readN_lt (s : ByteArray) (most : Nat) : (readN s most).1 < 18446744073709551616 := by
  unfold readN
  split
  · decide
  · exact getG_lt _ 0 0 (by decide) (by omega)
theorem readN_le (s : ByteArray) (most : Nat) : (readN s most).1 ≤ most := by
  unfold readN
  split
  · exact Nat.zero_le _
  · omega

/-- A cell of the call's own that holds v. -/
def Holds1 (w : World) (B : Nat) (v : Value) : Prop := w.cell? ⟨B, 0, none⟩ = some v ∧ w.frozen? ⟨B, 0, none⟩ = false ∧ B < w.heap.size
theorem Holds1.lt {w : World} {B : Nat} {v : Value} (h : Holds1 w B v) : B < w.heap.size := h.2.2
theorem Holds1.new (w : World) (v : Value) (t : TypeId) : Holds1 (w.alloc (.cells #[v] t)) w.heap.size v := by
  have hb : (w.alloc (.cells #[v] t)).heap[w.heap.size]? = some (.cells #[v] t (0, 0)) := heap_alloc_new w _
  exact ⟨Go.Joins.cell_of_block hb 0, Go.Joins.unfrozen_of_block hb 0, by simp⟩
theorem Holds1.of {w w' : World} {B : Nat} {v : Value} (h : Holds1 w B v) (he : w'.heap[B]? = w.heap[B]?) (hs : w.heap.size ≤ w'.heap.size) : Holds1 w' B v :=
  ⟨(World.cell?_of_block (a := ⟨B, 0, none⟩) he).trans h.1, (World.frozen?_of_block (a := ⟨B, 0, none⟩) he).trans h.2.1, Nat.lt_of_lt_of_le h.2.2 hs⟩
theorem Holds1.alloc {w : World} {B : Nat} {v : Value} (h : Holds1 w B v) (o : Obj) : Holds1 (w.alloc o) B v := h.of (Below.heap_alloc w o B h.lt) (by simp)
theorem Holds1.only {w w' : World} {B g : Nat} {v : Value} (h : Holds1 w B v) (ho : Only w w' g) (hne : B ≠ g) : Holds1 w' B v := h.of (ho.block B h.lt (by rintro ⟨⟩; exact hne rfl)) ho.size
theorem Holds1.set {w : World} {B : Nat} {v : Value} (h : Holds1 w B v) (u : Value) : Holds1 (w.setCell ⟨B, 0, none⟩ u) B u :=
  ⟨World.cell?_setCell_same _ _ _ h.1, (World.frozen?_setCell _ _ _ _).trans h.2.1, by simpa [World.setCell] using h.2.2⟩
theorem Holds1.far {w : World} {B : Nat} {v : Value} (h : Holds1 w B v) {p : Addr} (hne : B ≠ p.block) (u : Value) : Holds1 (w.setCell p u) B v := h.of (Below.heap_setCell w p u B hne) (by simp [World.setCell])

/-! groups -/




/-! Sources by what they have left: none, if they are bad. -/

/-- The next code, most at most. -/
def rdN (most : Nat) : Option (List UInt8) → Nat × Option (List UInt8)
  | none => (0, none)
  | some l => if (getG 0 0 l).2 = 0 ∨ most < (getG 0 0 l).1 then (0, none) else ((getG 0 0 l).1, some (l.drop (getG 0 0 l).2))
def rdByte : Option (List UInt8) → Nat × Option (List UInt8)
  | none => (0, none)
  | some [] => (0, none)
  | some (b :: r) => (b.toNat, some r)
def rdInt (st : Option (List UInt8)) : Int × Option (List UInt8) := (zag (rdN 18446744073709551615 st).1, (rdN 18446744073709551615 st).2)
def mc (n : Int) : Nat := if n ≤ 4611686018427387904 then n.toNat else 4611686018427387904
def rdCount (n : Int) (st : Option (List UInt8)) : Nat × Option (List UInt8) := if n < 0 then (0, none) else rdN (mc n) st
def rdText (n : Int) (st : Option (List UInt8)) : List UInt8 × Option (List UInt8) :=
  if (rdCount n st).1 = 0 then ([], (rdCount n st).2)
  else match (rdCount n st).2 with
    | none => ([], none)
    | some r => if r.length < (rdCount n st).1 then ([], none) else (r.take (rdCount n st).1, some (r.drop (rdCount n st).1))

theorem extract_drop (l : List UInt8) (n : Nat) : (⟨l.toArray⟩ : ByteArray).extract n (⟨l.toArray⟩ : ByteArray).size = ⟨(l.drop n).toArray⟩ := by
  have h := Lib.extract_data (⟨l.toArray⟩ : ByteArray) n (⟨l.toArray⟩ : ByteArray).size
  have e : ((⟨l.toArray⟩ : ByteArray).extract n (⟨l.toArray⟩ : ByteArray).size).data.toList = l.drop n := by
    rw [h]
    have e2 : (⟨l.toArray⟩ : ByteArray).size = l.length := by simp [ByteArray.size]
    rw [e2]
    exact List.take_of_length_le (by simp)
  rw [← Go.Joins.bytes_eta ((⟨l.toArray⟩ : ByteArray).extract n _), e]
theorem size_mk (l : List UInt8) : (⟨l.toArray⟩ : ByteArray).size = l.length := by simp [ByteArray.size]

end Go.Proofs.Ytlddhpjokiphfaa
