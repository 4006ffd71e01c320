/- A source's methods that read, at a source that is nil, bad, or good. -/
import Derived.Test.YtclgekmpldeedaaVarE
import Derived.Test.YtclgekmpldeedaaVarF
namespace Go.Proofs.Ytclgekmpldeedaa
set_option linter.unusedVariables false
set_option linter.unusedSimpArgs false
open Go.RowKit

/-- A code that is read, most at most: what it says, and its bytes: (0, 0), if there is none. -/
def readN (s : ByteArray) (most : Nat) : Nat × Nat := if (getG 0 0 s.data.toList).2 = 0 ∨ most < (getG 0 0 s.data.toList).1 then (0, 0) else getG 0 0 s.data.toList
theorem readN_size (s : ByteArray) (most : Nat) : (readN s most).2 ≤ s.size := by
  unfold readN
  have := (getG_size_le s.data.toList 0 0).1
  split
  · exact Nat.zero_le _
  · simpa using this
theorem readN_lt (s : ByteArray) (most : Nat) : (readN s most).1 < 18446744073709551616 := by
  unfold readN
  split
  · decide
  · exact getG_lt _ 0 0 (by decide) (by omega)
theorem readN_le (s : ByteArray) (most : Nat) : (readN s most).1 ≤ most := by
  unfold readN
  split
  · exact Nat.zero_le _
  · omega

/-- A cell of the call's own that holds v. -/
def Holds1 (w : World) (B : Nat) (v : Value) : Prop := w.cell? ⟨B, 0, none⟩ = some v ∧ w.frozen? ⟨B, 0, none⟩ = false ∧ B < w.heap.size
theorem Holds1.lt {w : World} {B : Nat} {v : Value} (h : Holds1 w B v) : B < w.heap.size := h.2.2
theorem Holds1.new (w : World) (v : Value) (t : TypeId) : Holds1 (w.alloc (.cells #[v] t)) w.heap.size v := by
  have hb : (w.alloc (.cells #[v] t)).heap[w.heap.size]? = some (.cells #[v] t (0, 0)) := heap_alloc_new w _
  exact ⟨Go.Joins.cell_of_block hb 0, Go.Joins.unfrozen_of_block hb 0, by simp⟩
theorem Holds1.of {w w' : World} {B : Nat} {v : Value} (h : Holds1 w B v) (he : w'.heap[B]? = w.heap[B]?) (hs : w.heap.size ≤ w'.heap.size) : Holds1 w' B v :=
  ⟨(World.cell?_of_block (a := ⟨B, 0, none⟩) he).trans h.1, (World.frozen?_of_block (a := ⟨B, 0, none⟩) he).trans h.2.1, Nat.lt_of_lt_of_le h.2.2 hs⟩
theorem Holds1.alloc {w : World} {B : Nat} {v : Value} (h : Holds1 w B v) (o : Obj) : Holds1 (w.alloc o) B v := h.of (Below.heap_alloc w o B h.lt) (by simp)
theorem Holds1.only {w w' : World} {B g : Nat} {v : Value} (h : Holds1 w B v) (ho : Only w w' g) (hne : B ≠ g) : Holds1 w' B v := h.of (ho.block B h.lt (by rintro ⟨⟩; exact hne rfl)) ho.size
theorem Holds1.set {w : World} {B : Nat} {v : Value} (h : Holds1 w B v) (u : Value) : Holds1 (w.setCell ⟨B, 0, none⟩ u) B u :=
  ⟨World.cell?_setCell_same _ _ _ h.1, (World.frozen?_setCell _ _ _ _).trans h.2.1, by simpa [World.setCell] using h.2.2⟩
theorem Holds1.far {w : World} {B : Nat} {v : Value} (h : Holds1 w B v) {p : Addr} (hne : B ≠ p.block) (u : Value) : Holds1 (w.setCell p u) B v := h.of (Below.heap_setCell w p u B hne) (by simp [World.setCell])

/-! groups -/




/-! Sources by what they have left: none, if they are bad. -/

/-- The next code, most at most. -/
def rdN (most : Nat) : Option (List UInt8) → Nat × Option (List UInt8)
  | none => (0, none)
  | some l => if (getG 0 0 l).2 = 0 ∨ most < (getG 0 0 l).1 then (0, none) else ((getG 0 0 l).1, some (l.drop (getG 0 0 l).2))
def rdByte : Option (List UInt8) → Nat × Option (List UInt8)
  | none => (0, none)
  | some [] => (0, none)
  | some (b :: r) => (b.toNat, some r)
def rdInt (st : Option (List UInt8)) : Int × Option (List UInt8) := (zag (rdN 18446744073709551615 st).1, (rdN 18446744073709551615 st).2)
def mc (n : Int) : Nat := if n ≤ 4611686018427387904 then n.toNat else 4611686018427387904
def rdCount (n : Int) (st : Option (List UInt8)) : Nat × Option (List UInt8) := if n < 0 then (0, none) else rdN (mc n) st
def rdText (n : Int) (st : Option (List UInt8)) : List UInt8 × Option (List UInt8) :=
  if (rdCount n st).1 = 0 then ([], (rdCount n st).2)
  else match (rdCount n st).2 with
    | none => ([], none)
    | some r => if r.length < (rdCount n st).1 then ([], none) else (r.take (rdCount n st).1, some (r.drop (rdCount n st).1))

theorem extract_drop (l : List UInt8) (n : Nat) : (⟨l.toArray⟩ : ByteArray).extract n (⟨l.toArray⟩ : ByteArray).size = ⟨(l.drop n).toArray⟩ := by
  have h := Lib.extract_data (⟨l.toArray⟩ : ByteArray) n (⟨l.toArray⟩ : ByteArray).size
  have e : ((⟨l.toArray⟩ : ByteArray).extract n (⟨l.toArray⟩ : ByteArray).size).data.toList = l.drop n := by
    rw [h]
    have e2 : (⟨l.toArray⟩ : ByteArray).size = l.length := by simp [ByteArray.size]
    rw [e2]
    exact List.take_of_length_le (by simp)
  rw [← Go.Joins.bytes_eta ((⟨l.toArray⟩ : ByteArray).extract n _), e]
theorem size_mk (l : List UInt8) : (⟨l.toArray⟩ : ByteArray).size = l.length := by simp [ByteArray.size]

end Go.Proofs.Ytclgekmpldeedaa
