/- Lists of texts that lie in memory, and which texts may be names. -/
import Derived.Test.YtclgekmpldeedaaRows
import Derived.Test.YtclgekmpldeedaaReg
import Derived.WalkKit
import Derived.WalkSpells
import Derived.WalkLawsBesides
import Derived.Lib.Hide
import Derived.Lib.AppendStr
import Derived.Lib.SmallJoins
namespace Go.Proofs.Ytclgekmpldeedaa
set_option linter.unusedVariables false
set_option linter.unusedSimpArgs false
open Go.RowKit

theorem add_at (b off i : Nat) : ((⟨b, off, none⟩ : Addr).add i) = ⟨b, off + i, none⟩ := by
  unfold Addr.add
  split
  · next h => simp [h]
  · rfl

theorem drop_cons (s : ByteArray) (k : Nat) (h : k < s.size) : s.data.toList.drop k = s[k] :: s.data.toList.drop (k + 1) := List.drop_eq_getElem_cons (by simpa using h)
/-- Bytes as a text. -/
def bsOf (l : List UInt8) : ByteArray := ⟨l.toArray⟩
theorem bsOf_data (l : List UInt8) : (bsOf l).data.toList = l := rfl
theorem bsOf_of (s : ByteArray) : bsOf s.data.toList = s := rfl
theorem bsOf_size (l : List UInt8) : (bsOf l).size = l.length := rfl

/-! ### names -/
def nameB (l : List UInt8) : Bool := decide (1 ≤ l.length ∧ l.length ≤ 32) && l.head? != some 36 && !(l.contains 46)

/-- A list of strings that lies in memory, in blocks of S alone. -/
def StrsAt (w : World) (S : Nat → Prop) (A : Option Addr) (ns : List ByteArray) : Prop :=
  0 < ns.length → ∃ b off, A = some ⟨b, off, none⟩ ∧ S b ∧ ∀ i (h : i < ns.length), w.cell? ⟨b, off + i, none⟩ = some (.string ns[i]) ∧ ns[i].size ≤ 140737488351232
theorem StrsAt.keep {w w' : World} {S : Nat → Prop} {A : Option Addr} {ns : List ByteArray} (h : StrsAt w S A ns) (hk : ∀ b, S b → w'.heap[b]? = w.heap[b]?) : StrsAt w' S A ns := by
  intro hp
  obtain ⟨b, off, hA, hS, hc⟩ := h hp
  exact ⟨b, off, hA, hS, fun i hi => ⟨(World.cell?_of_block (a := ⟨b, off + i, none⟩) (hk b hS)).trans (hc i hi).1, (hc i hi).2⟩⟩
theorem StrsAt.imp {w : World} {S S' : Nat → Prop} {A : Option Addr} {ns : List ByteArray} (h : StrsAt w S A ns) (hS : ∀ b, S b → S' b) : StrsAt w S' A ns := by
  intro hp
  obtain ⟨b, off, hA, hb, hc⟩ := h hp
  exact ⟨b, off, hA, hS b hb, hc⟩
/-- What lies below a bound stays where nothing below it turns. -/
theorem StrsAt.later {w w' : World} {B : Nat} {A : Option Addr} {ns : List ByteArray} (h : StrsAt w (fun b => b < B) A ns) (hb : Below B w w') : StrsAt w' (fun b => b < B) A ns := h.keep fun b hb' => hb.block b hb'
theorem StrsAt.nil {w : World} {S : Nat → Prop} {A : Option Addr} : StrsAt w S A [] := fun h => absurd h (by simp)
theorem StrsAt.take {w : World} {S : Nat → Prop} {A : Option Addr} {ns : List ByteArray} (h : StrsAt w S A ns) (k : Nat) : StrsAt w S A (ns.take k) := by
  intro hp
  obtain ⟨b, off, hA, hS, hc⟩ := h (by simp at hp; omega)
  exact ⟨b, off, hA, hS, fun i hi => by
    have := hc i (by simp at hi; omega)
    simpa using this⟩

theorem nameB_iff (s : ByteArray) : nameB s.data.toList = true ↔ 1 ≤ s.size ∧ s.size ≤ 32 ∧ (∀ h : 0 < s.size, s[0].toNat ≠ 36) ∧ ∀ i (h : i < s.size), s[i].toNat ≠ 46 := by
  have hl : s.data.toList.length = s.size := rfl
  have hg : ∀ i (h : i < s.size), s[i] = s.data.toList[i]'(by rw [hl]; exact h) := fun i h => rfl
  have hu : ∀ (b c : UInt8), b.toNat = c.toNat ↔ b = c := fun b c => ⟨fun h => UInt8.toNat_inj.1 h, fun h => by rw [h]⟩
  unfold nameB
  simp only [Bool.and_eq_true, decide_eq_true_eq, Bool.not_eq_true', bne_iff_ne, ne_eq, hl]
  have h1 : (s.data.toList.contains 46 = false) ↔ ∀ i (h : i < s.size), s[i].toNat ≠ 46 := by
    rw [← Bool.not_eq_true, List.contains_iff_mem, List.mem_iff_getElem]
    constructor
    · intro h i hi he
      exact h ⟨i, by rw [hl]; exact hi, by rw [← hg i hi]; exact (hu _ 46).1 he⟩
    · rintro h ⟨i, hi, he⟩
      exact h i (by rw [← hl]; exact hi) (by rw [hg i (by rw [← hl]; exact hi), he]; rfl)
  have h2 : (¬ s.data.toList.head? = some 36) ↔ ∀ h : 0 < s.size, s[0].toNat ≠ 36 := by
    rw [List.head?_eq_getElem?]
    constructor
    · intro h hp he
      apply h
      rw [List.getElem?_eq_getElem (by rw [hl]; exact hp), ← hg 0 hp]
      exact congrArg some ((hu _ 36).1 he)
    · intro h he
      obtain ⟨hp, he⟩ := List.getElem?_eq_some_iff.1 he
      exact h (by rw [← hl]; exact hp) (by rw [hg 0 (by rw [← hl]; exact hp), he]; rfl)
  rw [h1, h2]
  constructor
  · rintro ⟨⟨⟨a, b⟩, c⟩, d⟩; exact ⟨a, b, c, d⟩
  · rintro ⟨a, b, c, d⟩; exact ⟨⟨⟨a, b⟩, c⟩, d⟩
theorem ret_bool {a b : Bool} (h : a = b) : Ending.returned (.bool a) = .returned (.bool b) := by rw [h]
theorem name_false {s : ByteArray} (h : ¬ (1 ≤ s.size ∧ s.size ≤ 32 ∧ (∀ h : 0 < s.size, s[0].toNat ≠ 36) ∧ ∀ i (h : i < s.size), s[i].toNat ≠ 46)) : false = nameB s.data.toList := by
  rw [← nameB_iff] at h; simpa using h
theorem name_true {s : ByteArray} (h : 1 ≤ s.size ∧ s.size ≤ 32 ∧ (∀ h : 0 < s.size, s[0].toNat ≠ 36) ∧ ∀ i (h : i < s.size), s[i].toNat ≠ 46) : true = nameB s.data.toList := ((nameB_iff s).2 h).symm
theorem toList_nil {s : ByteArray} : s.toList = [] ↔ s.size = 0 := by
  rw [ByteArray.toList_eq]
  show s.data.toList = [] ↔ s.data.toList.length = 0
  exact List.length_eq_zero_iff.symm
theorem isEmpty_size {s : ByteArray} : s.toList.isEmpty = true ↔ s.size = 0 := by rw [List.isEmpty_iff, toList_nil]

end Go.Proofs.Ytclgekmpldeedaa
