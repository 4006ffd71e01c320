/- Bytes and texts read from a source. -/
import Derived.Test.YtclgekmpldeedaaVarH
namespace Go.Proofs.Ytclgekmpldeedaa
set_option linter.unusedVariables false
set_option linter.unusedSimpArgs false
open Go.RowKit

theorem toList_ne (s : ByteArray) (h : 0 < s.size) : s.toList.isEmpty = false ∧ s.toList ≠ [] := by
  have hl : s.toList.length = s.size := by rw [ByteArray.toList_eq s]; simp
  have hne : s.toList ≠ [] := by intro e; rw [e] at hl; simp at hl; omega
  exact ⟨by cases hh : s.toList with
    | nil => exact absurd hh hne
    | cons a r => rfl, hne⟩
theorem toList_nil_e (s : ByteArray) (h : s.size = 0) : s.toList.isEmpty = true ∧ s.toList = [] := by
  have hl : s.toList.length = s.size := by rw [ByteArray.toList_eq s]; simp
  have hne : s.toList = [] := List.eq_nil_of_length_eq_zero (by omega)
  exact ⟨by rw [hne]; rfl, hne⟩

theorem head_mk (b : UInt8) (r : List UInt8) (h : 0 < (⟨(b :: r).toArray⟩ : ByteArray).size) : (⟨(b :: r).toArray⟩ : ByteArray)[0] = b := rfl

/-! Texts. -/

theorem extract_take (l : List UInt8) (n : Nat) : (⟨l.toArray⟩ : ByteArray).extract 0 n = ⟨(l.take n).toArray⟩ := by
  have h := Lib.extract_data (⟨l.toArray⟩ : ByteArray) 0 n
  have e : ((⟨l.toArray⟩ : ByteArray).extract 0 n).data.toList = l.take n := by
    rw [h]; simp
  rw [← Go.Joins.bytes_eta ((⟨l.toArray⟩ : ByteArray).extract 0 n), e]


end Go.Proofs.Ytclgekmpldeedaa
