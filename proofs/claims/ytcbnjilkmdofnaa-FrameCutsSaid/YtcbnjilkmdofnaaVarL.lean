/- What must come of every program at the first layer, comes. -/
import Derived.Test.YtcbnjilkmdofnaaVarI
namespace Go.Proofs.Ytcbnjilkmdofnaa
set_option linter.unusedVariables false
set_option linter.unusedSimpArgs false
open Go.RowKit

theorem grp300 : grp 300 = [172, 2] := by decide
theorem grp1 : grp (zig (-1)) = [1] := by decide
theorem grp64 : grp (zig 64) = [128, 1] := by decide
theorem txtab : txt ⟨#[97, 98]⟩ = [2, 97, 98] := by decide

theorem rd1 : rdInt (some [1, 2, 97, 98]) = (-1, some [2, 97, 98]) := by decide
theorem rd2 : rdText 9 (some [2, 97, 98]) = ([97, 98], some []) := by decide
theorem rd3 : rdByte (some []) = (0, none) := by decide
theorem SrcL.mk {w : World} {g : Nat} {l : List UInt8} (h : Src w g ⟨l.toArray⟩ false) (hl : l.length ≤ 9223372036854775807) : SrcL w g (some l) := ⟨h, hl⟩
theorem sleft_any (g : Nat) (l : List UInt8) (w : World) (h : SrcL w g (some l)) : Calls Try.prog 62 #[.pointer (some ⟨g, 0, none⟩)] w fun e w' => e = .returned (.int .i64 l.length) ∧ w = w' :=
  (left_any g _ false w h.1).mono fun e w' ⟨he, hw⟩ => ⟨by rw [he, size_mk]; rfl, hw⟩
theorem sleft_none (g : Nat) (w : World) (h : SrcL w g none) : Calls Try.prog 62 #[.pointer (some ⟨g, 0, none⟩)] w fun e w' => e = .returned (.int .i64 0) ∧ w = w' :=
  (left_any g _ true w h).mono fun e w' ⟨he, hw⟩ => ⟨he, hw⟩
theorem isEmpty_mk (l : List UInt8) : (⟨l.toArray⟩ : ByteArray).toList.isEmpty = l.isEmpty := by rw [ByteArray.toList_eq]
theorem sbad_any (g : Nat) (st : Option (List UInt8)) (w : World) (h : SrcL w g st) : Calls Try.prog 64 #[.pointer (some ⟨g, 0, none⟩)] w fun e w' => e = .returned (.bool st.isNone) ∧ w = w' := by
  cases st with
  | none => exact bad_any g _ true w h
  | some l => exact bad_any g _ false w h.1

end Go.Proofs.Ytcbnjilkmdofnaa
