/- Numbers, counts, bytes and texts read from a source that is nil, or that has something left, or is bad. -/
import Derived.Test.YtcbnjilkmdofnaaVarG
namespace Go.Proofs.Ytcbnjilkmdofnaa
set_option linter.unusedVariables false
set_option linter.unusedSimpArgs false
open Go.RowKit

theorem maxU : (18446744073709551615 : Int) = ((18446744073709551615 : Nat) : Int) := rfl
theorem rdN_lt (most : Nat) (st : Option (List UInt8)) : (rdN most st).1 < 18446744073709551616 := by
  cases st with
  | none => simp [rdN]
  | some l =>
    simp only [rdN]
    split
    · simp
    · exact getG_lt _ 0 0 (by decide) (by omega)
theorem rdN_le (most : Nat) (st : Option (List UInt8)) : (rdN most st).1 ≤ most := by
  cases st with
  | none => simp [rdN]
  | some l =>
    simp only [rdN]
    split
    · simp
    · simp only []; omega


set_option maxHeartbeats 400000 in
theorem scount_nil (n : Int) (w : World) (h2 : n ≤ 9223372036854775807) : Calls Try.prog 75 #[.pointer none, .int .i64 n] w fun e w' => e = .returned (.int .i64 0) ∧ Below w.heap.size w w' := by
  by_cases h0 : n < 0
  · clear h2
    go_enter Try.func75, Try.ntmps75
    go_wp2_with fail
    refine (spoil_nil _).mono ?_
    rintro e w1 ⟨rfl, rfl⟩
    go_wp2_with fail
    go_ret
    exact ⟨rfl, Below.refl _ _⟩
  · by_cases h3 : n ≤ 4611686018427387904
    · go_enter Try.func75, Try.ntmps75
      go_wp2_with fail
      all_goals
        refine (groups_nil _ _).mono ?_
        rintro e w1 ⟨rfl, hb⟩
        go_wp2_with fail
        go_ret
        exact ⟨rfl, hb⟩
    · go_enter Try.func75, Try.ntmps75
      go_wp2_with fail
      all_goals
        refine (groups_nil _ _).mono ?_
        rintro e w1 ⟨rfl, hb⟩
        go_wp2_with fail
        go_ret
        exact ⟨rfl, hb⟩
set_option maxHeartbeats 400000 in
theorem scount_any (g : Nat) (st : Option (List UInt8)) (n : Int) (w : World) (h : SrcL w g st) (h2 : n ≤ 9223372036854775807) :
    Calls Try.prog 75 #[.pointer (some ⟨g, 0, none⟩), .int .i64 n] w fun e w' => e = .returned (.int .i64 (rdCount n st).1) ∧ SrcL w' g (rdCount n st).2 ∧ Only w w' g := by
  have H := Lib.hid h
  clear h
  by_cases h0 : n < 0
  · have HR : Hid (rdCount n st = (0, none)) := by unfold rdCount; rw [if_pos h0]; exact rfl
    clear h2
    obtain ⟨s, b, hs⟩ : ∃ s b, Src w g s b := by
      cases st with
      | none => exact ⟨_, _, H.out⟩
      | some l => exact ⟨_, _, H.out.1⟩
    have HS := Lib.hid hs
    clear hs
    go_enter Try.func75, Try.ntmps75
    go_wp2_with fail
    refine (spoil_any g s b _ HS.out).mono ?_
    rintro e w1 ⟨rfl, hs1, ho⟩
    go_wp2_with fail
    go_ret
    rw [HR.out]
    exact ⟨rfl, hs1, ho⟩
  · have HR : Hid (rdCount n st = rdN (mc n) st) := by unfold rdCount; rw [if_neg h0]; exact rfl
    have hm2 : mc n ≤ 4611686018427387904 := by unfold mc; split <;> omega
    have hle := rdN_le (mc n) st
    have hle2 : (((rdN (mc n) st).1 : Nat) : Int) ≤ 4611686018427387904 := by omega
    by_cases h3 : n ≤ 4611686018427387904
    · have HM : Hid (n = (mc n : Int)) := by show n = (mc n : Int); unfold mc; rw [if_pos h3]; omega
      clear hle hm2
      go_enter Try.func75, Try.ntmps75
      go_wp2_with fail
      all_goals
        refine (groups_any g st _ (mc n) _ H.out (by have := HM.out; omega)).mono ?_
        rintro e w1 ⟨rfl, hs, ho⟩
        go_wp2_with fail
        go_ret
        rw [HR.out]
        exact ⟨rfl, hs, ho⟩
    · have HM : Hid ((4611686018427387904 : Int) = (mc n : Int)) := by show (4611686018427387904 : Int) = (mc n : Int); unfold mc; rw [if_neg h3]; rfl
      clear hle hm2
      go_enter Try.func75, Try.ntmps75
      go_wp2_with fail
      all_goals
        refine (groups_any g st _ (mc n) _ H.out HM.out).mono ?_
        rintro e w1 ⟨rfl, hs, ho⟩
        go_wp2_with fail
        go_ret
        rw [HR.out]
        exact ⟨rfl, hs, ho⟩
end Go.Proofs.Ytcbnjilkmdofnaa
