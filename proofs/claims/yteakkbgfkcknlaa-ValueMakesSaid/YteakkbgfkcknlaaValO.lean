/- The order of numbers, of texts, and the first that is not nought. -/
import Derived.Test.YteakkbgfkcknlaaValC
import Derived.Test.YteakkbgfkcknlaaOrd
namespace Go.Proofs.Yteakkbgfkcknlaa
open Go.RowKit

set_option maxHeartbeats 400000 in
theorem nanI_any (x : Int) (w : World) : Calls Try.prog 94 #[.int .i64 x] w fun e w' => e = .returned (.bool false) ∧ w = w' := by
  go_enter Try.func94, Try.ntmps94
  go_wp2
  go_ret
  exact ⟨rfl, rfl⟩
set_option maxHeartbeats 400000 in
theorem nanS_any (x : ByteArray) (w : World) : Calls Try.prog 95 #[.string x] w fun e w' => e = .returned (.bool false) ∧ w = w' := by
  go_enter Try.func95, Try.ntmps95
  go_wp2
  go_ret
  exact ⟨rfl, rfl⟩
set_option maxHeartbeats 400000 in
theorem cmpI_any (a b : Int) (w : World) : Calls Try.prog 88 #[.int .i64 a, .int .i64 b] w fun e w' => e = .returned (.int .i64 (cmpI a b)) ∧ w = w' := by
  have e1 : a < b → cmpI a b = -1 := fun h => by unfold cmpI; rw [if_pos h]
  have e2 : ¬ a < b → b < a → cmpI a b = 1 := fun h h2 => by unfold cmpI; rw [if_neg h, if_pos h2]
  have e3 : ¬ a < b → ¬ b < a → cmpI a b = 0 := fun h h2 => by unfold cmpI; rw [if_neg h, if_neg h2]
  generalize cmpI a b = R at *
  have E1 := Lib.hid e1
  have E2 := Lib.hid e2
  have E3 := Lib.hid e3
  clear e1 e2 e3
  by_cases h1 : a < b
  · go_enter Try.func88, Try.ntmps88
    go_wp2_with (go_at_call 94; refine (nanI_any _ _).mono ?_; rintro e w' ⟨rfl, rfl⟩)
    go_ret
    exact ⟨ret_i64 (E1.out h1).symm, rfl⟩
  · by_cases h2 : b < a
    · go_enter Try.func88, Try.ntmps88
      go_wp2_with (go_at_call 94; refine (nanI_any _ _).mono ?_; rintro e w' ⟨rfl, rfl⟩)
      go_ret
      exact ⟨ret_i64 (E2.out h1 h2).symm, rfl⟩
    · go_enter Try.func88, Try.ntmps88
      go_wp2_with (go_at_call 94; refine (nanI_any _ _).mono ?_; rintro e w' ⟨rfl, rfl⟩)
      go_ret
      exact ⟨ret_i64 (E3.out h1 h2).symm, rfl⟩
set_option maxHeartbeats 400000 in
theorem cmpS_any (a b : ByteArray) (w : World) : Calls Try.prog 89 #[.string a, .string b] w fun e w' => e = .returned (.int .i64 (cmpB a.toList b.toList)) ∧ w = w' := by
  have e1 : Op.bytesLess a.toList b.toList = true → cmpB a.toList b.toList = -1 := fun h => by unfold cmpB; rw [if_pos h]
  have e2 : Op.bytesLess a.toList b.toList = false → (!a.toList == b.toList) = true → cmpB a.toList b.toList = 1 := fun h h2 => by unfold cmpB; rw [if_neg (by rw [h]; exact Bool.false_ne_true), if_neg (by simpa using h2)]
  have e3 : Op.bytesLess a.toList b.toList = false → (!a.toList == b.toList) = false → cmpB a.toList b.toList = 0 := fun h h2 => by unfold cmpB; rw [if_neg (by rw [h]; exact Bool.false_ne_true), if_pos (by simpa using h2)]
  generalize cmpB a.toList b.toList = R at *
  have E1 := Lib.hid e1
  have E2 := Lib.hid e2
  have E3 := Lib.hid e3
  clear e1 e2 e3
  go_enter Try.func89, Try.ntmps89
  go_wp2_with (go_at_call 95; refine (nanS_any _ _).mono ?_; rintro e w' ⟨rfl, rfl⟩)
  · go_ret
    exact ⟨ret_i64 (E1.out (by assumption)).symm, rfl⟩
  · go_ret
    exact ⟨ret_i64 (E2.out (by assumption) (by assumption)).symm, rfl⟩
  · go_ret
    exact ⟨ret_i64 (E3.out (by assumption) (by assumption)).symm, rfl⟩

set_option maxHeartbeats 400000 in
theorem or3_any (b : Nat) (c : Nat) (x y z : Int) (w : World) (h0 : w.cell? ⟨b, 0, none⟩ = some (.int .i64 x)) (h1 : w.cell? ⟨b, 1, none⟩ = some (.int .i64 y)) (h2 : w.cell? ⟨b, 2, none⟩ = some (.int .i64 z)) :
    Calls Try.prog 87 #[.slice (some ⟨b, 0, none⟩) 3 c] w fun e w' => e = .returned (.int .i64 (ore x (ore y z))) ∧ w = w' := by
  have H0 := Lib.hid h0
  have H1 := Lib.hid h1
  have H2 := Lib.hid h2
  have HE : Hid (∀ R, R = ore x (ore y z) → (x ≠ 0 → R = x) ∧ (x = 0 → y ≠ 0 → R = y) ∧ (x = 0 → y = 0 → R = z)) := by
    rintro R rfl
    unfold ore
    refine ⟨fun h => by rw [if_neg h], fun h h' => by rw [if_pos h, if_neg h'], fun h h' => by rw [if_pos h, if_pos h']⟩
  obtain ⟨R, hR⟩ : ∃ R, R = ore x (ore y z) := ⟨_, rfl⟩
  rw [← hR]
  have HF := Lib.hid (HE.out R hR)
  clear HE hR h0 h1 h2
  go_enter Try.func87, Try.ntmps87
  go_wp2_with fail
  go_loopw [8] (fun i wr => ∃ k : Nat, i = .int .i64 k ∧ k ≤ 3 ∧ wr = w ∧ (0 < k → x = 0) ∧ (1 < k → y = 0) ∧ (2 < k → z = 0)) (fun i _ => 3 - (intOf i).toNat)
  case atStart => exact ⟨0, rfl, by omega, rfl, fun h => absurd h (by omega), fun h => absurd h (by omega), fun h => absurd h (by omega)⟩
  case round =>
    obtain ⟨k, rfl, hk, rfl, k1, k2, k3⟩ := hrel
    obtain rfl | rfl | rfl | rfl : k = 0 ∨ k = 1 ∨ k = 2 ∨ k = 3 := by omega
    · have g0 := H0.out
      by_cases hx : x = 0
      · go_wp2_with fail
        go_roundw
        case rel => exact ⟨1, rfl, by omega, trivial, fun _ => hx, fun h => absurd h (by omega), fun h => absurd h (by omega)⟩
        case measure => simp [intOf]
      · go_wp2_with fail
        go_ret
        exact ⟨ret_i64 (HF.out.1 hx).symm, rfl⟩
    · have g0 := H1.out
      have hx := k1 (by omega)
      by_cases hy : y = 0
      · go_wp2_with fail
        go_roundw
        case rel => exact ⟨2, rfl, by omega, trivial, fun _ => hx, fun _ => hy, fun h => absurd h (by omega)⟩
        case measure => simp [intOf]
      · go_wp2_with fail
        go_ret
        exact ⟨ret_i64 (HF.out.2.1 hx hy).symm, rfl⟩
    · have g0 := H2.out
      have hx := k1 (by omega)
      have hy := k2 (by omega)
      by_cases hz : z = 0
      · go_wp2_with fail
        go_roundw
        case rel => exact ⟨3, rfl, by omega, trivial, fun _ => hx, fun _ => hy, fun _ => hz⟩
        case measure => simp [intOf]
      · go_wp2_with fail
        go_ret
        exact ⟨ret_i64 (HF.out.2.2 hx hy).symm, rfl⟩
    · have hx := k1 (by omega)
      have hy := k2 (by omega)
      have hz := k3 (by omega)
      go_wp2_with fail
      go_ret
      exact ⟨ret_i64 (by rw [HF.out.2.2 hx hy, hz]), rfl⟩
end Go.Proofs.Yteakkbgfkcknlaa
