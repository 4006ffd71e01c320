/- Which texts may be names, as the document's answer has it. -/
import Derived.Test.YthmgbginelbcoaaStr
namespace Go.Proofs.Ythmgbginelbcoaa
set_option linter.unusedVariables false
set_option linter.unusedSimpArgs false
open Go.RowKit

set_option maxHeartbeats 1000000 in
theorem rname_any (s : ByteArray) (w : World) (hs : s.size ≤ 9223372036854775807) : Calls Try.prog 23 #[.string s] w fun e w' => e = .returned (.bool (nameB s.data.toList)) ∧ w = w' := by
  have HS := Lib.hid hs
  clear hs
  go_enter Try.func23, Try.ntmps23
  go_wp2
  go_loopw [3] (fun i wr => ∃ k : Nat, i = .int .i64 k ∧ k ≤ s.size ∧ wr = w ∧ ∀ j (h : j < s.size), j < k → s[j].toNat ≠ 46) (fun i _ => s.size - (intOf i).toNat)
  case atStart => exact ⟨0, rfl, by omega, rfl, fun j _ h => absurd h (by omega)⟩
  case round =>
    obtain ⟨k, rfl, hk, rfl, hj⟩ := hrel
    have HJ := Lib.hid hj
    have hs := HS.out
    clear hj
    by_cases hlt : k < s.size
    · by_cases hb : s[k].toNat = 46
      · go_wp2
        go_ret
        exact ⟨ret_bool (name_false fun h => h.2.2.2 k hlt hb), rfl⟩
      · go_wp2
        go_roundw
        case rel => exact ⟨k + 1, by go_num, by omega, trivial, fun j h hjk => by
          by_cases e : j = k
          · subst e; exact hb
          · exact HJ.out j h (by omega)⟩
        case measure => simp [intOf]; omega
    · obtain rfl : k = s.size := by omega
      clear hlt hk
      by_cases h1 : 1 ≤ s.size
      · by_cases h2 : s.size ≤ 32
        · by_cases h3 : s[0].toNat = 36
          · go_wp2
            go_ret
            exact ⟨ret_bool (name_false fun h => h.2.2.1 h1 h3), rfl⟩
          · go_wp2
            go_ret
            exact ⟨ret_bool (((bne_iff_ne).2 fun h => h3 (by omega)).trans (name_true ⟨h1, h2, fun _ => h3, fun i h => HJ.out i h h⟩)), rfl⟩
        · go_wp2
          go_ret
          exact ⟨ret_bool (name_false fun h => h2 h.2.1), rfl⟩
      · go_wp2
        go_ret
        exact ⟨ret_bool (name_false fun h => h1 h.1), rfl⟩
end Go.Proofs.Ythmgbginelbcoaa
