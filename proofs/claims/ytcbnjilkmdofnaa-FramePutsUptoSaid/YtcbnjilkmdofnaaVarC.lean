/- The code of a text, and the document's own answers for numbers, counts and texts, call by call. -/
import Derived.Test.YtcbnjilkmdofnaaVarB
namespace Go.Proofs.Ytcbnjilkmdofnaa
set_option linter.unusedVariables false
set_option linter.unusedSimpArgs false
open Go.RowKit

/-- A text's code. -/
def txt (s : ByteArray) : List UInt8 := grp s.size ++ s.data.toList
theorem strCells_bcells (s : ByteArray) : Lib.strCells s = bcells s.data.toList := rfl
theorem below_toStart {w w1 w2 : World} (h : Below w.heap.size w w1) (h2 : Below w1.heap.size w1 w2) : Below w.heap.size w w2 := h.trans (h2.mono h.size)
theorem below_of_grown {B : Nat} {w w1 : World} {row : Option Nat} (hg : w.grownBy w1 row) (hB : B ≤ w.heap.size) (hr : ∀ k, row = some k → B ≤ k) : Below B w w1 := (Below.refl _ _).grown hg hB hr

set_option maxHeartbeats 1000000 in
set_option maxRecDepth 1000000 in
theorem text_any (s : ByteArray) (w : World) (hs : s.size ≤ 140737488351232) :
    Calls Try.prog 54 #[.string s] w (Gives (txt s) w) := by
  obtain ⟨i0, hi, hz0, hz1, hz2⟩ := info_parts Try.infoU8
  have HS := Lib.hid hs
  have hs' : (s.size : Int) ≤ 9223372036854775000 := by omega
  clear hs
  go_enter Try.func54, Try.ntmps54
  go_wp2_with (at_make; go_must (refine wpList_make_own _ rfl _ _ 22 rfl w.heap.size 5 i0 (.int .u8 0) 1 Try.underlying22 hi hz0 hz1 _ _ _ (10 + s.size) rfl rfl ?b0 ?b1 ?b2 ?b3 ?_))
  case b0 => omega
  case b1 => have := HS.out; rw [hz2]; omega
  case b2 => have := HS.out; unfold maxLen; omega
  case b3 => exact Nat.le_refl _
  intro w1 hown hg
  have hb1 : Below w.heap.size w w1 := below_of_grown hg (Nat.le_refl _) (fun k hk => by cases hk)
  have hsz1 := hb1.size
  clear hg
  go_wp2_with fail
  refine (puts_any w.heap.size _ [] s.size _ (by omega) hown hsz1 (by simp)).mono ?_
  rintro e w2 ⟨v, rfl, hv, hb⟩
  have hb2 : Below w.heap.size w w2 := hb1.trans hb
  have hsz2 := hb2.size
  have hgl := grp_length s.size
  rw [List.nil_append] at hv
  have hv' : w2.ownsRow w.heap.size 5 1 v (grp s.size).length (bcells (grp s.size)) := hv
  go_wp2_with (at_builtin; go_must (refine Lib.wpList_append_own_string _ rfl _ _ 22 9 rfl w.heap.size 5 i0 Try.underlying22 Try.underlying9 hi hz0 hz1 hz2 _ _ _ rfl hv' s rfl ?c0 ?c1 ?c2 ?_))
  case c0 => have := HS.out; unfold maxLen; omega
  case c1 => have := HS.out; omega
  case c2 => exact hsz2
  intro v3 w3 hown3 hg3 _
  have hb3 : Below w.heap.size w w3 := hb2.grown hg3 hsz2 (fun k hk => (hv'.lt k hk).1)
  have hfin : OwnB w3 w.heap.size v3 (txt s) := by
    unfold OwnB txt
    rw [bcells_append, List.length_append]
    exact hown3
  clear hown3 hg3 hv hv'
  go_wp2_with fail
  go_ret
  exact ⟨_, rfl, hfin, hb3⟩

theorem wrap_div (m : Nat) (h : m < 18446744073709551616) : IntKind.u64.wrap ((m : Int) / 128) = ((m / 128 : Nat) : Int) := by rw [IntKind.wrap_u64]; omega
theorem u8_add128 (n : Nat) : IntKind.u8.wrap ((n : Int) % 128 + 128) = ((UInt8.ofNat (n % 128 + 128)).toNat : Int) := by
  rw [ofNat_toNat _ (by omega), IntKind.wrap_u8']; omega

set_option maxHeartbeats 1000000 in
set_option maxRecDepth 1000000 in
theorem rgroups_any (n : Nat) (w : World) (hn : n < 18446744073709551616) :
    Calls Try.prog 74 #[.int .u64 n] w (Gives (grp n) w) := by
  obtain ⟨i0, hi, hz0, hz1, hz2⟩ := info_parts Try.infoU8
  have HN := Lib.hid hn
  clear hn
  go_enter Try.func74, Try.ntmps74
  go_wp2
  go_loopw [0, 3] (fun n1 v1 wr => ∃ (m : Nat) (acc : List UInt8), n1 = .int .u64 m ∧ Hid (m < 18446744073709551616 ∧ acc ++ grp m = grp n) ∧ OwnB wr w.heap.size v1 acc ∧ Below w.heap.size w wr) (fun n1 _ _ => (intOf n1).toNat)
  case atStart => exact ⟨n, [], rfl, ⟨HN.out, rfl⟩, World.ownsRow_nil _ _ _ _, Below.refl _ _⟩
  case round =>
    obtain ⟨m, acc, rfl, HM, hown1, hbel⟩ := hrel
    have hal : acc.length ≤ 11 := by
      have h1 := congrArg List.length HM.out.2
      have := (grp_length n).1
      simp at h1; omega
    have hsz := hbel.size
    have hown2 : wr.ownsRow w.heap.size 5 1 _ acc.length (bcells acc) := hown1
    by_cases hm : 128 ≤ m
    · go_wp2_with (at_builtin; go_must (refine wpList_append_own _ rfl _ _ 22 rfl w.heap.size 5 i0 (.int .u8 0) 1 1 Try.underlying22 hi hz0 hz1 hz2 rfl (by decide) _ _ _ rfl (hown2.alloc _) ⟨wr.heap.size, 0, none⟩ 1 1 [.int .u8 ((m : Int) % 128 + 128)] rfl rfl ?c1 ?c2 ?c3 ?c4 ?c5 ?_))
      case c1 => exact cell_one_new _ _ _
      case c2 => intro u hu; simp at hu; subst hu; rfl
      case c3 => unfold maxLen; omega
      case c4 => omega
      case c5 => simp; omega
      intro v2 w2 hown3 hg _
      have hb2 := below_app hbel (Nat.le_refl _) hown1 hg
      have hs2 := OwnB_step (l := acc) (b := UInt8.ofNat (m % 128 + 128)) (by rw [ofNat_toNat _ (by omega)]; omega) hown3
      clear hown3 hg hown2 hown1
      go_wp2
      go_roundw
      case rel => exact ⟨m / 128, acc ++ [UInt8.ofNat (m % 128 + 128)], by rw [wrap_div m HM.out.1], ⟨by have := HM.out.1; omega, by
        rw [List.append_assoc, List.singleton_append, ← grp_large m hm HM.out.1]; exact HM.out.2⟩, hs2, hb2⟩
      case measure => simp only [intOf, wrap_div m HM.out.1]; omega
    · have hm' : m < 128 := by omega
      go_wp2_with (at_builtin; go_must (refine wpList_append_own _ rfl _ _ 22 rfl w.heap.size 5 i0 (.int .u8 0) 1 1 Try.underlying22 hi hz0 hz1 hz2 rfl (by decide) _ _ _ rfl (hown2.alloc _) ⟨wr.heap.size, 0, none⟩ 1 1 [.int .u8 (m : Int)] rfl rfl ?d1 ?d2 ?d3 ?d4 ?d5 ?_))
      case d1 => exact cell_one_new _ _ _
      case d2 => intro u hu; simp at hu; subst hu; rfl
      case d3 => unfold maxLen; omega
      case d4 => omega
      case d5 => simp; omega
      intro v2 w2 hown3 hg _
      have hb2 := below_app hbel (Nat.le_refl _) hown1 hg
      have hs2 := OwnB_step (l := acc) (u8_last m hm') hown3
      clear hown3 hg hown2 hown1
      go_wp2
      go_ret
      exact ⟨_, rfl, by rw [← HM.out.2, grp_small m hm']; exact hs2, hb2⟩

set_option maxHeartbeats 400000 in
theorem rcount_any (n : Nat) (w : World) (h : n ≤ 9223372036854775807) :
    Calls Try.prog 58 #[.int .i64 n] w (Gives (grp n) w) := by
  go_enter Try.func58, Try.ntmps58
  go_wp2_with fail
  refine (rgroups_any _ _ (by omega)).mono ?_
  rintro e w1 ⟨v, rfl, hv, hb⟩
  go_wp2_with fail
  go_ret
  exact ⟨_, rfl, hv, hb⟩
end Go.Proofs.Ytcbnjilkmdofnaa
