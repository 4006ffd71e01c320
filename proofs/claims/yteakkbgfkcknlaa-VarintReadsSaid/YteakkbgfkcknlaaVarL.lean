/- What must come of every program at the first layer, comes. -/
import Derived.Test.YteakkbgfkcknlaaVarI
namespace Go.Proofs.Yteakkbgfkcknlaa
open Go.RowKit

theorem grp300 : grp 300 = [172, 2] := by decide
theorem grp1 : grp (zig (-1)) = [1] := by decide
theorem grp64 : grp (zig 64) = [128, 1] := by decide
theorem txtab : txt ⟨#[97, 98]⟩ = [2, 97, 98] := by decide

theorem rd1 : rdInt (some [1, 2, 97, 98]) = (-1, some [2, 97, 98]) := by decide
theorem rd2 : rdText 9 (some [2, 97, 98]) = ([97, 98], some []) := by decide
theorem rd3 : rdByte (some []) = (0, none) := by decide
theorem SrcL.mk {w : World} {g : Nat} {l : List UInt8} (h : Src w g ⟨l.toArray⟩ false) (hl : l.length ≤ 9223372036854775807) : SrcL w g (some l) := ⟨h, hl⟩
theorem sleft_any (g : Nat) (l : List UInt8) (w : World) (h : SrcL w g (some l)) : Calls Try.prog 30 #[.pointer (some ⟨g, 0, none⟩)] w fun e w' => e = .returned (.int .i64 l.length) ∧ w = w' :=
  (left_any g _ false w h.1).mono fun e w' ⟨he, hw⟩ => ⟨by rw [he, size_mk]; rfl, hw⟩
theorem sleft_none (g : Nat) (w : World) (h : SrcL w g none) : Calls Try.prog 30 #[.pointer (some ⟨g, 0, none⟩)] w fun e w' => e = .returned (.int .i64 0) ∧ w = w' :=
  (left_any g _ true w h).mono fun e w' ⟨he, hw⟩ => ⟨he, hw⟩
theorem isEmpty_mk (l : List UInt8) : (⟨l.toArray⟩ : ByteArray).toList.isEmpty = l.isEmpty := by rw [ByteArray.toList_eq]
theorem sdone_any (g : Nat) (l : List UInt8) (w : World) (h : SrcL w g (some l)) : Calls Try.prog 33 #[.pointer (some ⟨g, 0, none⟩)] w fun e w' => e = .returned (.int .i64 (if l.isEmpty then 0 else 10)) ∧ w = w' :=
  (done_any g _ false w h.1).mono fun e w' ⟨he, hw⟩ => ⟨by rw [he, isEmpty_mk]; cases l.isEmpty <;> rfl, hw⟩
theorem sdone_none (g : Nat) (w : World) (h : SrcL w g none) : Calls Try.prog 33 #[.pointer (some ⟨g, 0, none⟩)] w fun e w' => e = .returned (.int .i64 10) ∧ w = w' :=
  (done_any g _ true w h).mono fun e w' ⟨he, hw⟩ => ⟨he, hw⟩
theorem sbad_any (g : Nat) (st : Option (List UInt8)) (w : World) (h : SrcL w g st) : Calls Try.prog 32 #[.pointer (some ⟨g, 0, none⟩)] w fun e w' => e = .returned (.bool st.isNone) ∧ w = w' := by
  cases st with
  | none => exact bad_any g _ true w h
  | some l => exact bad_any g _ false w h.1

set_option maxHeartbeats 1000000 in
theorem lives1_any (w : World) : Calls Try.prog 14 #[] w fun e w' => e = .returned (.bool true) ∧ Below w.heap.size w w' := by
  go_enter Try.func14, Try.ntmps14
  go_wp2_with fail
  refine (count_any 300 _ (by decide)).mono ?_
  rintro e w1 (⟨_, _, v, rfl, hv, hb1⟩ | ⟨h, _⟩)
  rotate_left
  · omega
  rw [show grp (300 : Int).toNat = [172, 2] from grp300] at hv
  go_wp2_with fail
  refine (count_any (-1) _ (by decide)).mono ?_
  rintro e w1' (⟨h, _⟩ | ⟨_, rfl, rfl⟩)
  · omega
  have hL : OwnB (w1.alloc (.cells #[.int .u8 1, .int .u8 2, .int .u8 97, .int .u8 98] 5)) w1.heap.size (.slice (some ⟨w1.heap.size, 0, none⟩) 4 4) [1, 2, 97, 98] := World.ownsRow_lit w1 _ 4 (Nat.le_refl _) (by decide) rfl
  have hcL := hL.conv
  have hA : Below w.heap.size w (w1.alloc (.cells #[.int .u8 1, .int .u8 2, .int .u8 97, .int .u8 98] 5)) := hb1.alloc hb1.size _
  have hVA := hv.below ((Below.refl _ _).alloc (Nat.le_refl _) (.cells #[.int .u8 1, .int .u8 2, .int .u8 97, .int .u8 98] 5))
  have hge := hb1.size
  have HV := Lib.hid hVA
  have HA := Lib.hid hA
  have HC := Lib.hid hcL
  clear hv hb1 hL hcL hA hVA
  go_wp2_with fail
  refine (from_any _ _ _ HC.out).mono ?_
  rintro e w2 ⟨rfl, hs, hb⟩
  have hB2 := below_toStart HA.out hb
  have hcV := (HV.out.below hb).conv
  have hS : SrcL w2 (w1.heap.size + 1) (some [1, 2, 97, 98]) := SrcL.mk (by simpa using hs) (by decide)
  have HS := Lib.hid hS
  have HB := Lib.hid hB2
  clear hs hB2 hb hS
  go_wp2_with fail
  refine (int_any (-1) _ (by decide) (by decide)).mono ?_
  rintro e w3 ⟨v3, rfl, hv, hb⟩
  rw [grp1] at hv
  have hc3 := hv.conv
  have HS3 := Lib.hid (HS.out.keep hb HS.out.lt)
  have HB3 := Lib.hid (below_toStart HB.out hb)
  clear hv hb hcV HS HB HV HA HC
  go_wp2_with fail
  refine (int_any 64 _ (by decide) (by decide)).mono ?_
  rintro e w4 ⟨v4, rfl, hv, hb⟩
  rw [grp64] at hv
  have hc4 := hv.conv
  have HS4 := Lib.hid (HS3.out.keep hb HS3.out.lt)
  have HB4 := Lib.hid (below_toStart HB3.out hb)
  clear hv hb hc3 HS3 HB3
  go_wp2_with fail
  refine (text_any _ _ (by decide)).mono ?_
  rintro e w5 ⟨v5, rfl, hv, hb⟩
  rw [txtab] at hv
  have hc5 := hv.conv
  have HS5 := Lib.hid (HS4.out.keep hb HS4.out.lt)
  have HB5 := Lib.hid (below_toStart HB4.out hb)
  clear hv hb hc4 HS4 HB4
  go_wp2_with fail
  refine (sint_any _ _ _ HS5.out).mono ?_
  rw [rd1]
  rintro e w6 ⟨rfl, hs, ho⟩
  have HS6 := Lib.hid hs
  have hlt := hs.lt
  have HB6 := Lib.hid (HB5.out.trans (ho.below (B := w.heap.size) HB5.out.size (by omega)))
  clear hs ho HS5 HB5 hc5
  go_wp2_with fail
  refine (stext_any _ _ _ _ HS6.out (by decide)).mono ?_
  rw [rd2]
  rintro e w7 ⟨rfl, hs, ho⟩
  have HS7 := Lib.hid hs
  have HB7 := Lib.hid (HB6.out.trans (ho.below (B := w.heap.size) HB6.out.size (by omega)))
  clear hs ho HS6 HB6 hlt
  go_wp2_with fail
  refine (sleft_any _ _ _ HS7.out).mono ?_
  rintro e w8 ⟨rfl, rfl⟩
  go_wp2_with fail
  refine (sdone_any _ _ _ HS7.out).mono ?_
  rintro e w8 ⟨rfl, rfl⟩
  go_wp2_with fail
  refine (sbyte_any _ _ _ HS7.out).mono ?_
  rw [rd3]
  rintro e w8 ⟨rfl, hs, ho⟩
  have HS8 := Lib.hid hs
  have HB8 := Lib.hid (HB7.out.trans (ho.below (B := w.heap.size) HB7.out.size (by omega)))
  clear hs ho HS7 HB7
  go_wp2_with fail
  refine (sbad_any _ _ _ HS8.out).mono ?_
  rintro e w9 ⟨rfl, rfl⟩
  go_wp2_with fail
  refine (sdone_none _ _ HS8.out).mono ?_
  rintro e w9 ⟨rfl, rfl⟩
  go_wp2_with fail
  go_ret
  exact ⟨rfl, HB8.out⟩
end Go.Proofs.Yteakkbgfkcknlaa
