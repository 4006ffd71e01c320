/- The layer's lives. -/
import Derived.Test.YtlhkcpfjnhbocaaKFrmI
import Derived.Lib.SlBytesConst
namespace Go.Proofs.Ytlhkcpfjnhbocaa
set_option linter.unusedVariables false
set_option linter.unusedSimpArgs false
open Go.RowKit

theorem cvk (w : World) (C : Array Value) (n c : Nat) : (convert 22 22 (.slice (some ⟨w.heap.size, 0, none⟩) n c)).run Try.prog (w.alloc (.cells C 5)) = .ok (.slice (some ⟨w.heap.size, 0, none⟩) n c) (w.alloc (.cells C 5 (C.size, C.size + 1))) :=
  Lib.run_convert_bytes_const (P := Try.prog) w 22 5 C n c Try.underlying22 Try.underlying5
set_option maxRecDepth 100000 in
theorem sum_123 : crcOf [49, 50, 51, 52, 53, 54, 55, 56, 57] = 3421780262 := by decide +kernel
/-- A literal that is marked reads as its bytes. -/
theorem Rd.lit (w : World) (l : List UInt8) (fz : Nat × Nat) (hl : l.length ≤ 9223372036854775807) : Rd (w.alloc (.cells (bcells l).toArray 5 fz)) (w.heap.size + 1) (.slice (some ⟨w.heap.size, 0, none⟩) l.length l.length) l := by
  refine ⟨_, _, rfl, Nat.le_refl _, ⟨hl, fun h => by cases h⟩, fun hp => ⟨w.heap.size, 0, rfl, by omega, fun i hi => ?_⟩⟩
  have h1 : (w.alloc (.cells (bcells l).toArray 5 fz)).cell? ⟨w.heap.size, 0 + i, none⟩ = (bcells l).toArray[0 + i]? := Go.Joins.cell_of_block (heap_alloc_new w _) (0 + i)
  rw [h1]
  simp [bcells, hi]
theorem frame_ab : frameF [97, 98] = [2, 97, 98] ++ loB 4 (crcOf [2, 97, 98]) := by rfl
theorem scan_ab : ScanR (frameF [97, 98]) [[97, 98]] 7 := by
  have h := next_frame [97, 98] [] (by decide)
  rw [List.append_nil] at h
  have hl : (frameF [97, 98]).length = 7 := by rw [frameF_length]; rfl
  have hd : (frameF [97, 98]).drop (frameLen ([97, 98] : List UInt8).length) = [] := List.drop_eq_nil_of_le (by rw [hl]; decide)
  exact .step (k := 7) (m := 0) h (by have e : frameLen ([97, 98] : List UInt8).length = 7 := by decide
                                      rw [e] at hd; rw [hd]; exact .stop next_nil)
set_option maxHeartbeats 2000000 in
set_option maxRecDepth 100000 in
theorem lives10_any (w : World) : Calls Try.prog 10 #[] w fun e w' => e = .returned (.bool true) ∧ Below w.heap.size w w' := by
  obtain ⟨w1, hw1⟩ : ∃ w1, w1 = w.alloc (.cells #[.int .u8 120] 5 (1, 2)) := ⟨_, rfl⟩
  obtain ⟨w2, hw2⟩ : ∃ w2, w2 = w1.alloc (.cells #[.int .u8 97, .int .u8 98] 5 (2, 3)) := ⟨_, rfl⟩
  have hz1 : w1.heap.size = w.heap.size + 1 := by rw [hw1]; simp
  have hz2 : w2.heap.size = w.heap.size + 2 := by rw [hw2]; simp [hz1]
  have h1 : (convert 22 22 (.slice (some ⟨w.heap.size, 0, none⟩) 1 1)).run Try.prog (w.alloc (.cells #[.int .u8 120] 5)) = .ok (.slice (some ⟨w.heap.size, 0, none⟩) 1 1) w1 := by rw [hw1]; exact cvk w #[.int .u8 120] 1 1
  have h2 : (convert 22 22 (.slice (some ⟨w.heap.size + 1, 0, none⟩) 2 2)).run Try.prog (w1.alloc (.cells #[.int .u8 97, .int .u8 98] 5)) = .ok (.slice (some ⟨w.heap.size + 1, 0, none⟩) 2 2) w2 := by rw [hw2, ← hz1]; exact cvk w1 #[.int .u8 97, .int .u8 98] 2 2
  have hb1 : Below w.heap.size w w1 := by rw [hw1]; exact (Below.refl _ _).alloc (Nat.le_refl _) _
  have hb2 : Below w1.heap.size w1 w2 := by rw [hw2]; exact (Below.refl _ _).alloc (Nat.le_refl _) _
  have r1 : Rd w2 w2.heap.size (.slice (some ⟨w.heap.size, 0, none⟩) 1 1) [120] := by
    have := Rd.lit w [120] (1, 2) (by decide)
    rw [show (bcells [120]).toArray = #[.int .u8 120] from rfl, ← hw1, ← hz1] at this
    exact (this.keep hb2).upY (by omega)
  have r2 : Rd w2 w2.heap.size (.slice (some ⟨w.heap.size + 1, 0, none⟩) 2 2) [97, 98] := by
    have := Rd.lit w1 [97, 98] (2, 3) (by decide)
    rw [show (bcells [97, 98]).toArray = #[.int .u8 97, .int .u8 98] from rfl, ← hw2, hz1] at this
    exact this.upY (by omega)
  have HP := Lib.hid (fput_any _ _ _ _ w2 r1 r2 (by decide) (by decide))
  have HB := Lib.hid (grow_trans hb1 hb2)
  have HW1 := Lib.hid hw1
  have HZ1 := Lib.hid hz1
  have HZ2 := Lib.hid hz2
  clear hb1 hb2 r1 r2 hw2 hw1 hz2
  go_enter Try.func10, Try.ntmps10
  go_wp2_with fail
  refine HP.out.mono ?_
  rintro e w3 ⟨v3, rfl, hv3, hb3⟩
  have hl3 : (([120] : List UInt8) ++ frameF [97, 98]).length = 8 := by rw [List.length_append, frameF_length]; rfl
  have HB3 := Lib.hid (grow_trans HB.out hb3)
  have hr3 := hv3.rdY
  obtain ⟨g, cap, hsh, -, hg3, hc3⟩ := hv3.shape (by rw [hl3]; decide)
  rw [hl3] at hsh hc3
  subst hsh
  have hcut : Rd w3 w3.heap.size (.slice (some ⟨g, 1, none⟩) 7 (cap - 1)) (frameF [97, 98]) := by
    have h8 := hr3
    rw [show (8 : Nat) = (([120] : List UInt8) ++ frameF [97, 98]).length from hl3.symm] at h8
    have := h8.cut (k := 1) (by rw [hl3]; decide)
    rw [if_neg (by omega), hl3] at this
    simpa using this
  have HS := Lib.hid (fscan_any _ _ _ _ w3 hcut (by rw [frameF_length]; decide) scan_ab)
  have hc1 : 1 ≤ cap := by omega
  clear hv3 hb3 hr3 hcut hl3 h1 h2 HP HB
  go_wp2_with fail
  refine HS.out.mono ?_
  rintro e w4 ⟨v4, rfl, hv4, hb4⟩
  obtain ⟨A4, c4, rfl, -, -⟩ := hv4.shape
  have hat := hv4.at rfl
  obtain ⟨b, off, rfl, hb, hcell⟩ := hat (by decide)
  obtain ⟨v5, c5, r5⟩ := hcell 0 (by decide)
  have c5 : w4.cell? ⟨b, off, none⟩ = some v5 := c5
  obtain ⟨A5, d5, rfl⟩ := r5.shapeY
  have hstr : (convert 22 9 (.slice A5 2 d5)).run Try.prog w4 = .ok (.string ⟨#[97, 98]⟩) w4 := r5.strY
  have HB4 := Lib.hid (grow_trans HB3.out hb4)
  obtain ⟨w5, hw5⟩ : ∃ w5, w5 = w4.alloc (.cells #[.int .u8 49, .int .u8 50, .int .u8 51, .int .u8 52, .int .u8 53, .int .u8 54, .int .u8 55, .int .u8 56, .int .u8 57] 5 (9, 10)) := ⟨_, rfl⟩
  have k1 : (convert 22 22 (.slice (some ⟨w4.heap.size, 0, none⟩) 9 9)).run Try.prog (w4.alloc (.cells #[.int .u8 49, .int .u8 50, .int .u8 51, .int .u8 52, .int .u8 53, .int .u8 54, .int .u8 55, .int .u8 56, .int .u8 57] 5)) = .ok (.slice (some ⟨w4.heap.size, 0, none⟩) 9 9) w5 := by rw [hw5]; exact cvk w4 #[.int .u8 49, .int .u8 50, .int .u8 51, .int .u8 52, .int .u8 53, .int .u8 54, .int .u8 55, .int .u8 56, .int .u8 57] 9 9
  have hb5 : Below w4.heap.size w4 w5 := by rw [hw5]; exact (Below.refl _ _).alloc (Nat.le_refl _) _
  have hz5 : w5.heap.size = w4.heap.size + 1 := by rw [hw5]; simp
  have r6 : Rd w5 w5.heap.size (.slice (some ⟨w4.heap.size, 0, none⟩) 9 9) [49, 50, 51, 52, 53, 54, 55, 56, 57] := by
    have := Rd.lit w4 [49, 50, 51, 52, 53, 54, 55, 56, 57] (9, 10) (by decide)
    rw [show (bcells [49, 50, 51, 52, 53, 54, 55, 56, 57]).toArray = #[.int .u8 49, .int .u8 50, .int .u8 51, .int .u8 52, .int .u8 53, .int .u8 54, .int .u8 55, .int .u8 56, .int .u8 57] from rfl, ← hw5, ← hz5] at this
    exact this
  have HSUM := Lib.hid (sum_any _ _ w5 _ r6 (by decide))
  rw [sum_123] at HSUM
  obtain ⟨w6, hw6⟩ : ∃ w6, w6 = w5.alloc (.cells #[.int .u8 97, .int .u8 98] 5 (2, 3)) := ⟨_, rfl⟩
  have k2 : (convert 22 22 (.slice (some ⟨w5.heap.size, 0, none⟩) 2 2)).run Try.prog (w5.alloc (.cells #[.int .u8 97, .int .u8 98] 5)) = .ok (.slice (some ⟨w5.heap.size, 0, none⟩) 2 2) w6 := by rw [hw6]; exact cvk w5 #[.int .u8 97, .int .u8 98] 2 2
  have hb6 : Below w5.heap.size w5 w6 := by rw [hw6]; exact (Below.refl _ _).alloc (Nat.le_refl _) _
  have HB6 := Lib.hid (grow_trans (grow_trans HB4.out hb5) hb6)
  clear hv4 hb4 hat hcell r5 hw5 hb5 hz5 r6 hw6 hb6 HS
  go_wp2_with fail
  refine HSUM.out.mono ?_
  rintro e w5' ⟨rfl, rfl⟩
  go_wp2_with fail
  refine (fsize_any _ 2 2 w6 (by decide)).mono ?_
  rintro e w7 ⟨rfl, hb7⟩
  have HB7 := Lib.hid (grow_trans HB6.out hb7)
  have e7 : (((if 2 ≤ 65536 then frameLen 2 else 0 : Nat)) : Int) = 7 := by decide
  rw [e7]
  clear hb7 e7
  go_wp2_with fail
  go_ret
  exact ⟨rfl, HB7.out⟩
end Go.Proofs.Ytlhkcpfjnhbocaa
