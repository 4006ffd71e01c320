/- What must come of every program of the layer of files. -/
import Derived.Test.YtclgekmpldeedaaFlQ
import Derived.Lib.SlBytesConst
namespace Go.Proofs.Ytclgekmpldeedaa
set_option linter.unusedVariables false
set_option linter.unusedSimpArgs false
open Go.RowKit Go.Maps
set_option maxRecDepth 100000
def dA1 : DiskM := (DiskM.new.app [102] [97, 98]).2
def dA2 : DiskM := (dA1.snc [102]).2
def dA3 : DiskM := (dA2.app [102] [99, 100]).2
def dA4 : DiskM := (dA3.crash [([102], 1)]).2
def dA5 : DiskM := (dA4.stop 0 1).2
def dA6 : DiskM := (dA5.app [102] [120, 121]).2
theorem lA1 : DiskM.new.app [102] [97, 98] = (0, dA1) := rfl
theorem lA2 : dA1.snc [102] = (0, dA2) := rfl
theorem lA3 : dA2.app [102] [99, 100] = (0, dA3) := rfl
theorem lA4 : dA3.crash [([102], 1)] = (0, dA4) := rfl
theorem lA5 : dA4.stop 0 1 = (0, dA5) := rfl
theorem lA6 : dA5.app [102] [120, 121] = (90, dA6) := rfl
theorem lR1 : dA4.read [102] = ([97, 98, 99], 0) := rfl
theorem lR2 : dA4.read [103] = ([], 4) := rfl
theorem lF4 : dA4.file [102] = ⟨[97, 98, 99], 3⟩ := rfl
theorem lC4 : dA4.cnt = 1 := rfl
theorem lG4 : dA4.gone = false := rfl
theorem lG6 : dA6.gone = true := rfl
theorem rd_two (w : World) (a b : UInt8) : Rd (w.alloc (.cells #[.int .u8 (a.toNat : Int), .int .u8 (b.toNat : Int)] 5 (2, 3))) (w.heap.size + 1) (.slice (some ⟨w.heap.size, 0, none⟩) 2 2) [a, b] := by
  have h := heap_alloc_new w (.cells #[.int .u8 (a.toNat : Int), .int .u8 (b.toNat : Int)] 5 (2, 3))
  refine ⟨some ⟨w.heap.size, 0, none⟩, 2, rfl, by simp, ⟨by decide, fun h => by cases h⟩, fun _ => ⟨w.heap.size, 0, rfl, by omega, fun i hi => ?_⟩⟩
  have hc := Go.Joins.cell_of_block h i
  match i, hi with
  | 0, _ => simpa using hc
  | 1, _ => simpa using hc
theorem cvk9 (w : World) (C : Array Value) (n c : Nat) : (convert 22 22 (.slice (some ⟨w.heap.size, 0, none⟩) n c)).run Try.prog (w.alloc (.cells C 5)) = .ok (.slice (some ⟨w.heap.size, 0, none⟩) n c) (w.alloc (.cells C 5 (C.size, C.size + 1))) :=
  Lib.run_convert_bytes_const (P := Try.prog) w 22 5 C n c Try.underlying22 Try.underlying5
theorem two_below (w : World) (o : Obj) : Below w.heap.size w (w.alloc o) := (Below.refl _ _).alloc (Nat.le_refl _) _
theorem keeps_one (w : World) (s : ByteArray) (n : Int) (hs : s.size ≤ 140737488351232) (hn : -9223372036854775808 ≤ n ∧ n ≤ 9223372036854775807) :
    KeepsAt (w.alloc (.cells #[.string s, .int .i64 n] 52)) (fun b => b = w.heap.size) (some ⟨w.heap.size, 0, none⟩) [(s, n)] := by
  have h := heap_alloc_new w (.cells #[.string s, .int .i64 n] 52)
  exact fun _ => ⟨w.heap.size, 0, rfl, rfl, fun i hi => by
    have : i = 0 := by simp at hi; omega
    subst this
    exact ⟨Go.Joins.cell_of_block h 0, Go.Joins.cell_of_block h 1, hs, hn⟩⟩
theorem sizeF1 : (⟨#[102]⟩ : ByteArray).size = 1 := rfl
theorem sizeF2 : (⟨#[103]⟩ : ByteArray).size = 1 := rfl
/-- A disk, and what was there ahead of it stays. -/
structure Live (W w : World) (d : Nat) (M : DiskM) where
  Ft : Nat → Prop
  at_ : DAt w Ft d M
  base : ∀ k, Ft k → W.heap.size ≤ k
  below : Below W.heap.size W w
theorem Live.step {W w w' : World} {d : Nat} {M M' : DiskM} (h : Live W w d M) {r : Int} {e : Ending} (ha : AppR w h.Ft d (r, M') e w') : e = .returned (.int .i64 r) ∧ Nonempty (Live W w' d M') := by
  obtain ⟨he, Ft', hg, hd⟩ := ha
  exact ⟨he, ⟨⟨Ft', hd, hg.base h.below.size h.base, h.below.trans (hg.below h.below.size h.base)⟩⟩⟩
theorem Live.stay {W w w' : World} {d : Nat} {M : DiskM} (h : Live W w d M) (hb : Below w.heap.size w w') : Nonempty (Live W w' d M) := ⟨⟨h.Ft, h.at_.below hb, h.base, h.below.trans (hb.mono h.below.size)⟩⟩
set_option maxHeartbeats 4000000 in
theorem lives9_any (w : World) : Calls Try.prog 6 #[] w fun e w' => e = .returned (.bool true) ∧ Below w.heap.size w w' := by
  go_enter Try.func6, Try.ntmps6
  go_wp2_with fail
  refine (new_any w).mono ?_
  rintro e w1 ⟨d, Ft, rfl, hd1, hb1, hF⟩
  have L1 : Live w w1 d .new := ⟨Ft, hd1, hF, hb1⟩
  have hc1 := cvk9 w1 #[.int .u8 97, .int .u8 98] 2 2
  obtain ⟨L2⟩ := L1.stay (two_below w1 (.cells #[.int .u8 97, .int .u8 98] 5 (2, 3)))
  have hr2 := rd_two w1 97 98
  obtain ⟨w2, hw2⟩ : ∃ W, W = w1.alloc (.cells #[.int .u8 97, .int .u8 98] 5 (2, 3)) := ⟨_, rfl⟩
  have hz2 : w2.heap.size = w1.heap.size + 1 := by rw [hw2]; simp
  have HW2 := Lib.hid hw2
  have HC := Lib.hid (append_any (L2.at_) ⟨#[102]⟩ (by rw [sizeF1]; omega) _ _ (by rw [← hw2, hz2]; rw [hw2]; exact hr2))
  clear hd1 hb1 hF hr2 hz2 hw2 L1
  go_wp2_with fail
  refine HC.out.mono ?_
  rintro e w3 ha
  obtain ⟨rfl, ⟨L3⟩⟩ := L2.step (show AppR _ _ _ (0, dA1) _ _ from ha)
  clear HC ha L2 HW2 hc1
  go_wp2_with fail
  refine (sync_any L3.at_ ⟨#[102]⟩ (by rw [sizeF1]; omega)).mono ?_
  rintro e w4 ha
  obtain ⟨rfl, ⟨L4⟩⟩ := L3.step (show AppR _ _ _ (0, dA2) _ _ from ha)
  have hc1 := cvk9 w4 #[.int .u8 99, .int .u8 100] 2 2
  obtain ⟨L5⟩ := L4.stay (two_below w4 (.cells #[.int .u8 99, .int .u8 100] 5 (2, 3)))
  have hr2 := rd_two w4 99 100
  have HC := Lib.hid (append_any (L5.at_) ⟨#[102]⟩ (by rw [sizeF1]; omega) _ [99, 100] (by rw [show (w4.alloc (.cells #[.int .u8 99, .int .u8 100] 5 (2, 3))).heap.size = w4.heap.size + 1 by simp]; exact hr2))
  clear ha L3 L4 hr2
  go_wp2_with fail
  refine HC.out.mono ?_
  rintro e w6 ha
  obtain ⟨rfl, ⟨L6⟩⟩ := L5.step (show AppR _ _ _ (0, dA3) _ _ from ha)
  clear HC ha L5 hc1
  obtain ⟨L7, hL7⟩ : ∃ L : Live w (w6.alloc (.cells #[.string ⟨#[102]⟩, .int .i64 1] 52)) d dA3, L.Ft = L6.Ft := ⟨⟨L6.Ft, L6.at_.below (two_below w6 _), L6.base, L6.below.trans ((two_below w6 _).mono L6.below.size)⟩, rfl⟩
  have hk7 := keeps_one w6 ⟨#[102]⟩ 1 (by rw [sizeF1]; omega) (by omega)
  have HC := Lib.hid (crash_any L7.at_ _ 1 [(⟨#[102]⟩, 1)] _ hk7 (fun b hb => ⟨by rw [hb]; simp, fun h => by rw [hL7, hb] at h; have := L6.at_.1 _ h; omega⟩) (by simp))
  clear L6 hk7 hL7
  go_wp2_with fail
  refine HC.out.mono ?_
  rintro e w8 ha
  obtain ⟨rfl, ⟨L8⟩⟩ := L7.step (show AppR _ _ _ (0, dA4) _ _ from ha)
  clear HC ha L7
  go_wp2_with fail
  refine (read_any L8.at_ ⟨#[102]⟩ (by rw [sizeF1]; omega)).mono ?_
  rintro e w9 ⟨hb9, v9, rfl, hv9⟩
  obtain ⟨L9⟩ := L8.stay hb9
  have hv9 : OwnB w9 w8.heap.size v9 [97, 98, 99] := hv9
  have HV9 := Lib.hid hv9
  clear hb9 L8 hv9
  go_wp2_with fail
  refine (read_any L9.at_ ⟨#[103]⟩ (by rw [sizeF2]; omega)).mono ?_
  rintro e w10 ⟨hb10, v10, rfl, -⟩
  obtain ⟨L10⟩ := L9.stay hb10
  have HV10 := Lib.hid (HV9.out.below (hb10.mono (by have := hb10.size; omega)))
  clear hb10 L9 HV9
  go_wp2_with fail
  refine (size_any L10.at_ ⟨#[102]⟩ (by rw [sizeF1]; decide)).mono ?_
  rintro e w11 ⟨rfl, hb11⟩
  obtain ⟨L11⟩ := L10.stay hb11
  have hstr := (HV10.out.below hb11).conv
  have e1 : (dA4.read [102]).2 = 0 := rfl
  have e2 : (dA4.read [103]).2 = 4 := rfl
  have e3 : ((dA4.file [102]).b.length : Int) = 3 := rfl
  have e4 : ((dA4.file [102]).sure : Int) = 3 := rfl
  clear hb11 L10 HV10
  go_wp2_with fail
  refine (names_any L11.at_).mono ?_
  rintro e w12 ⟨v12, ss, rfl, hss, hrow, hb12⟩
  obtain ⟨L12⟩ := L11.stay hb12
  have hs1 : ss.length = 1 := hss
  obtain ⟨A12, c12, rfl⟩ : ∃ A c, v12 = .slice A 1 c := by
    rcases hrow.2 with ⟨rfl, h0⟩ | ⟨g, cap, cur, rfl, -⟩
    · omega
    · exact ⟨_, _, by rw [hs1]⟩
  clear hss hrow hb12 L11 hstr e1 e2 e3 e4
  go_wp2_with fail
  refine (off_any L12.at_).mono ?_
  rintro e w13 ⟨he, rfl⟩
  obtain rfl : e = .returned (.bool false) := he
  go_wp2_with fail
  refine (stop_any L12.at_ 0 1 (by omega) (by omega)).mono ?_
  rintro e w14 ha
  obtain ⟨rfl, ⟨L14⟩⟩ := L12.step (r := 0) (M' := dA5) ⟨ha.1, L12.Ft, ha.2.2, ha.2.1⟩
  have hc1 := cvk9 w14 #[.int .u8 120, .int .u8 121] 2 2
  obtain ⟨L15⟩ := L14.stay (two_below w14 (.cells #[.int .u8 120, .int .u8 121] 5 (2, 3)))
  have hr2 := rd_two w14 120 121
  have HC := Lib.hid (append_any (L15.at_) ⟨#[102]⟩ (by rw [sizeF1]; omega) _ [120, 121] (by rw [show (w14.alloc (.cells #[.int .u8 120, .int .u8 121] 5 (2, 3))).heap.size = w14.heap.size + 1 by simp]; exact hr2))
  clear ha L12 L14 hr2
  go_wp2_with fail
  refine HC.out.mono ?_
  rintro e w16 ha
  obtain ⟨rfl, ⟨L16⟩⟩ := L15.step (show AppR _ _ _ (90, dA6) _ _ from ha)
  clear HC ha L15 hc1
  go_wp2_with fail
  refine (off_any L16.at_).mono ?_
  rintro e w17 ⟨he, rfl⟩
  obtain rfl : e = .returned (.bool true) := he
  go_wp2_with fail
  refine (fork_any L16.at_).mono ?_
  rintro e w18 ⟨d2, rfl, hb18⟩
  obtain ⟨L18⟩ := L16.stay hb18
  have HB := Lib.hid L18.below
  clear hb18 L16 L18
  go_wp2_with fail
  go_ret
  exact ⟨rfl, HB.out⟩
end Go.Proofs.Ytclgekmpldeedaa
