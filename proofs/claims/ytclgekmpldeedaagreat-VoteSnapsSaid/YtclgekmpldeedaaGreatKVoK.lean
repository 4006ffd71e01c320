/- What must come of every program of the layer of votes. -/
import Derived.Test.YtclgekmpldeedaaGreatKVoJ
import Derived.Test.YtclgekmpldeedaaGreatKFlO
namespace Go.Proofs.YtclgekmpldeedaaGreat
set_option linter.unusedVariables false
set_option linter.unusedSimpArgs false
open Go.RowKit Go.Maps
set_option maxRecDepth 100000
def dV1 : DiskM := (noteM 3 1 DiskM.new).2
def dV2 : DiskM := (repM snapN (frameF [115]) dV1).2
theorem mV0 : remZ (newNm voteN) DiskM.new = (0, DiskM.new) := rfl
theorem mR0 : DiskM.new.read voteN = ([], 4) := rfl
theorem mV1 : noteM 3 1 DiskM.new = (0, dV1) := Prod.ext (by decide +kernel) rfl
theorem mV2 : repM snapN (frameF [115]) dV1 = (0, dV2) := Prod.ext (by decide +kernel) rfl
theorem mL2 : dV2.read snapN = (frameF [115], 0) := by decide +kernel
theorem mC2 : dV2.cnt = 2 := by decide +kernel
theorem open_nil (w : World) : Calls Tryz.prog 7 #[.pointer none] w fun e w' => e = .returned (.tuple #[.pointer none, .int .i64 1]) ∧ w' = w := by
  go_enter Tryz.func7, Tryz.ntmps7
  go_wp2_with fail
  go_ret2
  exact ⟨rfl, rfl⟩
theorem load_nil (w : World) : Calls Tryz.prog 16 #[.pointer none] w fun e w' => e = .returned (.tuple #[.slice none 0 0, .int .i64 1]) ∧ w' = w := by
  go_enter Tryz.func16, Tryz.ntmps16
  go_wp2_with fail
  go_ret2
  exact ⟨rfl, rfl⟩
theorem save_nil (w : World) (A : Option Addr) (n c : Nat) : Calls Tryz.prog 15 #[.pointer none, .slice A n c] w fun e w' => e = .returned (.int .i64 1) ∧ w' = w := by
  go_enter Tryz.func15, Tryz.ntmps15
  go_wp2_with fail
  go_ret
  exact ⟨rfl, rfl⟩
theorem rd_one9 (w : World) (a : UInt8) : Rd (w.alloc (.cells #[.int .u8 (a.toNat : Int)] 5 (1, 2))) (w.heap.size + 1) (.slice (some ⟨w.heap.size, 0, none⟩) 1 1) [a] := by
  have h := heap_alloc_new w (.cells #[.int .u8 (a.toNat : Int)] 5 (1, 2))
  refine ⟨some ⟨w.heap.size, 0, none⟩, 1, rfl, by simp, ⟨by decide, fun h => by cases h⟩, fun _ => ⟨w.heap.size, 0, rfl, by omega, fun i hi => ?_⟩⟩
  have hc := Go.Joins.cell_of_block h i
  match i, hi with
  | 0, _ => simpa using hc
/-- A disk, and votes on it; what was there ahead of both stays. -/
structure LiveV (W w : World) (d : Nat) (M : DiskM) (v : Nat) (t n : Int) where
  Ft : Nat → Prop
  at_ : DAt w Ft d M
  base : ∀ k, Ft k → W.heap.size ≤ k
  below : Below W.heap.size W w
  hv : VAt w v d t n
  hn : ¬ Ft v
  hvb : W.heap.size ≤ v
theorem LiveV.stay {W w w' : World} {d v : Nat} {M : DiskM} {t n : Int} (h : LiveV W w d M v t n) (hb : Below w.heap.size w w') : Nonempty (LiveV W w' d M v t n) :=
  ⟨⟨h.Ft, h.at_.below hb, h.base, h.below.trans (hb.mono h.below.size), (hb.block v (Array.getElem?_eq_some_iff.1 h.hv).1).trans h.hv, h.hn, h.hvb⟩⟩
set_option maxHeartbeats 4000000 in
theorem lives12_any (w : World) : Calls Tryz.prog 8 #[] w fun e w' => e = .returned (.bool true) ∧ Below w.heap.size w w' := by
  go_enter Tryz.func8, Tryz.ntmps8
  go_wp2_with fail
  refine (new_any w).mono ?_
  rintro e w1 ⟨d, Ft, rfl, hd1, hb1, hF⟩
  go_wp2_with fail
  refine (open_none hd1 mV0 mR0).mono ?_
  rintro e w2 ⟨v, Ft2, rfl, hv2, hvs, hn2, hg2, hd2⟩
  have L2 : LiveV w w2 d .new v 0 (-1) := ⟨Ft2, hd2, hg2.base hb1.size hF, hb1.trans (hg2.below hb1.size hF), hv2, hn2, Nat.le_trans hb1.size hvs⟩
  clear hd1 hb1 hF hv2 hvs hn2 hg2 hd2
  go_wp2_with fail
  refine (open_nil w2).mono ?_
  rintro e w2' ⟨rfl, rfl⟩
  go_wp2_with fail
  refine (term_any L2.hv).mono ?_
  rintro e w2' ⟨rfl, rfl⟩
  go_wp2_with fail
  refine (for_any L2.hv).mono ?_
  rintro e w2' ⟨rfl, rfl⟩
  go_wp2_with fail
  refine (set_note L2.at_ mR0 L2.hv L2.hn 3 1 (by decide) (by decide) ballot_31 mV1).mono ?_
  rintro e w3 ⟨rfl, hv3, Ft3, hn3, hg3, hd3⟩
  have hF2 : ∀ k, (L2.Ft k ∨ k = v) → w.heap.size ≤ k := fun k hk => by
    rcases hk with h | h
    · exact L2.base k h
    · rw [h]; exact L2.hvb
  have L3 : LiveV w w3 d dV1 v 3 1 := ⟨Ft3, hd3, fun k hk => hg3.base L2.below.size hF2 k (.inl hk), L2.below.trans (hg3.below L2.below.size hF2), hv3, hn3, L2.hvb⟩
  clear hv3 hn3 hg3 hd3 hF2 L2
  go_wp2_with fail
  refine (set_refused L3.hv 3 2 (by decide) (by decide)).mono ?_
  rintro e w4 ⟨rfl, hb4⟩
  obtain ⟨L4⟩ := L3.stay hb4
  clear hb4 L3
  go_wp2_with fail
  refine (set_refused L4.hv 2 1 (by decide) (by decide)).mono ?_
  rintro e w5 ⟨rfl, hb5⟩
  obtain ⟨L5⟩ := L4.stay hb5
  clear hb5 L4
  go_wp2_with fail
  refine (term_any L5.hv).mono ?_
  rintro e w2' ⟨rfl, rfl⟩
  go_wp2_with fail
  refine (for_any L5.hv).mono ?_
  rintro e w6 ⟨rfl, rfl⟩
  have hc1 := cvk9 w6 #[.int .u8 115] 1 1
  obtain ⟨L7⟩ := L5.stay (two_below w6 (.cells #[.int .u8 115] 5 (1, 2)))
  have hr7 := rd_one9 w6 115
  have HC := Lib.hid (save_any L7.at_ _ [115] (by rw [show (w6.alloc (.cells #[.int .u8 115] 5 (1, 2))).heap.size = w6.heap.size + 1 by simp]; exact hr7) (by decide))
  rw [mV2] at HC
  clear L5 hr7
  go_wp2_with fail
  refine HC.out.mono ?_
  rintro e w8 ⟨rfl, Ft8, hg8, hd8⟩
  have L8 : LiveV w w8 d dV2 v 3 1 := ⟨Ft8, hd8, hg8.base L7.below.size L7.base, L7.below.trans (hg8.below L7.below.size L7.base), (hg8.block v (Array.getElem?_eq_some_iff.1 L7.hv).1 L7.hn).trans L7.hv, fun hf => by
    rcases hg8.ft v hf with h | h
    · exact L7.hn h
    · have := (Array.getElem?_eq_some_iff.1 L7.hv).1; omega, L7.hvb⟩
  clear HC hg8 hd8 hc1 L7
  go_wp2_with fail
  refine (load_frame L8.at_ [115] (by decide) mL2).mono ?_
  rintro e w9 ⟨hb9, v9, rfl, hv9⟩
  obtain ⟨L9⟩ := L8.stay hb9
  obtain ⟨A9, c9, rfl⟩ := hv9.shapeY
  have hstr : (convert 33 9 (.slice A9 1 c9)).run Tryz.prog w9 = .ok (.string ⟨#[115]⟩) w9 := hv9.strY
  clear hb9 hv9 L8
  go_wp2_with fail
  refine (names_any L9.at_).mono ?_
  rintro e w10 ⟨v10, ss, rfl, hss, hrow, hb10⟩
  obtain ⟨L10⟩ := L9.stay hb10
  have hs1 : ss.length = 2 := hss.trans mC2
  obtain ⟨A10, c10, rfl⟩ : ∃ A c, v10 = .slice A 2 c := by
    rcases hrow.2 with ⟨rfl, h0⟩ | ⟨g, cap, cur, rfl, -⟩
    · omega
    · exact ⟨_, _, by rw [hs1]⟩
  have HB := Lib.hid L10.below
  clear hss hrow hb10 L9 hstr L10
  go_wp2_with fail
  go_ret
  exact ⟨rfl, HB.out⟩
end Go.Proofs.YtclgekmpldeedaaGreat
