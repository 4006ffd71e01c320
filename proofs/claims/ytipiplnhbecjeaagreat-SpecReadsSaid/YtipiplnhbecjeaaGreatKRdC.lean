/- The document's own decoder: Read and Decode. -/
import Derived.Test.YtipiplnhbecjeaaGreatKRdA
import Derived.Test.YtipiplnhbecjeaaGreatKRefZ
import Derived.Test.YtipiplnhbecjeaaGreatKCodX
namespace Go.Proofs.YtipiplnhbecjeaaGreat
set_option linter.unusedVariables false
set_option linter.unusedSimpArgs false
set_option maxRecDepth 100000
open Go.RowKit
theorem readO_bad0 {st : Option (List UInt8)} {t : VT} (h : Rel 8 0 st t none) : readO st = (zeroT, none) := by
  rcases st with _ | l
  · rfl
  · have h2 : readS l = none := by
      unfold readS
      cases hr : rdW 8 l with
      | none => rfl
      | some p =>
        obtain ⟨u, r⟩ := p
        rcases h l u r rfl hr with h3 | h3
        · have hc : checkT u = 20 := by unfold checkT; rw [h3]; rfl
          simp [hc]
        · omega
    rw [readO_some, h2]
def RReadR (g BB : Nat) (st : Option (List UInt8)) (w : World) (e : Ending) (w' : World) : Prop :=
  ∃ v, e = .returned v ∧ RS w' g BB (readO st).2 ∧ Only w w' g ∧ LV w' (NewB w.heap.size w') (readO st).1 v
theorem rread_end {w w4 : World} {g BB : Nat} {st st' : Option (List UInt8)} {S : Nat → Prop} {t : VT} {c0 c1 c2 c3 c4 : Value} (h : MR w w4 g BB st') (hB : BB ≤ g) (hg : g < w.heap.size)
    (hv : LV w4 S t (.agg #[c0, c1, c2, c3, c4])) (hS : ∀ b, S b → w.heap.size + 1 ≤ b ∧ b < w4.heap.size) (hr : readO st = (t, st')) :
    RReadR g BB st w (.returned (.agg #[c0, c1, c2, c3, c4])) (five w4 w.heap.size 0 c0 c1 c2 c3 c4) := by
  have hr5 := five_rest w4 w.heap.size 0 c0 c1 c2 c3 c4
  have hsz := five_size w4 w.heap.size 0 c0 c1 c2 c3 c4
  have hz := h.size
  refine ⟨_, rfl, ?_, ⟨hr5.1.trans h.only.os, hr5.2.1.trans h.only.tape, hr5.2.2.trans h.only.output, by rw [hsz]; omega, fun b hb hbg => ?_⟩, ?_⟩
  · rw [hr]
    exact h.src.only (fun b hb hb' => five_other _ _ _ _ _ _ _ _ b (by omega)) (by omega) hr5.1 hr5.2.1 hr5.2.2 (by rw [hsz]; exact Nat.le_refl _)
  · rw [five_other _ _ _ _ _ _ _ _ b (by omega)]; exact h.only.block b hb hbg
  · rw [hr]
    refine (hv.keep (w' := _) fun b hb => five_other _ _ _ _ _ _ _ _ b (by have := hS b hb; omega)).imp fun b hb => ?_
    have := hS b hb
    exact ⟨by omega, by rw [hsz]; omega⟩
set_option maxHeartbeats 4000000 in
set_option maxRecDepth 100000 in
theorem rread_any (g BB : Nat) (st : Option (List UInt8)) (w : World) (hs : RS w g BB st) (hB : BB ≤ g) : Calls Tryz.prog 52 #[.pointer (some ⟨g, 0, none⟩)] w (RReadR g BB st w) := by
  have hgl := hs.lt
  have hm0 := MR.first hs hB
  have b1 := rs_c1 hm0.src
  have rf : ∀ i, (w.alloc (.cells #[.int .i64 0, .int .i64 0, .string ⟨#[]⟩, .slice none 0 0, .slice none 0 0] 25)).frozen? ⟨w.heap.size, i, none⟩ = false := fun i => hm0.rb.free i
  have r0 := hm0.rb.c0
  have r1 := hm0.rb.c1
  have r2 := hm0.rb.c2
  have r3 := hm0.rb.c3
  have r4 := hm0.rb.c4
  have HM0 := Lib.hid hm0
  clear hs hm0
  go_enter Tryz.func52, Tryz.ntmps52
  rcases st with _ | l
  · simp only [Option.isNone_none] at b1
    go_wp2_with fail
    refine bodyPost_ret (results_cell_row rfl _ _ w.heap.size 25 _ (0, 0) _ rfl HM0.out.rb Tryz.underlying25 rfl (by kernel_rfl)) rfl ?_
    exact ⟨_, rfl, HM0.out.src, HM0.out.only, zero_lv _ _⟩
  · simp only [Option.isNone_some] at b1
    go_wp2_with fail
    clear b1 rf r0 r1 r2 r3 r4
    refine (ref_any 8 (Nat.le_refl 8) g BB (some l) _ HM0.out.src hB).mono ?_
    rintro e w1 ⟨v, t, st', rfl, hs1, ho1, hv1, hrel⟩
    obtain ⟨T3, d3, T4, d4, rfl, -⟩ := hv1.shape
    have hz0 : (w.alloc (.cells #[.int .i64 0, .int .i64 0, .string ⟨#[]⟩, .slice none 0 0, .slice none 0 0] 25)).heap.size = w.heap.size + 1 := by simp
    have hm1 := HM0.out.call hs1 ho1 hgl
    have hz1 := hm1.size
    have hv2 := hv1.imp (S' := fun b => w.heap.size + 1 ≤ b ∧ b < w1.heap.size) fun b hb => ⟨by have := hb.1; omega, hb.2⟩
    have hm2 := hm1.alloc (.cells #[.int .i64 t.kind, .int .i64 t.num, .string t.text, .slice T3 t.items.length d3, .slice T4 t.names.length d4] 25) hB hgl
    have hbx : Box (w1.alloc (.cells #[.int .i64 t.kind, .int .i64 t.num, .string t.text, .slice T3 t.items.length d3, .slice T4 t.names.length d4] 25)) w1.heap.size _ _ _ _ _ := Box.new _ _ _ _ _
    have hv4 : LV (w1.alloc (.cells #[.int .i64 t.kind, .int .i64 t.num, .string t.text, .slice T3 t.items.length d3, .slice T4 t.names.length d4] 25)) (fun b => w.heap.size + 1 ≤ b ∧ b < w1.heap.size) t _ := hv2.keep fun b hb => Below.heap_alloc w1 _ b hb.2
    have hz4 : (w1.alloc (.cells #[.int .i64 t.kind, .int .i64 t.num, .string t.text, .slice T3 t.items.length d3, .slice T4 t.names.length d4] 25)).heap.size = w1.heap.size + 1 := by simp
    have b1 := rs_c1 hm2.src
    have f1 := rs_f1 hm2.src
    have rf : ∀ i, (w1.alloc (.cells #[.int .i64 t.kind, .int .i64 t.num, .string t.text, .slice T3 t.items.length d3, .slice T4 t.names.length d4] 25)).frozen? ⟨w.heap.size, i, none⟩ = false := fun i => hm2.rb.free i
    have r0 := hm2.rb.c0
    have r1 := hm2.rb.c1
    have r2 := hm2.rb.c2
    have r3 := hm2.rb.c3
    have r4 := hm2.rb.c4
    have n4 : w1.heap.size ≠ g := by omega
    have n5 : w.heap.size ≠ g := by omega
    have HM2 := Lib.hid hm2
    have HBX := Lib.hid hbx
    have HV4 := Lib.hid hv4
    have HZ4 := Lib.hid hz4
    have HREL := Lib.hid hrel
    clear hs1 ho1 hv1 hm1 hv2 hm2 hbx hv4 hz4 hrel hz0 HM0
    rcases st' with _ | r
    · simp only [Option.isNone_none] at b1
      have hm3 := HM2.out.spoil hgl
      go_wp2_with fail
      refine bodyPost_ret (results_cell_row rfl _ _ w.heap.size 25 _ (0, 0) _ rfl (five_box hm3.rb) Tryz.underlying25 rfl (by kernel_rfl)) rfl ?_
      exact rread_end (t := zeroT) hm3 hB hgl (zero_lv _ (fun _ => False)) (fun _ h => h.elim) (readO_bad0 HREL.out)
    · simp only [Option.isNone_some] at b1
      go_wp2_with fail
      clear b1 f1 rf r0 r1 r2 r3 r4
      refine (rcheck_any _ t _ _ (by have := rel_depth HREL.out; omega) (fun b hb => by have := HZ4.out; have := hb.2; omega) HV4.out).mono ?_
      rintro e w2 ⟨rfl, hb2⟩
      have ho2 : Only (w1.alloc (.cells #[.int .i64 t.kind, .int .i64 t.num, .string t.text, .slice T3 t.items.length d3, .slice T4 t.names.length d4] 25)) w2 g := ⟨hb2.os, hb2.tape, hb2.output, hb2.size, fun b hb _ => hb2.block b hb⟩
      have hm3 := HM2.out.call (HM2.out.src.keep (hb2.block g HM2.out.src.lt) (hb2.mono (by have := HM2.out.src.lt; omega))) ho2 hgl
      have hx2 := HBX.out.call hb2
      have hv2 : LV w2 (fun b => w.heap.size + 1 ≤ b ∧ b < w1.heap.size) t _ := HV4.out.keep fun b hb => hb2.block b (by have := HZ4.out; have := hb.2; omega)
      have hz2 : w1.heap.size + 1 ≤ w2.heap.size := by have := HZ4.out; have := hb2.size; omega
      have b1 := rs_c1 hm3.src
      have f1 := rs_f1 hm3.src
      have rf : ∀ i, w2.frozen? ⟨w.heap.size, i, none⟩ = false := fun i => hm3.rb.free i
      have r0 := hm3.rb.c0
      have r1 := hm3.rb.c1
      have r2 := hm3.rb.c2
      have r3 := hm3.rb.c3
      have r4 := hm3.rb.c4
      have v0 := hx2.c0
      have v1 := hx2.c1
      have v2 := hx2.c2
      have v3 := hx2.c3
      have v4 := hx2.c4
      have HM3 := Lib.hid hm3
      have HV2 := Lib.hid hv2
      clear hb2 ho2 hm3 hx2 hv2 HM2 HBX HV4 HZ4
      obtain ⟨x, hx⟩ : ∃ x, x = checkT t := ⟨_, rfl⟩
      rw [← hx]
      have HC := Lib.hid hx
      clear hx
      by_cases h0 : x = 0
      · subst h0
        go_wp2_with fail
        refine bodyPost_ret (results_cell_row rfl _ _ w.heap.size 25 _ (0, 0) _ rfl (five_box HM3.out.rb) Tryz.underlying25 rfl (by kernel_rfl)) rfl ?_
        exact rread_end HM3.out hB hgl HV2.out (fun b hb => ⟨hb.1, by have := hb.2; omega⟩) (readO_good HREL.out HC.out.symm)
      · have h1 : (x == 0) = false := beq_false_of_ne h0
        have h2 : (x != 0) = true := by simp [h0]
        have hm4 := HM3.out.spoil hgl
        go_wp2_with fail
        refine bodyPost_ret (results_cell_row rfl _ _ w.heap.size 25 _ (0, 0) _ rfl (five_box hm4.rb) Tryz.underlying25 rfl (by kernel_rfl)) rfl ?_
        exact rread_end (t := zeroT) hm4 hB hgl (zero_lv _ (fun _ => False)) (fun _ h => h.elim) (readO_strange HREL.out (fun h => h0 (HC.out.trans h)))
theorem done_two (st : Option (List UInt8)) : doneOf st = 0 ∨ doneOf st = 10 := by
  cases st with
  | none => exact .inr rfl
  | some l => cases l <;> simp [doneOf]
end Go.Proofs.YtipiplnhbecjeaaGreat

/- A nil source: nothing is read. -/
namespace Go.Proofs.YtipiplnhbecjeaaGreat
set_option linter.unusedVariables false
set_option linter.unusedSimpArgs false
set_option maxRecDepth 100000
open Go.RowKit
/-- Block D is a decoder of a nil source. -/
def DecN (w : World) (D : Nat) (least lv : Int) : Prop := w.heap[D]? = some (.cells #[.pointer none, .int .i64 least, .int .i64 lv] 110 (0, 0))
theorem DecN.lt {w : World} {D : Nat} {least lv : Int} (h : DecN w D least lv) : D < w.heap.size := (Array.getElem?_eq_some_iff.1 h).1
theorem DecN.set {w : World} {D : Nat} {least lv : Int} (h : DecN w D least lv) (x : Int) : DecN (w.setCell ⟨D, 2, none⟩ (.int .i64 x)) D least x := Go.Joins.block_setCell (i := 2) h _
theorem DecN.c0 {w : World} {D : Nat} {least lv : Int} (h : DecN w D least lv) : w.cell? ⟨D, 0, none⟩ = some (.pointer none) := Go.Joins.cell_of_block h 0
theorem DecN.c2 {w : World} {D : Nat} {least lv : Int} (h : DecN w D least lv) : w.cell? ⟨D, 2, none⟩ = some (.int .i64 lv) := Go.Joins.cell_of_block h 2
theorem DecN.alloc {w : World} {D : Nat} {least lv : Int} (h : DecN w D least lv) (o : Obj) : DecN (w.alloc o) D least lv := (Below.heap_alloc w o D h.lt).trans h
set_option maxHeartbeats 4000000 in
set_option maxRecDepth 100000 in
theorem val_nil (D : Nat) (w : World) (hd : DecN w D (-4096) 0) : Calls Tryz.prog 107 #[.pointer (some ⟨D, 0, none⟩)] w fun e w' => e = .returned (.agg #[.int .i64 0, .int .i64 0, .string ⟨#[]⟩, .slice none 0 0, .slice none 0 0]) ∧ Below w.heap.size w w' := by
  have hDl := hd.lt
  have HD := Lib.hid hd
  obtain ⟨W3, hW3⟩ : ∃ W3, W3 = ((w.setCell ⟨D, 2, none⟩ (.int .i64 1)).alloc (.cells #[.pointer (some ⟨D, 0, none⟩)] 115)).alloc (.cells #[.int .i64 0, .int .i64 0, .string ⟨#[]⟩, .slice none 0 0, .slice none 0 0] 25) := ⟨_, rfl⟩
  have hz : (w.setCell ⟨D, 2, none⟩ (.int .i64 1)).heap.size = w.heap.size := by simp
  have hz2 : ((w.setCell ⟨D, 2, none⟩ (.int .i64 1)).alloc (.cells #[.pointer (some ⟨D, 0, none⟩)] 115)).heap.size = w.heap.size + 1 := by simp
  have hz3 : W3.heap.size = w.heap.size + 2 := by rw [hW3]; simp
  have hd3 : DecN W3 D (-4096) 1 := by rw [hW3]; exact ((hd.set 1).alloc _).alloc _
  have hp3 : PB W3 w.heap.size D := by
    have h := heap_alloc_new (w.setCell ⟨D, 2, none⟩ (.int .i64 1)) (.cells #[.pointer (some ⟨D, 0, none⟩)] 115)
    rw [hz] at h
    rw [hW3]
    exact (Below.heap_alloc _ _ _ (by omega)).trans h
  have hr3 : Box W3 (w.heap.size + 1) (.int .i64 0) (.int .i64 0) (.string ⟨#[]⟩) (.slice none 0 0) (.slice none 0 0) := by
    have h := Box.new (w := (w.setCell ⟨D, 2, none⟩ (.int .i64 1)).alloc (.cells #[.pointer (some ⟨D, 0, none⟩)] 115)) (.int .i64 0) (.int .i64 0) (.string ⟨#[]⟩) (.slice none 0 0) (.slice none 0 0)
    rw [hz2] at h
    rw [hW3]
    exact h
  have hk3 : ∀ b, b < w.heap.size → b ≠ D → W3.heap[b]? = w.heap[b]? := fun b hb hbD => by
    rw [hW3, Below.heap_alloc _ _ b (by omega), Below.heap_alloc _ _ b (by omega), heap_setCell_other _ ⟨D, 2, none⟩ b _ hbD]
  have ho3 : W3.os = w.os ∧ W3.tape = w.tape ∧ W3.output = w.output := by rw [hW3]; exact ⟨rfl, rfl, rfl⟩
  have H3 := Lib.hid (And.intro hd3 (And.intro hp3 (And.intro hr3 (And.intro hk3 ho3))))
  have hd2 := (hd.alloc (.cells #[.pointer (some ⟨D, 0, none⟩)] 115)).alloc (.cells #[.int .i64 0, .int .i64 0, .string ⟨#[]⟩, .slice none 0 0, .slice none 0 0] 25)
  rw [hW3] at hd3
  have e0 := hd3.c0
  have e2 := hd3.c2
  have d0 := hd2.c0
  have d2 := hd2.c2
  have df := fun i => Go.Joins.unfrozen_of_block hd2 i
  have HW := Lib.hid hW3
  clear hd2 hd3 hp3 hr3 hk3 ho3 hd hz hz2 hW3
  go_enter Tryz.func107, Tryz.ntmps107
  go_wp2_with fail
  clear e0 e2 d0 d2 df
  rw [← HW.out]
  refine (sbyte_nil _).mono ?_
  rintro e w1 ⟨rfl, hb⟩
  obtain ⟨hd3, hp3, hr3, hk3, ho3⟩ := H3.out
  have hd1 : DecN w1 D (-4096) 1 := (hb.block D (by omega)).trans hd3
  have hp1 : PB w1 w.heap.size D := (hb.block _ (by omega)).trans hp3
  have hr1 := hr3.call hb
  have hk1 : ∀ b, b < w.heap.size → b ≠ D → w1.heap[b]? = w.heap[b]? := fun b hb' hbD => (hb.block b (by omega)).trans (hk3 b hb' hbD)
  have ho1 : w1.os = w.os ∧ w1.tape = w.tape ∧ w1.output = w.output := ⟨hb.os.trans ho3.1, hb.tape.trans ho3.2.1, hb.output.trans ho3.2.2⟩
  have hz1 : w.heap.size + 2 ≤ w1.heap.size := by have := hb.size; omega
  clear hb hd3 hp3 hr3 hk3 ho3 H3 HW
  have hd2 := hd1.alloc (.cells #[.int .i64 0, .int .i64 0, .string ⟨#[]⟩, .slice none 0 0, .slice none 0 0] 25)
  have hr2 := hr1.alloc (.cells #[.int .i64 0, .int .i64 0, .string ⟨#[]⟩, .slice none 0 0, .slice none 0 0] 25)
  have p0 : (w1.alloc (.cells #[.int .i64 0, .int .i64 0, .string ⟨#[]⟩, .slice none 0 0, .slice none 0 0] 25)).cell? ⟨w.heap.size, 0, none⟩ = some (.pointer (some ⟨D, 0, none⟩)) := Go.Joins.cell_of_block ((Below.heap_alloc w1 (.cells #[.int .i64 0, .int .i64 0, .string ⟨#[]⟩, .slice none 0 0, .slice none 0 0] 25) _ (by omega)).trans hp1) 0
  have e0 := hd2.c0
  have e2 := hd2.c2
  have df := fun i => Go.Joins.unfrozen_of_block hd2 i
  have rf := fun i => hr2.free i
  have r0 := hr2.c0
  have r1 := hr2.c1
  have r2 := hr2.c2
  have r3 := hr2.c3
  have r4 := hr2.c4
  have H := Lib.hid (And.intro hd2 (And.intro hr2 (And.intro hk1 ho1)))
  clear hd1 hp1 hr1 hk1 ho1 hd2 hr2
  go_wp2_with fail
  obtain ⟨hd2, hr2, hk1, ho1⟩ := H.out
  refine bodyPost_ret (results_cell_row rfl _ _ (w.heap.size + 1) 25 _ (0, 0) _ rfl (five_box (hr2.other D 2 _ (by omega))) Tryz.underlying25 rfl (by kernel_rfl)) rfl ?_
  have hr5 := five_rest ((w1.alloc (.cells #[.int .i64 0, .int .i64 0, .string ⟨#[]⟩, .slice none 0 0, .slice none 0 0] 25)).setCell ⟨D, 2, none⟩ (.int .i64 0)) (w.heap.size + 1) 0 (.int .i64 0) (.int .i64 0) (.string ⟨#[]⟩) (.slice none 0 0) (.slice none 0 0)
  have hsz : (five ((w1.alloc (.cells #[.int .i64 0, .int .i64 0, .string ⟨#[]⟩, .slice none 0 0, .slice none 0 0] 25)).setCell ⟨D, 2, none⟩ (.int .i64 0)) (w.heap.size + 1) 0 (.int .i64 0) (.int .i64 0) (.string ⟨#[]⟩) (.slice none 0 0) (.slice none 0 0)).heap.size = w1.heap.size + 1 := by rw [five_size]; simp
  refine ⟨rfl, ⟨hr5.1.trans ho1.1, hr5.2.1.trans ho1.2.1, hr5.2.2.trans ho1.2.2, by show _ ≤ (five _ _ _ _ _ _ _ _).heap.size; rw [hsz]; omega, fun b hb => ?_⟩⟩
  by_cases hbD : b = D
  · subst hbD
    refine (five_other _ _ _ _ _ _ _ _ b (by omega)).trans ((show _ = _ from hd2.set 0).trans (show w.heap[b]? = _ from HD.out).symm)
  · refine (five_other _ _ _ _ _ _ _ _ b (by omega)).trans ?_
    rw [heap_setCell_other _ ⟨D, 2, none⟩ b _ hbD, Below.heap_alloc w1 _ b (by omega)]
    exact hk1 b hb hbD
set_option maxHeartbeats 4000000 in
set_option maxRecDepth 100000 in
theorem cread_nil (w : World) : Calls Tryz.prog 82 #[.pointer none] w fun e w' => e = .returned (.agg #[.int .i64 0, .int .i64 0, .string ⟨#[]⟩, .slice none 0 0, .slice none 0 0]) ∧ Below w.heap.size w w' := by
  have hb0 := below_box (w := w) (.cells #[.int .i64 0, .int .i64 0, .string ⟨#[]⟩, .slice none 0 0, .slice none 0 0] 25)
  have hx0 : Box (w.alloc (.cells #[.int .i64 0, .int .i64 0, .string ⟨#[]⟩, .slice none 0 0, .slice none 0 0] 25)) w.heap.size _ _ _ _ _ := Box.new _ _ _ _ _
  have hz0 : (w.alloc (.cells #[.int .i64 0, .int .i64 0, .string ⟨#[]⟩, .slice none 0 0, .slice none 0 0] 25)).heap.size = w.heap.size + 1 := by simp
  have HB0 := Lib.hid hb0
  have HX0 := Lib.hid hx0
  clear hb0 hx0
  go_enter Tryz.func82, Tryz.ntmps82
  go_wp2_with (go_at_call 23; refine (left_nil _).mono ?_; rintro e w' ⟨rfl, rfl⟩)
  have hdec : DecN ((w.alloc (.cells #[.int .i64 0, .int .i64 0, .string ⟨#[]⟩, .slice none 0 0, .slice none 0 0] 25)).alloc (.cells #[.pointer none, .int .i64 (-4096), .int .i64 0] 110)) (w.heap.size + 1) (-4096) 0 := by
    have h := heap_alloc_new (w.alloc (.cells #[.int .i64 0, .int .i64 0, .string ⟨#[]⟩, .slice none 0 0, .slice none 0 0] 25)) (.cells #[.pointer none, .int .i64 (-4096), .int .i64 0] 110)
    rw [hz0] at h
    exact h
  have hb1 := grow_trans HB0.out (below_box (w := w.alloc (.cells #[.int .i64 0, .int .i64 0, .string ⟨#[]⟩, .slice none 0 0, .slice none 0 0] 25)) (.cells #[.pointer none, .int .i64 (-4096), .int .i64 0] 110))
  have hx1 := HX0.out.alloc (.cells #[.pointer none, .int .i64 (-4096), .int .i64 0] 110)
  refine (val_nil (w.heap.size + 1) _ hdec).mono ?_
  rintro e w2 ⟨rfl, hb⟩
  have hx2 := hx1.call hb
  have hb2 := hb1.trans (hb.mono hb1.size)
  have hbx := below_box (w := w2) (.cells #[.int .i64 0, .int .i64 0, .string ⟨#[]⟩, .slice none 0 0, .slice none 0 0] 25)
  have hx3 := hx2.call hbx
  have hb3 := hb2.trans (hbx.mono hb2.size)
  have HX3 := Lib.hid hx3
  have HB3 := Lib.hid hb3
  clear hb1 hx1 hb hx2 hb2 hbx hx3 hb3 hdec HB0 HX0 hz0
  go_wp2_with (go_at_call 22; refine (bad_nil _).mono ?_; rintro e w' ⟨rfl, rfl⟩)
  refine (spoil_nil _).mono ?_
  rintro e w' ⟨rfl, rfl⟩
  have rf : ∀ i, (w2.alloc (.cells #[.int .i64 0, .int .i64 0, .string ⟨#[]⟩, .slice none 0 0, .slice none 0 0] 25)).frozen? ⟨w.heap.size, i, none⟩ = false := fun i => HX3.out.free i
  have r0 := HX3.out.c0
  have r1 := HX3.out.c1
  have r2 := HX3.out.c2
  have r3 := HX3.out.c3
  have r4 := HX3.out.c4
  go_wp2_with fail
  refine bodyPost_ret (results_cell_row rfl _ _ w.heap.size 25 _ (0, 0) _ rfl (five_box HX3.out) Tryz.underlying25 rfl (by kernel_rfl)) rfl ?_
  have hr5 := five_rest (w2.alloc (.cells #[.int .i64 0, .int .i64 0, .string ⟨#[]⟩, .slice none 0 0, .slice none 0 0] 25)) w.heap.size 0 (.int .i64 0) (.int .i64 0) (.string ⟨#[]⟩) (.slice none 0 0) (.slice none 0 0)
  refine ⟨rfl, ⟨hr5.1.trans HB3.out.os, hr5.2.1.trans HB3.out.tape, hr5.2.2.trans HB3.out.output, by show _ ≤ (five _ _ _ _ _ _ _ _).heap.size; rw [five_size]; exact HB3.out.size, fun b hb => (five_other _ _ _ _ _ _ _ _ b (by omega)).trans (HB3.out.block b hb)⟩⟩
end Go.Proofs.YtipiplnhbecjeaaGreat
