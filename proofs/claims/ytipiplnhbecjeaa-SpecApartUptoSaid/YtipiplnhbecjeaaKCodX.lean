/- The decoder: a whole value is read. -/
import Derived.Test.YtipiplnhbecjeaaKCodV
import Derived.Test.YtipiplnhbecjeaaKCodP
import Derived.Test.YtipiplnhbecjeaaKRefA
namespace Go.Proofs.Ytipiplnhbecjeaa
set_option linter.unusedVariables false
set_option linter.unusedSimpArgs false
set_option maxRecDepth 100000
open Go.RowKit
def zeroT : VT := .mk 0 0 eS [] []
/-- The whole value that comes next: the zero value, and a bad source, if there is none. -/
def readO : Option (List UInt8) → VT × Option (List UInt8)
  | none => (zeroT, none)
  | some l => match readS l with
    | some (t, r) => (t, some r)
    | none => (zeroT, none)
theorem readO_some (l : List UInt8) : readO (some l) = match readS l with
    | some (t, r) => (t, some r)
    | none => (zeroT, none) := rfl
theorem readO_good {st : Option (List UInt8)} {r : List UInt8} {t : VT} {least : Int} (h : Rel 8 least st t (some r)) (hc : checkT t = 0) : readO st = (t, some r) := by
  obtain ⟨l, rfl, h1⟩ := h
  have h2 : readS l = some (t, r) := by unfold readS; rw [h1]; simp [hc]
  rw [readO_some, h2]
theorem readO_strange {st : Option (List UInt8)} {r : List UInt8} {t : VT} {least : Int} (h : Rel 8 least st t (some r)) (hc : checkT t ≠ 0) : readO st = (zeroT, none) := by
  obtain ⟨l, rfl, h1⟩ := h
  have h2 : readS l = none := by unfold readS; rw [h1]; simp [hc]
  rw [readO_some, h2]
theorem readO_bad {st : Option (List UInt8)} {t : VT} {least : Int} (h : Rel 8 least st t none) (hl : least ≤ (leftN st : Int) - 4096) (hs : leftN st ≤ 9223372036854775807) : readO st = (zeroT, none) := by
  rcases st with _ | l
  · rfl
  · cases hr : readS l with
    | none => rw [readO_some, hr]
    | some p =>
      obtain ⟨u, r⟩ := p
      have hs' : l.length ≤ 9223372036854775807 := hs
      obtain ⟨h1, h2, h3, h4, h5⟩ := readS_some hr hs'
      have hz := size_of_rd h4 h1.may
      have h6 := h1.size
      have hl' : least ≤ (l.length : Int) - 4096 := hl
      rcases h l u r rfl h4 with h7 | h7
      · rw [h1.may] at h7; cases h7
      · omega
theorem srcL_left {w : World} {g : Nat} {st : Option (List UInt8)} (h : SrcL w g st) : leftN st ≤ 9223372036854775807 := by
  cases st with
  | none => simp [leftN]
  | some l => exact h.2
theorem zero_lv (w : World) (S : Nat → Prop) : LV w S zeroT (.agg #[.int .i64 0, .int .i64 0, .string eS, .slice none 0 0, .slice none 0 0]) :=
  LV.mk (by unfold Rng; omega) (by unfold Rng; omega) (by decide) (by simp) (by simp) (strs_nil _ _ _) (lva_nil _ _ _)
theorem rel_depth {st : Option (List UInt8)} {r : List UInt8} {t : VT} {d : Nat} {least : Int} (h : Rel d least st t (some r)) : depthT t ≤ d := by
  obtain ⟨l, -, h1⟩ := h
  exact (rdW_deep d t l r h1).1.1
def ReadR (g : Nat) (st : Option (List UInt8)) (w : World) (e : Ending) (w' : World) : Prop :=
  ∃ v, e = .returned v ∧ SrcL w' g (readO st).2 ∧ Only w w' g ∧ LV w' (NewB w.heap.size w') (readO st).1 v
theorem read_end {w w4 : World} {g : Nat} {st st' : Option (List UInt8)} {S : Nat → Prop} {t : VT} {c0 c1 c2 c3 c4 : Value} (hs : SrcL w4 g st') (ho : Only w w4 g) (hz : w.heap.size + 1 ≤ w4.heap.size) (hg : g < w.heap.size)
    (hv : LV w4 S t (.agg #[c0, c1, c2, c3, c4])) (hS : ∀ b, S b → w.heap.size + 1 ≤ b ∧ b < w4.heap.size) (hr : readO st = (t, st')) :
    ReadR g st w (.returned (.agg #[c0, c1, c2, c3, c4])) (five w4 w.heap.size 0 c0 c1 c2 c3 c4) := by
  have hr5 := five_rest w4 w.heap.size 0 c0 c1 c2 c3 c4
  have hsz := five_size w4 w.heap.size 0 c0 c1 c2 c3 c4
  refine ⟨_, rfl, ?_, ⟨hr5.1.trans ho.os, hr5.2.1.trans ho.tape, hr5.2.2.trans ho.output, by rw [hsz]; omega, fun b hb hbg => ?_⟩, ?_⟩
  · rw [hr]; exact hs.of (five_other _ _ _ _ _ _ _ _ g (by omega))
  · rw [five_other _ _ _ _ _ _ _ _ b (by omega)]; exact ho.block b hb hbg
  · rw [hr]
    refine (hv.keep (w' := _) fun b hb => five_other _ _ _ _ _ _ _ _ b (by have := hS b hb; omega)).imp fun b hb => ?_
    have := hS b hb
    exact ⟨by omega, by rw [hsz]; omega⟩
set_option maxHeartbeats 8000000 in
set_option maxRecDepth 100000 in
theorem cread_any (g : Nat) (st : Option (List UInt8)) (w : World) (hs : SrcL w g st) : Calls Try.prog 53 #[.pointer (some ⟨g, 0, none⟩)] w (ReadR g st w) := by
  have hgl := hs.lt
  have hleft := srcL_left hs
  have ho1 : Only w (w.alloc (.cells #[.int .i64 0, .int .i64 0, .string ⟨#[]⟩, .slice none 0 0, .slice none 0 0] 25)) g := ⟨rfl, rfl, rfl, by simp, fun b hb _ => Below.heap_alloc w _ b hb⟩
  have hs1 := hs.alloc (.cells #[.int .i64 0, .int .i64 0, .string ⟨#[]⟩, .slice none 0 0, .slice none 0 0] 25)
  have hb1 : Box (w.alloc (.cells #[.int .i64 0, .int .i64 0, .string ⟨#[]⟩, .slice none 0 0, .slice none 0 0] 25)) w.heap.size _ _ _ _ _ := Box.new _ _ _ _ _
  have HS1 := Lib.hid hs1
  have HO1 := Lib.hid ho1
  have HB1 := Lib.hid hb1
  clear hs hs1 ho1 hb1
  go_enter Try.func53, Try.ntmps53
  go_wp2_with (go_at_call 75; refine (cleft_st g st _ HS1.out).mono ?_; rintro e w' ⟨rfl, rfl⟩)
  have hz1 : (w.alloc (.cells #[.int .i64 0, .int .i64 0, .string ⟨#[]⟩, .slice none 0 0, .slice none 0 0] 25)).heap.size = w.heap.size + 1 := by simp
  have hdec : Dec ((w.alloc (.cells #[.int .i64 0, .int .i64 0, .string ⟨#[]⟩, .slice none 0 0, .slice none 0 0] 25)).alloc (.cells #[.pointer (some ⟨g, 0, none⟩), .int .i64 ((leftN st : Int) - 4096), .int .i64 0] 89)) (w.heap.size + 1) g ((leftN st : Int) - 4096) (8 - ((8 : Nat) : Int)) := by
    have h := heap_alloc_new (w.alloc (.cells #[.int .i64 0, .int .i64 0, .string ⟨#[]⟩, .slice none 0 0, .slice none 0 0] 25)) (.cells #[.pointer (some ⟨g, 0, none⟩), .int .i64 ((leftN st : Int) - 4096), .int .i64 0] 89)
    rw [hz1] at h
    exact h
  have ho2 : Only w ((w.alloc (.cells #[.int .i64 0, .int .i64 0, .string ⟨#[]⟩, .slice none 0 0, .slice none 0 0] 25)).alloc (.cells #[.pointer (some ⟨g, 0, none⟩), .int .i64 ((leftN st : Int) - 4096), .int .i64 0] 89)) g := ⟨rfl, rfl, rfl, by simp; omega, fun b hb _ => (Below.heap_alloc _ _ b (by omega)).trans (Below.heap_alloc w _ b hb)⟩
  have hz2 : ((w.alloc (.cells #[.int .i64 0, .int .i64 0, .string ⟨#[]⟩, .slice none 0 0, .slice none 0 0] 25)).alloc (.cells #[.pointer (some ⟨g, 0, none⟩), .int .i64 ((leftN st : Int) - 4096), .int .i64 0] 89)).heap.size = w.heap.size + 2 := by simp
  have hb2 := HB1.out.alloc (.cells #[.pointer (some ⟨g, 0, none⟩), .int .i64 ((leftN st : Int) - 4096), .int .i64 0] 89)
  refine (val_any 8 (Nat.le_refl 8) (w.heap.size + 1) g ((leftN st : Int) - 4096) st _ hdec (HS1.out.alloc _) (by omega)).mono ?_
  rintro e w1 ⟨v, t, st', rfl, hs1, ho1, hv1, hrel⟩
  obtain ⟨T3, d3, T4, d4, rfl, -⟩ := hv1.shape
  have hb3 := box_only hb2 ho1 (by omega)
  have ho3 := ho2.trans ho1
  have hz3 : w.heap.size + 2 ≤ w1.heap.size := by have := ho1.size; omega
  have hS : ∀ b, NewB ((w.alloc (.cells #[.int .i64 0, .int .i64 0, .string ⟨#[]⟩, .slice none 0 0, .slice none 0 0] 25)).alloc (.cells #[.pointer (some ⟨g, 0, none⟩), .int .i64 ((leftN st : Int) - 4096), .int .i64 0] 89)).heap.size w1 b → w.heap.size + 1 ≤ b ∧ b < w1.heap.size := fun b hb => ⟨by have := hb.1; omega, hb.2⟩
  have hv2 := hv1.imp hS
  clear hb2 ho1 ho2 hz1 hz2 hv1 hS hdec HS1 HO1 HB1
  have hs4 := hs1.alloc (.cells #[.int .i64 t.kind, .int .i64 t.num, .string t.text, .slice T3 t.items.length d3, .slice T4 t.names.length d4] 25)
  have hb4 := hb3.alloc (.cells #[.int .i64 t.kind, .int .i64 t.num, .string t.text, .slice T3 t.items.length d3, .slice T4 t.names.length d4] 25)
  have ho4 : Only w (w1.alloc (.cells #[.int .i64 t.kind, .int .i64 t.num, .string t.text, .slice T3 t.items.length d3, .slice T4 t.names.length d4] 25)) g := ho3.trans ⟨rfl, rfl, rfl, by simp, fun b hb _ => Below.heap_alloc w1 _ b hb⟩
  have hv4 : LV (w1.alloc (.cells #[.int .i64 t.kind, .int .i64 t.num, .string t.text, .slice T3 t.items.length d3, .slice T4 t.names.length d4] 25)) (fun b => w.heap.size + 1 ≤ b ∧ b < w1.heap.size) t _ := hv2.keep fun b hb => Below.heap_alloc w1 _ b hb.2
  have hz4 : (w1.alloc (.cells #[.int .i64 t.kind, .int .i64 t.num, .string t.text, .slice T3 t.items.length d3, .slice T4 t.names.length d4] 25)).heap.size = w1.heap.size + 1 := by simp
  have HX : Hid (Box (w1.alloc (.cells #[.int .i64 t.kind, .int .i64 t.num, .string t.text, .slice T3 t.items.length d3, .slice T4 t.names.length d4] 25)) w1.heap.size _ _ _ _ _) := Lib.hid (Box.new _ _ _ _ _)
  have HS4 := Lib.hid hs4
  have HB4 := Lib.hid hb4
  have HO4 := Lib.hid ho4
  have HV4 := Lib.hid hv4
  have HREL := Lib.hid hrel
  have HZ4 := Lib.hid hz4
  clear hs1 hb3 ho3 hv2 hs4 hb4 ho4 hv4 hrel hz4
  go_wp2_with fail
  rcases st' with _ | r'
  · refine (cbad_none g _ HS4.out).mono ?_
    rintro e w2 ⟨rfl, rfl⟩
    go_wp2_with fail
    refine (cspoil_st g _ _ HS4.out).mono ?_
    rintro e w3 ⟨rfl, hs5, ho5⟩
    have hb5 := box_only HB4.out ho5 (by omega)
    have ho6 := HO4.out.trans ho5
    have hz6 : w.heap.size + 1 ≤ w3.heap.size := by have := ho5.size; have := HZ4.out; omega
    have rf : ∀ i, (w3).frozen? ⟨w.heap.size, i, none⟩ = false := fun i => hb5.free i
    have r0 := hb5.c0
    have r1 := hb5.c1
    have r2 := hb5.c2
    have r3 := hb5.c3
    have r4 := hb5.c4
    have HB5 := Lib.hid hb5
    have HO6 := Lib.hid ho6
    have HS5 := Lib.hid hs5
    clear hb5 ho5 ho6 hs5
    go_wp2_with fail
    refine bodyPost_ret (results_cell_row rfl _ _ w.heap.size 25 _ (0, 0) _ rfl (five_box HB5.out) Try.underlying25 rfl (by kernel_rfl)) rfl ?_
    exact read_end (t := zeroT) HS5.out HO6.out hz6 hgl (zero_lv _ (fun _ => False)) (fun _ h => h.elim) (readO_bad HREL.out (Int.le_refl _) hleft)
  · refine (cbad_some g r' _ HS4.out).mono ?_
    rintro e w2 ⟨rfl, rfl⟩
    go_wp2_with fail
    refine (check_any _ t _ _ (fun b hb => by have := HZ4.out; have := hb.2; omega) HV4.out (by have := rel_depth HREL.out; omega)).mono ?_
    rintro e w2 ⟨rfl, hb2⟩
    have ho2 : Only w w2 g := HO4.out.trans ⟨hb2.os, hb2.tape, hb2.output, hb2.size, fun b hb _ => hb2.block b hb⟩
    have hs2 := HS4.out.of (hb2.block g HS4.out.lt)
    have hbx := HB4.out.call hb2
    have hx2 := HX.out.call hb2
    have hv2 : LV w2 (fun b => w.heap.size + 1 ≤ b ∧ b < w1.heap.size) t _ := HV4.out.keep fun b hb => hb2.block b (by have := HZ4.out; have := hb.2; omega)
    have hz2 : w1.heap.size + 1 ≤ w2.heap.size := by have := HZ4.out; have := hb2.size; omega
    have HS2 := Lib.hid hs2
    have HBX := Lib.hid hbx
    have HX2 := Lib.hid hx2
    have HV2 := Lib.hid hv2
    have HO2 := Lib.hid ho2
    clear hb2 ho2 hs2 hbx hx2 hv2 HS4 HB4 HV4 HO4 HZ4 HX
    obtain ⟨x, hx⟩ : ∃ x, x = checkT t := ⟨_, rfl⟩
    rw [← hx]
    have HC := Lib.hid hx
    clear hx
    by_cases h0 : x = 0
    · subst h0
      have rf : ∀ i, (w2).frozen? ⟨w.heap.size, i, none⟩ = false := fun i => HBX.out.free i
      have r0 := HBX.out.c0
      have r1 := HBX.out.c1
      have r2 := HBX.out.c2
      have r3 := HBX.out.c3
      have r4 := HBX.out.c4
      have v0 := HX2.out.c0
      have v1 := HX2.out.c1
      have v2 := HX2.out.c2
      have v3 := HX2.out.c3
      have v4 := HX2.out.c4
      go_wp2_with fail
      refine bodyPost_ret (results_cell_row rfl _ _ w.heap.size 25 _ (0, 0) _ rfl (five_box HBX.out) Try.underlying25 rfl (by kernel_rfl)) rfl ?_
      exact read_end HS2.out HO2.out (by omega) hgl HV2.out (fun b hb => ⟨hb.1, by have := hb.2; omega⟩) (readO_good HREL.out HC.out.symm)
    · have h1 : (x == 0) = false := beq_false_of_ne h0
      have h2 : (x != 0) = true := by simp [h0]
      go_wp2_with fail
      refine (cspoil_st g _ _ HS2.out).mono ?_
      rintro e w3 ⟨rfl, hs5, ho5⟩
      have hb5 := box_only HBX.out ho5 (by omega)
      have ho6 := HO2.out.trans ho5
      have hz6 : w.heap.size + 1 ≤ w3.heap.size := by have := ho5.size; omega
      have rf : ∀ i, (w3).frozen? ⟨w.heap.size, i, none⟩ = false := fun i => hb5.free i
      have r0 := hb5.c0
      have r1 := hb5.c1
      have r2 := hb5.c2
      have r3 := hb5.c3
      have r4 := hb5.c4
      have HB5 := Lib.hid hb5
      have HO6 := Lib.hid ho6
      have HS5 := Lib.hid hs5
      clear hb5 ho5 ho6 hs5
      go_wp2_with fail
      refine bodyPost_ret (results_cell_row rfl _ _ w.heap.size 25 _ (0, 0) _ rfl (five_box HB5.out) Try.underlying25 rfl (by kernel_rfl)) rfl ?_
      exact read_end (t := zeroT) HS5.out HO6.out hz6 hgl (zero_lv _ (fun _ => False)) (fun _ h => h.elim) (readO_strange HREL.out (fun h => h0 (HC.out.trans h)))
end Go.Proofs.Ytipiplnhbecjeaa

/- Decode. -/
namespace Go.Proofs.Ytipiplnhbecjeaa
set_option linter.unusedVariables false
set_option linter.unusedSimpArgs false
set_option maxRecDepth 100000
open Go.RowKit
theorem sdone_st (g : Nat) (st : Option (List UInt8)) (w : World) (h : SrcL w g st) : Calls Try.prog 15 #[.pointer (some ⟨g, 0, none⟩)] w fun e w' => e = .returned (.int .i64 (doneOf st)) ∧ w = w' := by
  rcases st with _ | l
  · exact sdone_none g w h
  · exact sdone_any g l w h
/-- What bytes are as a value. -/
def decT (l : List UInt8) : VT := if doneOf (readO (some l)).2 = 0 then (readO (some l)).1 else zeroT
def decE (l : List UInt8) : Int := doneOf (readO (some l)).2
def DecR (l : List UInt8) (w : World) (e : Ending) (w' : World) : Prop :=
  ∃ v, e = .returned (.tuple #[v, .int .i64 (decE l)]) ∧ LV w' (NewB w.heap.size w') (decT l) v ∧ Below w.heap.size w w'
theorem dec_end {l : List UInt8} {w w4 : World} {S : Nat → Prop} {t : VT} {c0 c1 c2 c3 c4 : Value} {x : Int} (hx : x = decE l ∧ t = decT l) (hb : Below w.heap.size w w4) (hv : LV w4 S t (.agg #[c0, c1, c2, c3, c4])) (hS : ∀ b, S b → w.heap.size + 1 ≤ b ∧ b < w4.heap.size) :
    DecR l w (.returned (.tuple #[.agg #[c0, c1, c2, c3, c4], .int .i64 x])) (five w4 w.heap.size 0 c0 c1 c2 c3 c4) := by
  obtain ⟨rfl, rfl⟩ := hx
  have hr5 := five_rest w4 w.heap.size 0 c0 c1 c2 c3 c4
  have hsz := five_size w4 w.heap.size 0 c0 c1 c2 c3 c4
  refine ⟨_, rfl, ?_, ⟨hr5.1.trans hb.os, hr5.2.1.trans hb.tape, hr5.2.2.trans hb.output, by rw [hsz]; exact hb.size, fun b hk => ?_⟩⟩
  · refine (hv.keep (w' := _) fun b hb => five_other _ _ _ _ _ _ _ _ b (by have := hS b hb; omega)).imp fun b hb => ?_
    have := hS b hb
    exact ⟨by omega, by rw [hsz]; omega⟩
  · rw [five_other _ _ _ _ _ _ _ _ b (by omega)]; exact hb.block b hk
theorem decE_zero {l : List UInt8} (h : 0 = doneOf (readO (some l)).2) : 0 = decE l ∧ (readO (some l)).1 = decT l := ⟨h, by unfold decT; rw [if_pos h.symm]⟩
theorem decE_not {l : List UInt8} (h : ¬ doneOf (readO (some l)).2 = 0) : doneOf (readO (some l)).2 = decE l ∧ zeroT = decT l := ⟨rfl, by unfold decT; rw [if_neg h]⟩
end Go.Proofs.Ytipiplnhbecjeaa
