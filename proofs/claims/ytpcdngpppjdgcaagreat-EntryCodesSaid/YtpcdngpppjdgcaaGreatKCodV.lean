/- The decoder's value. -/
import Derived.Test.YtpcdngpppjdgcaaGreatKRegR
import Derived.Test.YtpcdngpppjdgcaaGreatKRefT
import Derived.Test.YtpcdngpppjdgcaaGreatKCodS
import Derived.Test.YtpcdngpppjdgcaaGreatKCodR
import Derived.Test.YtpcdngpppjdgcaaGreatKCodM
import Derived.Test.YtpcdngpppjdgcaaGreatKValP
import Derived.Test.YtpcdngpppjdgcaaGreatKValM
import Derived.Outline
import Derived.Lib.OthersKept
import Derived.Lib.DecodeN
namespace Go.Proofs.YtpcdngpppjdgcaaGreat
open Lib (hid)
set_option linter.unusedVariables false
set_option linter.unusedSimpArgs false
set_option maxRecDepth 100000
open Go.RowKit
theorem Dec.set {w : World} {D g : Nat} {least lv : Int} (h : Dec w D g least lv) (x : Int) : Dec (w.setCell ⟨D, 2, none⟩ (.int .i64 x)) D g least x := Go.Joins.block_setCell (i := 2) h _
theorem Dec.c0 {w : World} {D g : Nat} {least lv : Int} (h : Dec w D g least lv) : w.cell? ⟨D, 0, none⟩ = some (.pointer (some ⟨g, 0, none⟩)) := Go.Joins.cell_of_block h 0
theorem Dec.c2 {w : World} {D g : Nat} {least lv : Int} (h : Dec w D g least lv) : w.cell? ⟨D, 2, none⟩ = some (.int .i64 lv) := Go.Joins.cell_of_block h 2
theorem Dec.alloc {w : World} {D g : Nat} {least lv : Int} (h : Dec w D g least lv) (o : Obj) : Dec (w.alloc o) D g least lv := (Below.heap_alloc w o D h.lt).trans h
structure Mid (w w' : World) (D g : Nat) (least lv : Int) (st : Option (List UInt8)) : Prop where
  dec : Dec w' D g least lv
  pb : PB w' w.heap.size D
  rb : Box w' (w.heap.size + 1) (.int .i64 0) (.int .i64 0) (.string ⟨#[]⟩) (.slice none 0 0) (.slice none 0 0)
  src : SrcL w' g st
  os : w'.os = w.os
  tape : w'.tape = w.tape
  output : w'.output = w.output
  far : ∀ b, b < w.heap.size → b ≠ g → b ≠ D → w'.heap[b]? = w.heap[b]?
  size : w.heap.size + 2 ≤ w'.heap.size
theorem Mid.first {w : World} {D g : Nat} {least lv lv' : Int} {st : Option (List UInt8)} (hd : Dec w D g least lv) (hs : SrcL w g st) (hDg : D ≠ g) :
    Mid w (((w.setCell ⟨D, 2, none⟩ (.int .i64 lv')).alloc (.cells #[.pointer (some ⟨D, 0, none⟩)] 158)).alloc (.cells #[.int .i64 0, .int .i64 0, .string ⟨#[]⟩, .slice none 0 0, .slice none 0 0] 25)) D g least lv' st := by
  have hz : (w.setCell ⟨D, 2, none⟩ (.int .i64 lv')).heap.size = w.heap.size := by simp
  have hz2 : ((w.setCell ⟨D, 2, none⟩ (.int .i64 lv')).alloc (.cells #[.pointer (some ⟨D, 0, none⟩)] 158)).heap.size = w.heap.size + 1 := by simp
  have hk : ∀ b, b < w.heap.size → b ≠ D → (((w.setCell ⟨D, 2, none⟩ (.int .i64 lv')).alloc (.cells #[.pointer (some ⟨D, 0, none⟩)] 158)).alloc (.cells #[.int .i64 0, .int .i64 0, .string ⟨#[]⟩, .slice none 0 0, .slice none 0 0] 25)).heap[b]? = w.heap[b]? := fun b hb hbD => by
    rw [Below.heap_alloc _ _ b (by omega), Below.heap_alloc _ _ b (by omega), heap_setCell_other _ ⟨D, 2, none⟩ b _ hbD]
  refine ⟨((hd.set lv').alloc _).alloc _, ?_, ?_, hs.of (hk g hs.lt (fun e => hDg e.symm)), rfl, rfl, rfl, fun b hb _ hbD => hk b hb hbD, by simp⟩
  · have h := heap_alloc_new (w.setCell ⟨D, 2, none⟩ (.int .i64 lv')) (.cells #[.pointer (some ⟨D, 0, none⟩)] 158)
    rw [hz] at h
    exact (Below.heap_alloc _ _ _ (by omega)).trans h
  · have h := Box.new (w := (w.setCell ⟨D, 2, none⟩ (.int .i64 lv')).alloc (.cells #[.pointer (some ⟨D, 0, none⟩)] 158)) (.int .i64 0) (.int .i64 0) (.string ⟨#[]⟩) (.slice none 0 0) (.slice none 0 0)
    rw [hz2] at h
    exact h
theorem Mid.call {w w1 w2 : World} {D g : Nat} {least lv : Int} {st st' : Option (List UInt8)} (h : Mid w w1 D g least lv st) (hs : SrcL w2 g st') (ho : Only w1 w2 g) (hDg : D ≠ g) (hg : g < w.heap.size) : Mid w w2 D g least lv st' := by
  have hz := h.size
  have hk : ∀ b, b < w1.heap.size → b ≠ g → w2.heap[b]? = w1.heap[b]? := fun b hb hbg => ho.block b hb (fun e => hbg (by cases e; rfl))
  exact ⟨(hk D h.dec.lt hDg).trans h.dec, (hk _ (by omega) (by omega)).trans h.pb, (hk _ (by omega) (by omega)).trans h.rb, hs, ho.os.trans h.os, ho.tape.trans h.tape, ho.output.trans h.output,
    fun b hb hbg hbD => (hk b (by omega) hbg).trans (h.far b hb hbg hbD), Nat.le_trans hz ho.size⟩
theorem Mid.fars {w w1 w2 : World} {D g vb : Nat} {least lv : Int} {st st' : Option (List UInt8)} (h : Mid w w1 D g least lv st) (hs : SrcL w2 g st') (ho : Far vb g w1 w2) (hDg : D ≠ g) (hD : D < w.heap.size) (hg : g < w.heap.size) (hv : w.heap.size + 2 ≤ vb) : Mid w w2 D g least lv st' := by
  have hz := h.size
  exact ⟨(ho.block D (by omega) hDg).trans h.dec, (ho.block _ (by omega) (by omega)).trans h.pb, (ho.block _ (by omega) (by omega)).trans h.rb, hs, ho.os.trans h.os, ho.tape.trans h.tape, ho.output.trans h.output,
    fun b hb hbg hbD => (ho.block b (by omega) hbg).trans (h.far b hb hbg hbD), Nat.le_trans hz ho.size⟩
theorem Mid.alloc {w w1 : World} {D g : Nat} {least lv : Int} {st : Option (List UInt8)} (h : Mid w w1 D g least lv st) (o : Obj) : Mid w (w1.alloc o) D g least lv st := by
  have hz := h.size
  exact ⟨h.dec.alloc o, (Below.heap_alloc w1 o _ (by omega)).trans h.pb, (Below.heap_alloc w1 o _ (by omega)).trans h.rb, h.src.of (Below.heap_alloc w1 o g h.src.lt), h.os, h.tape, h.output,
    fun b hb hbg hbD => (Below.heap_alloc w1 o b (by omega)).trans (h.far b hb hbg hbD), by simp; omega⟩
theorem Mid.set {w w1 : World} {D g vb i : Nat} {u : Value} {least lv : Int} {st : Option (List UInt8)} (h : Mid w w1 D g least lv st) (hv : w.heap.size + 2 ≤ vb) (hD : D < w.heap.size) (hg : g < w.heap.size) : Mid w (w1.setCell ⟨vb, i, none⟩ u) D g least lv st := by
  have hk : ∀ b, b ≠ vb → (w1.setCell ⟨vb, i, none⟩ u).heap[b]? = w1.heap[b]? := fun b hb => heap_setCell_other _ ⟨vb, i, none⟩ b _ hb
  exact ⟨(hk D (by omega)).trans h.dec, (hk _ (by omega)).trans h.pb, (hk _ (by omega)).trans h.rb, h.src.of (hk g (by omega)), h.os, h.tape, h.output,
    fun b hb hbg hbD => (hk b (by omega)).trans (h.far b hb hbg hbD), by simp; exact h.size⟩
theorem val_end {w w4 : World} {d D g : Nat} {least lv lv' : Int} {st st' : Option (List UInt8)} {S : Nat → Prop} {t : VT} {c0 c1 c2 c3 c4 : Value} (hd : Dec w D g least lv) (h : Mid w w4 D g least lv' st') (hDg : D ≠ g) (hg : g < w.heap.size)
    (hv : LV w4 S t (.agg #[c0, c1, c2, c3, c4])) (hS : ∀ b, S b → w.heap.size + 2 ≤ b ∧ b < w4.heap.size) (hrel : Rel d least st t st') :
    ValR d g least st w (.returned (.agg #[c0, c1, c2, c3, c4])) (five (w4.setCell ⟨D, 2, none⟩ (.int .i64 lv)) (w.heap.size + 1) 0 c0 c1 c2 c3 c4) := by
  have hDl := hd.lt
  have hz := h.size
  have hr := five_rest (w4.setCell ⟨D, 2, none⟩ (.int .i64 lv)) (w.heap.size + 1) 0 c0 c1 c2 c3 c4
  have hk : ∀ b, b ≠ D → b ≠ w.heap.size + 1 → (five (w4.setCell ⟨D, 2, none⟩ (.int .i64 lv)) (w.heap.size + 1) 0 c0 c1 c2 c3 c4).heap[b]? = w4.heap[b]? := fun b h1 h2 => by
    rw [five_other _ _ _ _ _ _ _ _ b h2, heap_setCell_other _ ⟨D, 2, none⟩ b _ h1]
  have hD : (five (w4.setCell ⟨D, 2, none⟩ (.int .i64 lv)) (w.heap.size + 1) 0 c0 c1 c2 c3 c4).heap[D]? = w.heap[D]? := by
    rw [five_other _ _ _ _ _ _ _ _ D (by omega)]
    exact (h.dec.set lv).trans (show w.heap[D]? = _ from hd).symm
  have hsz : (five (w4.setCell ⟨D, 2, none⟩ (.int .i64 lv)) (w.heap.size + 1) 0 c0 c1 c2 c3 c4).heap.size = w4.heap.size := by rw [five_size]; simp
  refine ⟨_, t, st', rfl, h.src.of (hk g (fun e => hDg e.symm) (by omega)), ⟨hr.1.trans h.os, hr.2.1.trans h.tape, hr.2.2.trans h.output, by rw [hsz]; omega, fun b hb hbg => ?_⟩, ?_, hrel⟩
  · by_cases hbD : b = D
    · subst hbD; exact hD
    · exact (hk b hbD (by omega)).trans (h.far b hb (fun e => hbg (by rw [e])) hbD)
  · refine (hv.keep (w' := _) fun b hb => ?_).imp fun b hb => ?_
    · have := hS b hb
      exact hk b (by omega) (by omega)
    · have := hS b hb
      exact ⟨by omega, by rw [hsz]; omega⟩
theorem enters_item1 : Enters 174 := fun _ _ => by simp [callFunc, go_sem, Tryz.func174, Tryz.f174]
theorem enters_item2 : Enters 175 := fun _ _ => by simp [callFunc, go_sem, Tryz.func175, Tryz.f175]
set_option maxHeartbeats 8000000 in
set_option maxRecDepth 100000 in
theorem val_succ (d : Nat) (hd8 : d < 8) (hok : ValOK d) : ValOK (d + 1) := by
  intro D g least st w hd hs hDg
  have hDl := hd.lt
  have hgl := hs.lt
  obtain ⟨lv, hlv⟩ : ∃ lv : Int, lv = 8 - ((d + 1 : Nat) : Int) := ⟨_, rfl⟩
  rw [← hlv] at hd
  have HD := hid hd
  have hlv0 : 0 ≤ lv := by omega
  have hlv7 : lv ≤ 7 := by omega
  have hlv1 : ¬ lv + 1 > 8 := by omega
  have hlv2 : decide (lv + 1 > 8) = false := decide_eq_false hlv1
  have HLV := hid hlv
  have HM3 := hid (Mid.first (lv' := lv + 1) hd hs hDg)
  clear hlv hs
  have hd2 := (hd.alloc (.cells #[.pointer (some ⟨D, 0, none⟩)] 158)).alloc (.cells #[.int .i64 0, .int .i64 0, .string ⟨#[]⟩, .slice none 0 0, .slice none 0 0] 25)
  have e0 := HM3.out.dec.c0
  have e2 := HM3.out.dec.c2
  have d0 := hd2.c0
  have d2 := hd2.c2
  have df := fun i => Go.Joins.unfrozen_of_block hd2 i
  clear hd2 hd
  go_enter Tryz.func139, Tryz.ntmps139
  go_wp2_with fail
  obtain ⟨kk, hkk⟩ : ∃ kk : Int, kk = ((rdByte st).1 : Int) := ⟨_, rfl⟩
  obtain ⟨st1, hst1⟩ : ∃ st1, st1 = (rdByte st).2 := ⟨_, rfl⟩
  refine (sbyte_any g st _ HM3.out.src).mono ?_
  rintro e w1 ⟨rfl, hs1, ho1⟩
  rw [← hst1] at hs1
  rw [← hkk]
  have hm1 := HM3.out.call hs1 ho1 hDg hgl
  have HKK := hid hkk
  have HST := hid hst1
  clear ho1 hs1 HM3 e0 e2 d0 d2 df hkk hst1
  by_cases h2 : kk = 2
  · subst h2
    have hm2 := hm1.alloc (.cells #[.int .i64 2, .int .i64 0, .string ⟨#[]⟩, .slice none 0 0, .slice none 0 0] 25)
    have hbx : Box (w1.alloc (.cells #[.int .i64 2, .int .i64 0, .string ⟨#[]⟩, .slice none 0 0, .slice none 0 0] 25)) w1.heap.size _ _ _ _ _ := Box.new _ _ _ _ _
    have hz1 := hm1.size
    have p0 : (w1.alloc (.cells #[.int .i64 2, .int .i64 0, .string ⟨#[]⟩, .slice none 0 0, .slice none 0 0] 25)).cell? ⟨w.heap.size, 0, none⟩ = some (.pointer (some ⟨D, 0, none⟩)) := Go.Joins.cell_of_block hm2.pb 0
    have e0 := hm2.dec.c0
    have e2 := hm2.dec.c2
    have df := fun i => Go.Joins.unfrozen_of_block hm2.dec i
    have rf := fun i => hm2.rb.free i
    have r0 := hm2.rb.c0
    have r1 := hm2.rb.c1
    have r2 := hm2.rb.c2
    have r3 := hm2.rb.c3
    have r4 := hm2.rb.c4
    have HM2 := hid hm2
    have HBX := hid hbx
    clear hm1 hm2 hbx
    go_wp2_with fail
    clear p0 e0 e2 df rf r0 r1 r2 r3 r4
    refine (sbyte_any g st1 _ HM2.out.src).mono ?_
    rintro e w3 ⟨rfl, hs3, ho3⟩
    have hm3 := HM2.out.call hs3 ho3 hDg hgl
    have hb3 := box_only HBX.out ho3 (by omega)
    have p0 : (w3).cell? ⟨w.heap.size, 0, none⟩ = some (.pointer (some ⟨D, 0, none⟩)) := Go.Joins.cell_of_block hm3.pb 0
    have e0 := hm3.dec.c0
    have e2 := hm3.dec.c2
    have df := fun i => Go.Joins.unfrozen_of_block hm3.dec i
    have rf := fun i => hm3.rb.free i
    have r0 := hm3.rb.c0
    have r1 := hm3.rb.c1
    have r2 := hm3.rb.c2
    have r3 := hm3.rb.c3
    have r4 := hm3.rb.c4
    have v0 := hb3.c0
    have v1 := hb3.c1
    have v2 := hb3.c2
    have v3 := hb3.c3
    have v4 := hb3.c4
    have vf := fun i => hb3.free i
    have n1 : w1.heap.size ≠ D := by omega
    have n2 : w1.heap.size ≠ w.heap.size + 1 := by omega
    have n3 : w1.heap.size ≠ w.heap.size := by omega
    obtain ⟨x, hx⟩ : ∃ x, x = (rdByte st1).1 := ⟨_, rfl⟩
    obtain ⟨st3, hst3⟩ : ∃ st3, st3 = (rdByte st1).2 := ⟨_, rfl⟩
    rw [← hx]
    rw [← hst3] at hm3 hs3
    have HM3 := hid hm3
    have HB3 := hid hb3
    have HX := hid (And.intro hx hst3)
    clear hm3 hb3 hx hst3 hs3 ho3
    go_wp2_with fail
    have hm4 := HM3.out.set (vb := w1.heap.size) (i := 1) (u := .int .i64 x) (by omega) hDl hgl
    refine bodyPost_ret (results_cell_row rfl _ _ (w.heap.size + 1) 25 _ (0, 0) _ rfl (five_box (hm4.rb.other D 2 _ (by omega))) Tryz.underlying25 rfl (by kernel_rfl)) rfl ?_
    refine val_end (t := .mk 2 x eS [] []) HD.out hm4 hDg hgl (LV.mk (S := fun _ => False) (by unfold Rng; omega) (by obtain ⟨rfl, -⟩ := HX.out; have := rdByte_lt st1; unfold Rng; omega) (by decide) (by simp) (by simp) (strs_nil _ _ _) (lva_nil _ _ _)) (fun _ h => h.elim) ?_
    have h := HST.out
    subst h
    obtain ⟨rfl, rfl⟩ := HX.out
    exact rel_two d least (by have := HKK.out; omega)
  by_cases h3 : kk = 3
  · subst h3
    have hm2 := hm1.alloc (.cells #[.int .i64 3, .int .i64 0, .string ⟨#[]⟩, .slice none 0 0, .slice none 0 0] 25)
    have hbx : Box (w1.alloc (.cells #[.int .i64 3, .int .i64 0, .string ⟨#[]⟩, .slice none 0 0, .slice none 0 0] 25)) w1.heap.size _ _ _ _ _ := Box.new _ _ _ _ _
    have hz1 := hm1.size
    have p0 : (w1.alloc (.cells #[.int .i64 3, .int .i64 0, .string ⟨#[]⟩, .slice none 0 0, .slice none 0 0] 25)).cell? ⟨w.heap.size, 0, none⟩ = some (.pointer (some ⟨D, 0, none⟩)) := Go.Joins.cell_of_block hm2.pb 0
    have e0 := hm2.dec.c0
    have e2 := hm2.dec.c2
    have df := fun i => Go.Joins.unfrozen_of_block hm2.dec i
    have rf := fun i => hm2.rb.free i
    have r0 := hm2.rb.c0
    have r1 := hm2.rb.c1
    have r2 := hm2.rb.c2
    have r3 := hm2.rb.c3
    have r4 := hm2.rb.c4
    have HM2 := hid hm2
    have HBX := hid hbx
    clear hm1 hm2 hbx
    go_wp2_with fail
    clear p0 e0 e2 df rf r0 r1 r2 r3 r4
    refine (sint_any g st1 _ HM2.out.src).mono ?_
    rintro e w3 ⟨rfl, hs3, ho3⟩
    have hm3 := HM2.out.call hs3 ho3 hDg hgl
    have hb3 := box_only HBX.out ho3 (by omega)
    have p0 : (w3).cell? ⟨w.heap.size, 0, none⟩ = some (.pointer (some ⟨D, 0, none⟩)) := Go.Joins.cell_of_block hm3.pb 0
    have e0 := hm3.dec.c0
    have e2 := hm3.dec.c2
    have df := fun i => Go.Joins.unfrozen_of_block hm3.dec i
    have rf := fun i => hm3.rb.free i
    have r0 := hm3.rb.c0
    have r1 := hm3.rb.c1
    have r2 := hm3.rb.c2
    have r3 := hm3.rb.c3
    have r4 := hm3.rb.c4
    have v0 := hb3.c0
    have v1 := hb3.c1
    have v2 := hb3.c2
    have v3 := hb3.c3
    have v4 := hb3.c4
    have vf := fun i => hb3.free i
    have n1 : w1.heap.size ≠ D := by omega
    have n2 : w1.heap.size ≠ w.heap.size + 1 := by omega
    have n3 : w1.heap.size ≠ w.heap.size := by omega
    obtain ⟨x, hx⟩ : ∃ x, x = (rdInt st1).1 := ⟨_, rfl⟩
    obtain ⟨st3, hst3⟩ : ∃ st3, st3 = (rdInt st1).2 := ⟨_, rfl⟩
    rw [← hx]
    rw [← hst3] at hm3 hs3
    have HM3 := hid hm3
    have HB3 := hid hb3
    have HX := hid (And.intro hx hst3)
    clear hm3 hb3 hx hst3 hs3 ho3
    go_wp2_with fail
    have hm4 := HM3.out.set (vb := w1.heap.size) (i := 1) (u := .int .i64 x) (by omega) hDl hgl
    refine bodyPost_ret (results_cell_row rfl _ _ (w.heap.size + 1) 25 _ (0, 0) _ rfl (five_box (hm4.rb.other D 2 _ (by omega))) Tryz.underlying25 rfl (by kernel_rfl)) rfl ?_
    refine val_end (t := .mk 3 x eS [] []) HD.out hm4 hDg hgl (LV.mk (S := fun _ => False) (by unfold Rng; omega) (by obtain ⟨rfl, -⟩ := HX.out; exact rdInt_rng st1) (by decide) (by simp) (by simp) (strs_nil _ _ _) (lva_nil _ _ _)) (fun _ h => h.elim) ?_
    have h := HST.out
    subst h
    obtain ⟨rfl, rfl⟩ := HX.out
    exact rel_three d least (by have := HKK.out; omega)
  by_cases h4 : kk = 4
  · subst h4
    have hm2 := hm1.alloc (.cells #[.int .i64 4, .int .i64 0, .string ⟨#[]⟩, .slice none 0 0, .slice none 0 0] 25)
    have hbx : Box (w1.alloc (.cells #[.int .i64 4, .int .i64 0, .string ⟨#[]⟩, .slice none 0 0, .slice none 0 0] 25)) w1.heap.size _ _ _ _ _ := Box.new _ _ _ _ _
    have hz1 := hm1.size
    have p0 : (w1.alloc (.cells #[.int .i64 4, .int .i64 0, .string ⟨#[]⟩, .slice none 0 0, .slice none 0 0] 25)).cell? ⟨w.heap.size, 0, none⟩ = some (.pointer (some ⟨D, 0, none⟩)) := Go.Joins.cell_of_block hm2.pb 0
    have e0 := hm2.dec.c0
    have e2 := hm2.dec.c2
    have df := fun i => Go.Joins.unfrozen_of_block hm2.dec i
    have rf := fun i => hm2.rb.free i
    have r0 := hm2.rb.c0
    have r1 := hm2.rb.c1
    have r2 := hm2.rb.c2
    have r3 := hm2.rb.c3
    have r4 := hm2.rb.c4
    have HM2 := hid hm2
    have HBX := hid hbx
    clear hm1 hm2 hbx
    go_wp2_with fail
    clear p0 e0 e2 df rf r0 r1 r2 r3 r4
    refine (stext_any g st1 4096 _ HM2.out.src (by omega)).mono ?_
    rintro e w3 ⟨rfl, hs3, ho3⟩
    have hm3 := HM2.out.call hs3 ho3 hDg hgl
    have hb3 := box_only HBX.out ho3 (by omega)
    have p0 : (w3).cell? ⟨w.heap.size, 0, none⟩ = some (.pointer (some ⟨D, 0, none⟩)) := Go.Joins.cell_of_block hm3.pb 0
    have e0 := hm3.dec.c0
    have e2 := hm3.dec.c2
    have df := fun i => Go.Joins.unfrozen_of_block hm3.dec i
    have rf := fun i => hm3.rb.free i
    have r0 := hm3.rb.c0
    have r1 := hm3.rb.c1
    have r2 := hm3.rb.c2
    have r3 := hm3.rb.c3
    have r4 := hm3.rb.c4
    have v0 := hb3.c0
    have v1 := hb3.c1
    have v2 := hb3.c2
    have v3 := hb3.c3
    have v4 := hb3.c4
    have vf := fun i => hb3.free i
    have n1 : w1.heap.size ≠ D := by omega
    have n2 : w1.heap.size ≠ w.heap.size + 1 := by omega
    have n3 : w1.heap.size ≠ w.heap.size := by omega
    obtain ⟨x, hx⟩ : ∃ x, x = (rdText 4096 st1).1 := ⟨_, rfl⟩
    obtain ⟨st3, hst3⟩ : ∃ st3, st3 = (rdText 4096 st1).2 := ⟨_, rfl⟩
    rw [← hx]
    rw [← hst3] at hm3 hs3
    have HM3 := hid hm3
    have HB3 := hid hb3
    have HX := hid (And.intro hx hst3)
    clear hm3 hb3 hx hst3 hs3 ho3
    go_wp2_with fail
    have hm4 := HM3.out.set (vb := w1.heap.size) (i := 2) (u := .string ⟨x.toArray⟩) (by omega) hDl hgl
    refine bodyPost_ret (results_cell_row rfl _ _ (w.heap.size + 1) 25 _ (0, 0) _ rfl (five_box (hm4.rb.other D 2 _ (by omega))) Tryz.underlying25 rfl (by kernel_rfl)) rfl ?_
    refine val_end (t := .mk 4 0 (bsOf x) [] []) HD.out hm4 hDg hgl (LV.mk (S := fun _ => False) (by unfold Rng; omega) (by unfold Rng; omega) (by obtain ⟨rfl, -⟩ := HX.out; have : (rdText 4096 st1).1.length ≤ 4096 := rdText_le 4096 st1 (by omega); have e : (bsOf (rdText 4096 st1).1).size = (rdText 4096 st1).1.length := bsOf_size _; show (bsOf (rdText 4096 st1).1).size ≤ _; omega) (by simp) (by simp) (strs_nil _ _ _) (lva_nil _ _ _)) (fun _ h => h.elim) ?_
    have h := HST.out
    subst h
    obtain ⟨rfl, rfl⟩ := HX.out
    exact rel_text d 4 (by omega) least (by have := HKK.out; omega)
  by_cases h5 : kk = 5
  · subst h5
    have hm2 := hm1.alloc (.cells #[.int .i64 5, .int .i64 0, .string ⟨#[]⟩, .slice none 0 0, .slice none 0 0] 25)
    have hbx : Box (w1.alloc (.cells #[.int .i64 5, .int .i64 0, .string ⟨#[]⟩, .slice none 0 0, .slice none 0 0] 25)) w1.heap.size _ _ _ _ _ := Box.new _ _ _ _ _
    have hz1 := hm1.size
    have p0 : (w1.alloc (.cells #[.int .i64 5, .int .i64 0, .string ⟨#[]⟩, .slice none 0 0, .slice none 0 0] 25)).cell? ⟨w.heap.size, 0, none⟩ = some (.pointer (some ⟨D, 0, none⟩)) := Go.Joins.cell_of_block hm2.pb 0
    have e0 := hm2.dec.c0
    have e2 := hm2.dec.c2
    have df := fun i => Go.Joins.unfrozen_of_block hm2.dec i
    have rf := fun i => hm2.rb.free i
    have r0 := hm2.rb.c0
    have r1 := hm2.rb.c1
    have r2 := hm2.rb.c2
    have r3 := hm2.rb.c3
    have r4 := hm2.rb.c4
    have HM2 := hid hm2
    have HBX := hid hbx
    clear hm1 hm2 hbx
    go_wp2_with fail
    clear p0 e0 e2 df rf r0 r1 r2 r3 r4
    refine (stext_any g st1 4096 _ HM2.out.src (by omega)).mono ?_
    rintro e w3 ⟨rfl, hs3, ho3⟩
    have hm3 := HM2.out.call hs3 ho3 hDg hgl
    have hb3 := box_only HBX.out ho3 (by omega)
    have p0 : (w3).cell? ⟨w.heap.size, 0, none⟩ = some (.pointer (some ⟨D, 0, none⟩)) := Go.Joins.cell_of_block hm3.pb 0
    have e0 := hm3.dec.c0
    have e2 := hm3.dec.c2
    have df := fun i => Go.Joins.unfrozen_of_block hm3.dec i
    have rf := fun i => hm3.rb.free i
    have r0 := hm3.rb.c0
    have r1 := hm3.rb.c1
    have r2 := hm3.rb.c2
    have r3 := hm3.rb.c3
    have r4 := hm3.rb.c4
    have v0 := hb3.c0
    have v1 := hb3.c1
    have v2 := hb3.c2
    have v3 := hb3.c3
    have v4 := hb3.c4
    have vf := fun i => hb3.free i
    have n1 : w1.heap.size ≠ D := by omega
    have n2 : w1.heap.size ≠ w.heap.size + 1 := by omega
    have n3 : w1.heap.size ≠ w.heap.size := by omega
    obtain ⟨x, hx⟩ : ∃ x, x = (rdText 4096 st1).1 := ⟨_, rfl⟩
    obtain ⟨st3, hst3⟩ : ∃ st3, st3 = (rdText 4096 st1).2 := ⟨_, rfl⟩
    rw [← hx]
    rw [← hst3] at hm3 hs3
    have HM3 := hid hm3
    have HB3 := hid hb3
    have HX := hid (And.intro hx hst3)
    clear hm3 hb3 hx hst3 hs3 ho3
    go_wp2_with fail
    have hm4 := HM3.out.set (vb := w1.heap.size) (i := 2) (u := .string ⟨x.toArray⟩) (by omega) hDl hgl
    refine bodyPost_ret (results_cell_row rfl _ _ (w.heap.size + 1) 25 _ (0, 0) _ rfl (five_box (hm4.rb.other D 2 _ (by omega))) Tryz.underlying25 rfl (by kernel_rfl)) rfl ?_
    refine val_end (t := .mk 5 0 (bsOf x) [] []) HD.out hm4 hDg hgl (LV.mk (S := fun _ => False) (by unfold Rng; omega) (by unfold Rng; omega) (by obtain ⟨rfl, -⟩ := HX.out; have : (rdText 4096 st1).1.length ≤ 4096 := rdText_le 4096 st1 (by omega); have e : (bsOf (rdText 4096 st1).1).size = (rdText 4096 st1).1.length := bsOf_size _; show (bsOf (rdText 4096 st1).1).size ≤ _; omega) (by simp) (by simp) (strs_nil _ _ _) (lva_nil _ _ _)) (fun _ h => h.elim) ?_
    have h := HST.out
    subst h
    obtain ⟨rfl, rfl⟩ := HX.out
    exact rel_text d 5 (by omega) least (by have := HKK.out; omega)
  by_cases h6 : kk = 6
  · subst h6
    have hm2 := hm1.alloc (.cells #[.int .i64 6, .int .i64 0, .string ⟨#[]⟩, .slice none 0 0, .slice none 0 0] 25)
    have hbx : Box (w1.alloc (.cells #[.int .i64 6, .int .i64 0, .string ⟨#[]⟩, .slice none 0 0, .slice none 0 0] 25)) w1.heap.size _ _ _ _ _ := Box.new _ _ _ _ _
    have hz1 := hm1.size
    have p0 : (w1.alloc (.cells #[.int .i64 6, .int .i64 0, .string ⟨#[]⟩, .slice none 0 0, .slice none 0 0] 25)).cell? ⟨w.heap.size, 0, none⟩ = some (.pointer (some ⟨D, 0, none⟩)) := Go.Joins.cell_of_block hm2.pb 0
    have e0 := hm2.dec.c0
    have e2 := hm2.dec.c2
    have df := fun i => Go.Joins.unfrozen_of_block hm2.dec i
    have rf := fun i => hm2.rb.free i
    have r0 := hm2.rb.c0
    have r1 := hm2.rb.c1
    have r2 := hm2.rb.c2
    have r3 := hm2.rb.c3
    have r4 := hm2.rb.c4
    have HM2 := hid hm2
    have HBX := hid hbx
    clear hm1 hm2 hbx
    go_wp2_with fail
    clear p0 e0 e2 df rf r0 r1 r2 r3 r4
    have hlv8 : lv + 1 = 8 - (d : Int) := by have := HLV.out; omega
    have hdec : Dec (w1.alloc (.cells #[.int .i64 6, .int .i64 0, .string ⟨#[]⟩, .slice none 0 0, .slice none 0 0] 25)) D g least (8 - (d : Int)) := by rw [← hlv8]; exact HM2.out.dec
    have hz2 : (w1.alloc (.cells #[.int .i64 6, .int .i64 0, .string ⟨#[]⟩, .slice none 0 0, .slice none 0 0] 25)).heap.size = w1.heap.size + 1 := by simp
    have hpv : PV (w1.alloc (.cells #[.int .i64 6, .int .i64 0, .string ⟨#[]⟩, .slice none 0 0, .slice none 0 0] 25)) (w1.heap.size + 1) w1.heap.size 6 [] [] (.slice none 0 0) (.slice none 0 0) (fun _ => False) :=
      ⟨HBX.out, ⟨[], ⟨rfl, .inl ⟨rfl, rfl⟩⟩, fun j hj => absurd hj (by simp)⟩, ⟨rfl, .inl ⟨rfl, rfl⟩⟩, (fun s hs => by cases hs), fun _ h => h.elim, by omega⟩
    have hlt : g < w1.heap.size ∧ D < w1.heap.size ∧ w.heap.size < w1.heap.size := ⟨by omega, by omega, by omega⟩
    have hit : ∀ (st : Option (List UInt8)) (ts : List VT) (ns : List ByteArray) (VI VN : Value) (S : Nat → Prop) (w' : World), PV w' (w1.heap.size + 1) w1.heap.size 6 ts ns VI VN S → PB w' w.heap.size D → Dec w' D g least (8 - (d : Int)) → SrcL w' g st → w1.heap.size + 1 ≤ w'.heap.size → ts.length ≤ 100000 → ns.length ≤ 100000 →
        Calls Tryz.prog 174 #[.pointer (some ⟨w1.heap.size, 0, none⟩), .pointer (some ⟨w.heap.size, 0, none⟩)] w' (ItemG false d g w1.heap.size (w1.heap.size + 1) 6 least st ts ns w') := by
      intro st ts ns VI VN S w' h1 h2 h3 h4 h5 h6 h7
      have h8 := item1_any d hok D g w1.heap.size w.heap.size (w1.heap.size + 1) 6 least st ts ns VI VN S w' h1 h2 h3 h4 hDg (by omega) (by omega) hlt h5 h6
      exact h8.mono fun _ _ h => h.g
    have hc := items_any false 174 d D g w1.heap.size w.heap.size (w1.heap.size + 1) 6 least st1 _ _ _ _ hit hpv HM2.out.pb hdec HM2.out.src hDg (by omega) (by omega) hlt (by omega) enters_item1
    clear hit hpv hdec
    refine hc.mono ?_
    clear hc
    rintro e w3 ⟨ts, ns, st3, VI, VN, S, rfl, hpv3, ⟨hlts, hlns⟩, hs3, hf3, hrel⟩
    have hm3 := HM2.out.fars hs3 hf3 hDg hDl hgl hz1
    obtain ⟨AI, cI, rfl, hla⟩ := lva_of_row hpv3.items (fun b hb => ⟨(hpv3.new b hb).1, (hpv3.new b hb).2.1⟩)
    obtain ⟨AN, cN, rfl, hst⟩ := strs_of_row hpv3.names hpv3.small
    have hb3 := hpv3.box
    have p0 : (w3).cell? ⟨w.heap.size, 0, none⟩ = some (.pointer (some ⟨D, 0, none⟩)) := Go.Joins.cell_of_block hm3.pb 0
    have e0 := hm3.dec.c0
    have e2 := hm3.dec.c2
    have df := fun i => Go.Joins.unfrozen_of_block hm3.dec i
    have rf := fun i => hm3.rb.free i
    have r0 := hm3.rb.c0
    have r1 := hm3.rb.c1
    have r2 := hm3.rb.c2
    have r3 := hm3.rb.c3
    have r4 := hm3.rb.c4
    have v0 := hb3.c0
    have v1 := hb3.c1
    have v2 := hb3.c2
    have v3 := hb3.c3
    have v4 := hb3.c4
    have vf := fun i => hb3.free i
    have n1 : w1.heap.size ≠ D := by omega
    have n2 : w1.heap.size ≠ w.heap.size + 1 := by omega
    have n3 : w1.heap.size ≠ w.heap.size := by omega
    have HM3 := hid hm3
    have HB3 := hid hb3
    have HLA := hid hla
    have HSA := hid hst
    have HREL := hid hrel
    clear hm3 hb3 hrel hs3 hf3 hla hst hpv3 hlt hz2 hlv8
    go_wp2_with fail
    refine bodyPost_ret (results_cell_row rfl _ _ (w.heap.size + 1) 25 _ (0, 0) _ rfl (five_box (HM3.out.rb.other D 2 _ (by omega))) Tryz.underlying25 rfl (by kernel_rfl)) rfl ?_
    refine val_end (t := .mk 6 0 eS ts ns) HD.out HM3.out hDg hgl (LV.mk (S := New (w1.heap.size + 1) w3) (by unfold Rng; omega) (by unfold Rng; omega) (by decide) (by omega) (by omega) HSA.out HLA.out) (fun b hb => ⟨by have := hb.1; omega, hb.2⟩) ?_
    have h := HST.out
    subst h
    exact rel_items d 6 (by omega) least (by have := HKK.out; omega) HREL.out
  by_cases h7 : kk = 7
  · subst h7
    have hm2 := hm1.alloc (.cells #[.int .i64 7, .int .i64 0, .string ⟨#[]⟩, .slice none 0 0, .slice none 0 0] 25)
    have hbx : Box (w1.alloc (.cells #[.int .i64 7, .int .i64 0, .string ⟨#[]⟩, .slice none 0 0, .slice none 0 0] 25)) w1.heap.size _ _ _ _ _ := Box.new _ _ _ _ _
    have hz1 := hm1.size
    have p0 : (w1.alloc (.cells #[.int .i64 7, .int .i64 0, .string ⟨#[]⟩, .slice none 0 0, .slice none 0 0] 25)).cell? ⟨w.heap.size, 0, none⟩ = some (.pointer (some ⟨D, 0, none⟩)) := Go.Joins.cell_of_block hm2.pb 0
    have e0 := hm2.dec.c0
    have e2 := hm2.dec.c2
    have df := fun i => Go.Joins.unfrozen_of_block hm2.dec i
    have rf := fun i => hm2.rb.free i
    have r0 := hm2.rb.c0
    have r1 := hm2.rb.c1
    have r2 := hm2.rb.c2
    have r3 := hm2.rb.c3
    have r4 := hm2.rb.c4
    have HM2 := hid hm2
    have HBX := hid hbx
    clear hm1 hm2 hbx
    go_wp2_with fail
    clear p0 e0 e2 df rf r0 r1 r2 r3 r4
    have hlv8 : lv + 1 = 8 - (d : Int) := by have := HLV.out; omega
    have hdec : Dec (w1.alloc (.cells #[.int .i64 7, .int .i64 0, .string ⟨#[]⟩, .slice none 0 0, .slice none 0 0] 25)) D g least (8 - (d : Int)) := by rw [← hlv8]; exact HM2.out.dec
    have hz2 : (w1.alloc (.cells #[.int .i64 7, .int .i64 0, .string ⟨#[]⟩, .slice none 0 0, .slice none 0 0] 25)).heap.size = w1.heap.size + 1 := by simp
    have hpv : PV (w1.alloc (.cells #[.int .i64 7, .int .i64 0, .string ⟨#[]⟩, .slice none 0 0, .slice none 0 0] 25)) (w1.heap.size + 1) w1.heap.size 7 [] [] (.slice none 0 0) (.slice none 0 0) (fun _ => False) :=
      ⟨HBX.out, ⟨[], ⟨rfl, .inl ⟨rfl, rfl⟩⟩, fun j hj => absurd hj (by simp)⟩, ⟨rfl, .inl ⟨rfl, rfl⟩⟩, (fun s hs => by cases hs), fun _ h => h.elim, by omega⟩
    have hlt : g < w1.heap.size ∧ D < w1.heap.size ∧ w.heap.size < w1.heap.size := ⟨by omega, by omega, by omega⟩
    have hit : ∀ (st : Option (List UInt8)) (ts : List VT) (ns : List ByteArray) (VI VN : Value) (S : Nat → Prop) (w' : World), PV w' (w1.heap.size + 1) w1.heap.size 7 ts ns VI VN S → PB w' w.heap.size D → Dec w' D g least (8 - (d : Int)) → SrcL w' g st → w1.heap.size + 1 ≤ w'.heap.size → ts.length ≤ 100000 → ns.length ≤ 100000 →
        Calls Tryz.prog 175 #[.pointer (some ⟨w1.heap.size, 0, none⟩), .pointer (some ⟨w.heap.size, 0, none⟩)] w' (ItemG true d g w1.heap.size (w1.heap.size + 1) 7 least st ts ns w') := by
      intro st ts ns VI VN S w' h1 h2 h3 h4 h5 h6 h7
      have h8 := item2_any d hok D g w1.heap.size w.heap.size (w1.heap.size + 1) 7 least st ts ns VI VN S w' h1 h2 h3 h4 hDg (by omega) (by omega) hlt h5 h6 h7
      exact h8.mono fun _ _ h => h.g
    have hc := items_any true 175 d D g w1.heap.size w.heap.size (w1.heap.size + 1) 7 least st1 _ _ _ _ hit hpv HM2.out.pb hdec HM2.out.src hDg (by omega) (by omega) hlt (by omega) enters_item2
    clear hit hpv hdec
    refine hc.mono ?_
    clear hc
    rintro e w3 ⟨ts, ns, st3, VI, VN, S, rfl, hpv3, ⟨hlts, hlns⟩, hs3, hf3, hrel⟩
    have hm3 := HM2.out.fars hs3 hf3 hDg hDl hgl hz1
    obtain ⟨AI, cI, rfl, hla⟩ := lva_of_row hpv3.items (fun b hb => ⟨(hpv3.new b hb).1, (hpv3.new b hb).2.1⟩)
    obtain ⟨AN, cN, rfl, hst⟩ := strs_of_row hpv3.names hpv3.small
    have hb3 := hpv3.box
    have p0 : (w3).cell? ⟨w.heap.size, 0, none⟩ = some (.pointer (some ⟨D, 0, none⟩)) := Go.Joins.cell_of_block hm3.pb 0
    have e0 := hm3.dec.c0
    have e2 := hm3.dec.c2
    have df := fun i => Go.Joins.unfrozen_of_block hm3.dec i
    have rf := fun i => hm3.rb.free i
    have r0 := hm3.rb.c0
    have r1 := hm3.rb.c1
    have r2 := hm3.rb.c2
    have r3 := hm3.rb.c3
    have r4 := hm3.rb.c4
    have v0 := hb3.c0
    have v1 := hb3.c1
    have v2 := hb3.c2
    have v3 := hb3.c3
    have v4 := hb3.c4
    have vf := fun i => hb3.free i
    have n1 : w1.heap.size ≠ D := by omega
    have n2 : w1.heap.size ≠ w.heap.size + 1 := by omega
    have n3 : w1.heap.size ≠ w.heap.size := by omega
    have HM3 := hid hm3
    have HB3 := hid hb3
    have HLA := hid hla
    have HSA := hid hst
    have HREL := hid hrel
    clear hm3 hb3 hrel hs3 hf3 hla hst hpv3 hlt hz2 hlv8
    go_wp2_with fail
    refine bodyPost_ret (results_cell_row rfl _ _ (w.heap.size + 1) 25 _ (0, 0) _ rfl (five_box (HM3.out.rb.other D 2 _ (by omega))) Tryz.underlying25 rfl (by kernel_rfl)) rfl ?_
    refine val_end (t := .mk 7 0 eS ts ns) HD.out HM3.out hDg hgl (LV.mk (S := New (w1.heap.size + 1) w3) (by unfold Rng; omega) (by unfold Rng; omega) (by decide) (by omega) (by omega) HSA.out HLA.out) (fun b hb => ⟨by have := hb.1; omega, hb.2⟩) ?_
    have h := HST.out
    subst h
    exact rel_items d 7 (by omega) least (by have := HKK.out; omega) HREL.out
  have b2 := beq_false_of_ne h2
  have b3 := beq_false_of_ne h3
  have b4 := beq_false_of_ne h4
  have b5 := beq_false_of_ne h5
  have b6 := beq_false_of_ne h6
  have b7 := beq_false_of_ne h7
  have hm2 := hm1.alloc (.cells #[.int .i64 kk, .int .i64 0, .string ⟨#[]⟩, .slice none 0 0, .slice none 0 0] 25)
  have p0 : (w1.alloc (.cells #[.int .i64 kk, .int .i64 0, .string ⟨#[]⟩, .slice none 0 0, .slice none 0 0] 25)).cell? ⟨w.heap.size, 0, none⟩ = some (.pointer (some ⟨D, 0, none⟩)) := Go.Joins.cell_of_block hm2.pb 0
  have e0 := hm2.dec.c0
  have e2 := hm2.dec.c2
  have df := fun i => Go.Joins.unfrozen_of_block hm2.dec i
  have rf := fun i => hm2.rb.free i
  have r0 := hm2.rb.c0
  have r1 := hm2.rb.c1
  have r2 := hm2.rb.c2
  have r3 := hm2.rb.c3
  have r4 := hm2.rb.c4
  have hz1 := hm1.size
  have HM2 := hid hm2
  clear hm1 hm2
  go_wp2_with fail
  refine bodyPost_ret (results_cell_row rfl _ _ (w.heap.size + 1) 25 _ (0, 0) _ rfl (five_box (HM2.out.rb.other D 2 _ (by omega))) Tryz.underlying25 rfl (by kernel_rfl)) rfl ?_
  refine val_end (t := .mk kk 0 eS [] []) HD.out HM2.out hDg hgl (LV.mk (S := fun _ => False) (by have := HKK.out; have := rdByte_lt st; unfold Rng; omega) (by unfold Rng; omega) (by decide) (by simp) (by simp) (strs_nil _ _ _) (lva_nil _ _ _)) (fun _ h => h.elim) ?_
  have h := HST.out
  subst h
  have h := HKK.out
  subst h
  exact rel_other d least rfl (by omega) (by omega) (by omega) (by omega) (by omega) (by omega)
set_option maxHeartbeats 8000000 in
set_option maxRecDepth 100000 in
theorem val_zero : ValOK 0 := by
  intro D g least st w hd hs hDg
  have hDl := hd.lt
  have hgl := hs.lt
  have HD := hid hd
  have hm0 := Mid.first (lv' := 9) hd hs hDg
  have HM3 := hid hm0
  clear hs
  have hd2 := (hd.alloc (.cells #[.pointer (some ⟨D, 0, none⟩)] 158)).alloc (.cells #[.int .i64 0, .int .i64 0, .string ⟨#[]⟩, .slice none 0 0, .slice none 0 0] 25)
  have e0 := hm0.dec.c0
  have e2 := hm0.dec.c2
  have d0 := hd2.c0
  have d2 : ((w.alloc (.cells #[.pointer (some ⟨D, 0, none⟩)] 158)).alloc (.cells #[.int .i64 0, .int .i64 0, .string ⟨#[]⟩, .slice none 0 0, .slice none 0 0] 25)).cell? ⟨D, 2, none⟩ = some (.int .i64 8) := hd2.c2
  have df := fun i => Go.Joins.unfrozen_of_block hd2 i
  clear hd2 hd hm0
  go_enter Tryz.func139, Tryz.ntmps139
  go_wp2_with fail
  clear e0 e2 d0 d2 df
  refine (cspoil_st g st _ HM3.out.src).mono ?_
  rintro e w0 ⟨rfl, hs0, ho0⟩
  have hm1 := HM3.out.call hs0 ho0 hDg hgl
  clear HM3 ho0 hs0
  have p0 : (w0).cell? ⟨w.heap.size, 0, none⟩ = some (.pointer (some ⟨D, 0, none⟩)) := Go.Joins.cell_of_block hm1.pb 0
  have e0 := hm1.dec.c0
  have e2 := hm1.dec.c2
  have df := fun i => Go.Joins.unfrozen_of_block hm1.dec i
  have rf := fun i => hm1.rb.free i
  have r0 := hm1.rb.c0
  have r1 := hm1.rb.c1
  have r2 := hm1.rb.c2
  have r3 := hm1.rb.c3
  have r4 := hm1.rb.c4
  have HM1 := hid hm1
  clear hm1
  go_wp2_with fail
  clear p0 e0 e2 df rf r0 r1 r2 r3 r4
  refine (sbyte_any g none _ HM1.out.src).mono ?_
  rintro e w1 ⟨rfl, hs1, ho1⟩
  have hm1 := HM1.out.call hs1 ho1 hDg hgl
  have hz : (((rdByte none).1 : Nat) : Int) = 0 := rfl
  rw [hz]
  clear hz HM1 ho1 hs1
  have hm2 := hm1.alloc (.cells #[.int .i64 0, .int .i64 0, .string ⟨#[]⟩, .slice none 0 0, .slice none 0 0] 25)
  have p0 : (w1.alloc (.cells #[.int .i64 0, .int .i64 0, .string ⟨#[]⟩, .slice none 0 0, .slice none 0 0] 25)).cell? ⟨w.heap.size, 0, none⟩ = some (.pointer (some ⟨D, 0, none⟩)) := Go.Joins.cell_of_block hm2.pb 0
  have e0 := hm2.dec.c0
  have e2 := hm2.dec.c2
  have df := fun i => Go.Joins.unfrozen_of_block hm2.dec i
  have rf := fun i => hm2.rb.free i
  have r0 := hm2.rb.c0
  have r1 := hm2.rb.c1
  have r2 := hm2.rb.c2
  have r3 := hm2.rb.c3
  have r4 := hm2.rb.c4
  have hz1 := hm1.size
  have HM2 := hid hm2
  clear hm1 hm2
  go_wp2_with fail
  refine bodyPost_ret (results_cell_row rfl _ _ (w.heap.size + 1) 25 _ (0, 0) _ rfl (five_box (HM2.out.rb.other D 2 _ (by omega))) Tryz.underlying25 rfl (by kernel_rfl)) rfl ?_
  refine val_end (t := .mk 0 0 eS [] []) HD.out HM2.out hDg hgl (LV.mk (S := fun _ => False) (by unfold Rng; omega) (by unfold Rng; omega) (by decide) (by simp) (by simp) (strs_nil _ _ _) (lva_nil _ _ _)) (fun _ h => h.elim) ?_
  intro l u r _ hu
  cases hu
theorem val_any : ∀ d : Nat, d ≤ 8 → ValOK d
  | 0, _ => val_zero
  | d + 1, h => val_succ d (by omega) (val_any d (by omega))
def zeroT : VT := .mk 0 0 eS [] []
def readO : Option (List UInt8) → VT × Option (List UInt8)
  | none => (zeroT, none)
  | some l => match readS l with
    | some (t, r) => (t, some r)
    | none => (zeroT, none)
theorem readO_some (l : List UInt8) : readO (some l) = match readS l with
    | some (t, r) => (t, some r)
    | none => (zeroT, none) := rfl
theorem readO_good {st : Option (List UInt8)} {r : List UInt8} {t : VT} {least : Int} (h : Rel 8 least st t (some r)) (hc : checkT t = 0) : readO st = (t, some r) := by
  obtain ⟨l, rfl, h1⟩ := h
  have h2 : readS l = some (t, r) := by unfold readS; rw [h1]; simp [hc]
  rw [readO_some, h2]
theorem readO_strange {st : Option (List UInt8)} {r : List UInt8} {t : VT} {least : Int} (h : Rel 8 least st t (some r)) (hc : checkT t ≠ 0) : readO st = (zeroT, none) := by
  obtain ⟨l, rfl, h1⟩ := h
  have h2 : readS l = none := by unfold readS; rw [h1]; simp [hc]
  rw [readO_some, h2]
theorem readO_bad {st : Option (List UInt8)} {t : VT} {least : Int} (h : Rel 8 least st t none) (hl : least ≤ (leftN st : Int) - 4096) (hs : leftN st ≤ 9223372036854775807) : readO st = (zeroT, none) := by
  rcases st with _ | l
  · rfl
  · cases hr : readS l with
    | none => rw [readO_some, hr]
    | some p =>
      obtain ⟨u, r⟩ := p
      have hs' : l.length ≤ 9223372036854775807 := hs
      obtain ⟨h1, h2, h3, h4, h5⟩ := readS_some hr hs'
      have hz := size_of_rd h4 h1.may
      have h6 := h1.size
      have hl' : least ≤ (l.length : Int) - 4096 := hl
      rcases h l u r rfl h4 with h7 | h7
      · rw [h1.may] at h7; cases h7
      · omega
theorem srcL_left {w : World} {g : Nat} {st : Option (List UInt8)} (h : SrcL w g st) : leftN st ≤ 9223372036854775807 := by
  cases st with
  | none => simp [leftN]
  | some l => exact h.2
theorem zero_lv (w : World) (S : Nat → Prop) : LV w S zeroT (.agg #[.int .i64 0, .int .i64 0, .string eS, .slice none 0 0, .slice none 0 0]) :=
  LV.mk (by unfold Rng; omega) (by unfold Rng; omega) (by decide) (by simp) (by simp) (strs_nil _ _ _) (lva_nil _ _ _)
theorem rel_depth {st : Option (List UInt8)} {r : List UInt8} {t : VT} {d : Nat} {least : Int} (h : Rel d least st t (some r)) : depthT t ≤ d := by
  obtain ⟨l, -, h1⟩ := h
  exact (rdW_deep d t l r h1).1.1
def ReadR (g : Nat) (st : Option (List UInt8)) (w : World) (e : Ending) (w' : World) : Prop :=
  ∃ v, e = .returned v ∧ SrcL w' g (readO st).2 ∧ Only w w' g ∧ LV w' (NewB w.heap.size w') (readO st).1 v
theorem read_end {w w4 : World} {g : Nat} {st st' : Option (List UInt8)} {S : Nat → Prop} {t : VT} {c0 c1 c2 c3 c4 : Value} (hs : SrcL w4 g st') (ho : Only w w4 g) (hz : w.heap.size + 1 ≤ w4.heap.size) (hg : g < w.heap.size)
    (hv : LV w4 S t (.agg #[c0, c1, c2, c3, c4])) (hS : ∀ b, S b → w.heap.size + 1 ≤ b ∧ b < w4.heap.size) (hr : readO st = (t, st')) :
    ReadR g st w (.returned (.agg #[c0, c1, c2, c3, c4])) (five w4 w.heap.size 0 c0 c1 c2 c3 c4) := by
  have hr5 := five_rest w4 w.heap.size 0 c0 c1 c2 c3 c4
  have hsz := five_size w4 w.heap.size 0 c0 c1 c2 c3 c4
  refine ⟨_, rfl, ?_, ⟨hr5.1.trans ho.os, hr5.2.1.trans ho.tape, hr5.2.2.trans ho.output, by rw [hsz]; omega, fun b hb hbg => ?_⟩, ?_⟩
  · rw [hr]; exact hs.of (five_other _ _ _ _ _ _ _ _ g (by omega))
  · rw [five_other _ _ _ _ _ _ _ _ b (by omega)]; exact ho.block b hb hbg
  · rw [hr]
    refine (hv.keep (w' := _) fun b hb => five_other _ _ _ _ _ _ _ _ b (by have := hS b hb; omega)).imp fun b hb => ?_
    have := hS b hb
    exact ⟨by omega, by rw [hsz]; omega⟩
set_option maxHeartbeats 8000000 in
set_option maxRecDepth 100000 in
theorem cread_any (g : Nat) (st : Option (List UInt8)) (w : World) (hs : SrcL w g st) : Calls Tryz.prog 106 #[.pointer (some ⟨g, 0, none⟩)] w (ReadR g st w) := by
  have hgl := hs.lt
  have hleft := srcL_left hs
  have ho1 : Only w (w.alloc (.cells #[.int .i64 0, .int .i64 0, .string ⟨#[]⟩, .slice none 0 0, .slice none 0 0] 25)) g := ⟨rfl, rfl, rfl, by simp, fun b hb _ => Below.heap_alloc w _ b hb⟩
  have hs1 := hs.alloc (.cells #[.int .i64 0, .int .i64 0, .string ⟨#[]⟩, .slice none 0 0, .slice none 0 0] 25)
  have hb1 : Box (w.alloc (.cells #[.int .i64 0, .int .i64 0, .string ⟨#[]⟩, .slice none 0 0, .slice none 0 0] 25)) w.heap.size _ _ _ _ _ := Box.new _ _ _ _ _
  have HS1 := hid hs1
  have HO1 := hid ho1
  have HB1 := hid hb1
  clear hs hs1 ho1 hb1
  go_enter Tryz.func106, Tryz.ntmps106
  go_wp2_with (go_at_call 28; refine (cleft_st g st _ HS1.out).mono ?_; rintro e w' ⟨rfl, rfl⟩)
  have hz1 : (w.alloc (.cells #[.int .i64 0, .int .i64 0, .string ⟨#[]⟩, .slice none 0 0, .slice none 0 0] 25)).heap.size = w.heap.size + 1 := by simp
  have hdec : Dec ((w.alloc (.cells #[.int .i64 0, .int .i64 0, .string ⟨#[]⟩, .slice none 0 0, .slice none 0 0] 25)).alloc (.cells #[.pointer (some ⟨g, 0, none⟩), .int .i64 ((leftN st : Int) - 4096), .int .i64 0] 133)) (w.heap.size + 1) g ((leftN st : Int) - 4096) (8 - ((8 : Nat) : Int)) := by
    have h := heap_alloc_new (w.alloc (.cells #[.int .i64 0, .int .i64 0, .string ⟨#[]⟩, .slice none 0 0, .slice none 0 0] 25)) (.cells #[.pointer (some ⟨g, 0, none⟩), .int .i64 ((leftN st : Int) - 4096), .int .i64 0] 133)
    rw [hz1] at h
    exact h
  have ho2 : Only w ((w.alloc (.cells #[.int .i64 0, .int .i64 0, .string ⟨#[]⟩, .slice none 0 0, .slice none 0 0] 25)).alloc (.cells #[.pointer (some ⟨g, 0, none⟩), .int .i64 ((leftN st : Int) - 4096), .int .i64 0] 133)) g := ⟨rfl, rfl, rfl, by simp; omega, fun b hb _ => (Below.heap_alloc _ _ b (by omega)).trans (Below.heap_alloc w _ b hb)⟩
  have hz2 : ((w.alloc (.cells #[.int .i64 0, .int .i64 0, .string ⟨#[]⟩, .slice none 0 0, .slice none 0 0] 25)).alloc (.cells #[.pointer (some ⟨g, 0, none⟩), .int .i64 ((leftN st : Int) - 4096), .int .i64 0] 133)).heap.size = w.heap.size + 2 := by simp
  have hb2 := HB1.out.alloc (.cells #[.pointer (some ⟨g, 0, none⟩), .int .i64 ((leftN st : Int) - 4096), .int .i64 0] 133)
  refine (val_any 8 (Nat.le_refl 8) (w.heap.size + 1) g ((leftN st : Int) - 4096) st _ hdec (HS1.out.alloc _) (by omega)).mono ?_
  rintro e w1 ⟨v, t, st', rfl, hs1, ho1, hv1, hrel⟩
  obtain ⟨T3, d3, T4, d4, rfl, -⟩ := hv1.shape
  have hb3 := box_only hb2 ho1 (by omega)
  have ho3 := ho2.trans ho1
  have hz3 : w.heap.size + 2 ≤ w1.heap.size := by have := ho1.size; omega
  have hS : ∀ b, NewB ((w.alloc (.cells #[.int .i64 0, .int .i64 0, .string ⟨#[]⟩, .slice none 0 0, .slice none 0 0] 25)).alloc (.cells #[.pointer (some ⟨g, 0, none⟩), .int .i64 ((leftN st : Int) - 4096), .int .i64 0] 133)).heap.size w1 b → w.heap.size + 1 ≤ b ∧ b < w1.heap.size := fun b hb => ⟨by have := hb.1; omega, hb.2⟩
  have hv2 := hv1.imp hS
  clear hb2 ho1 ho2 hz1 hz2 hv1 hS hdec HS1 HO1 HB1
  have hs4 := hs1.alloc (.cells #[.int .i64 t.kind, .int .i64 t.num, .string t.text, .slice T3 t.items.length d3, .slice T4 t.names.length d4] 25)
  have hb4 := hb3.alloc (.cells #[.int .i64 t.kind, .int .i64 t.num, .string t.text, .slice T3 t.items.length d3, .slice T4 t.names.length d4] 25)
  have ho4 : Only w (w1.alloc (.cells #[.int .i64 t.kind, .int .i64 t.num, .string t.text, .slice T3 t.items.length d3, .slice T4 t.names.length d4] 25)) g := ho3.trans ⟨rfl, rfl, rfl, by simp, fun b hb _ => Below.heap_alloc w1 _ b hb⟩
  have hv4 : LV (w1.alloc (.cells #[.int .i64 t.kind, .int .i64 t.num, .string t.text, .slice T3 t.items.length d3, .slice T4 t.names.length d4] 25)) (fun b => w.heap.size + 1 ≤ b ∧ b < w1.heap.size) t _ := hv2.keep fun b hb => Below.heap_alloc w1 _ b hb.2
  have hz4 : (w1.alloc (.cells #[.int .i64 t.kind, .int .i64 t.num, .string t.text, .slice T3 t.items.length d3, .slice T4 t.names.length d4] 25)).heap.size = w1.heap.size + 1 := by simp
  have HX : Hid (Box (w1.alloc (.cells #[.int .i64 t.kind, .int .i64 t.num, .string t.text, .slice T3 t.items.length d3, .slice T4 t.names.length d4] 25)) w1.heap.size _ _ _ _ _) := hid (Box.new _ _ _ _ _)
  have HS4 := hid hs4
  have HB4 := hid hb4
  have HO4 := hid ho4
  have HV4 := hid hv4
  have HREL := hid hrel
  have HZ4 := hid hz4
  clear hs1 hb3 ho3 hv2 hs4 hb4 ho4 hv4 hrel hz4
  go_wp2_with fail
  rcases st' with _ | r'
  · refine (cbad_none g _ HS4.out).mono ?_
    rintro e w2 ⟨rfl, rfl⟩
    go_wp2_with fail
    refine (cspoil_st g _ _ HS4.out).mono ?_
    rintro e w3 ⟨rfl, hs5, ho5⟩
    have hb5 := box_only HB4.out ho5 (by omega)
    have ho6 := HO4.out.trans ho5
    have hz6 : w.heap.size + 1 ≤ w3.heap.size := by have := ho5.size; have := HZ4.out; omega
    have rf : ∀ i, (w3).frozen? ⟨w.heap.size, i, none⟩ = false := fun i => hb5.free i
    have r0 := hb5.c0
    have r1 := hb5.c1
    have r2 := hb5.c2
    have r3 := hb5.c3
    have r4 := hb5.c4
    have HB5 := hid hb5
    have HO6 := hid ho6
    have HS5 := hid hs5
    clear hb5 ho5 ho6 hs5
    go_wp2_with fail
    refine bodyPost_ret (results_cell_row rfl _ _ w.heap.size 25 _ (0, 0) _ rfl (five_box HB5.out) Tryz.underlying25 rfl (by kernel_rfl)) rfl ?_
    exact read_end (t := zeroT) HS5.out HO6.out hz6 hgl (zero_lv _ (fun _ => False)) (fun _ h => h.elim) (readO_bad HREL.out (Int.le_refl _) hleft)
  · refine (cbad_some g r' _ HS4.out).mono ?_
    rintro e w2 ⟨rfl, rfl⟩
    go_wp2_with fail
    refine (check_any _ t _ _ (fun b hb => by have := HZ4.out; have := hb.2; omega) HV4.out (by have := rel_depth HREL.out; omega)).mono ?_
    rintro e w2 ⟨rfl, hb2⟩
    have ho2 : Only w w2 g := HO4.out.trans ⟨hb2.os, hb2.tape, hb2.output, hb2.size, fun b hb _ => hb2.block b hb⟩
    have hs2 := HS4.out.of (hb2.block g HS4.out.lt)
    have hbx := HB4.out.call hb2
    have hx2 := HX.out.call hb2
    have hv2 : LV w2 (fun b => w.heap.size + 1 ≤ b ∧ b < w1.heap.size) t _ := HV4.out.keep fun b hb => hb2.block b (by have := HZ4.out; have := hb.2; omega)
    have hz2 : w1.heap.size + 1 ≤ w2.heap.size := by have := HZ4.out; have := hb2.size; omega
    have HS2 := hid hs2
    have HBX := hid hbx
    have HX2 := hid hx2
    have HV2 := hid hv2
    have HO2 := hid ho2
    clear hb2 ho2 hs2 hbx hx2 hv2 HS4 HB4 HV4 HO4 HZ4 HX
    obtain ⟨x, hx⟩ : ∃ x, x = checkT t := ⟨_, rfl⟩
    rw [← hx]
    have HC := hid hx
    clear hx
    by_cases h0 : x = 0
    · subst h0
      have rf : ∀ i, (w2).frozen? ⟨w.heap.size, i, none⟩ = false := fun i => HBX.out.free i
      have r0 := HBX.out.c0
      have r1 := HBX.out.c1
      have r2 := HBX.out.c2
      have r3 := HBX.out.c3
      have r4 := HBX.out.c4
      have v0 := HX2.out.c0
      have v1 := HX2.out.c1
      have v2 := HX2.out.c2
      have v3 := HX2.out.c3
      have v4 := HX2.out.c4
      go_wp2_with fail
      refine bodyPost_ret (results_cell_row rfl _ _ w.heap.size 25 _ (0, 0) _ rfl (five_box HBX.out) Tryz.underlying25 rfl (by kernel_rfl)) rfl ?_
      exact read_end HS2.out HO2.out (by omega) hgl HV2.out (fun b hb => ⟨hb.1, by have := hb.2; omega⟩) (readO_good HREL.out HC.out.symm)
    · have h1 : (x == 0) = false := beq_false_of_ne h0
      have h2 : (x != 0) = true := by simp [h0]
      go_wp2_with fail
      refine (cspoil_st g _ _ HS2.out).mono ?_
      rintro e w3 ⟨rfl, hs5, ho5⟩
      have hb5 := box_only HBX.out ho5 (by omega)
      have ho6 := HO2.out.trans ho5
      have hz6 : w.heap.size + 1 ≤ w3.heap.size := by have := ho5.size; omega
      have rf : ∀ i, (w3).frozen? ⟨w.heap.size, i, none⟩ = false := fun i => hb5.free i
      have r0 := hb5.c0
      have r1 := hb5.c1
      have r2 := hb5.c2
      have r3 := hb5.c3
      have r4 := hb5.c4
      have HB5 := hid hb5
      have HO6 := hid ho6
      have HS5 := hid hs5
      clear hb5 ho5 ho6 hs5
      go_wp2_with fail
      refine bodyPost_ret (results_cell_row rfl _ _ w.heap.size 25 _ (0, 0) _ rfl (five_box HB5.out) Tryz.underlying25 rfl (by kernel_rfl)) rfl ?_
      exact read_end (t := zeroT) HS5.out HO6.out hz6 hgl (zero_lv _ (fun _ => False)) (fun _ h => h.elim) (readO_strange HREL.out (fun h => h0 (HC.out.trans h)))
set_option maxHeartbeats 4000000 in
theorem rnone7_any (S : Nat → Prop) (t : VT) (v : Value) (w : World) (hS : ∀ b, S b → b < w.heap.size) (h : LV w S t v) :
    Calls Tryz.prog 49 #[v] w fun e w' => e = .returned (.bool (noneT t)) ∧ Below w.heap.size w w' := by
  obtain ⟨A, ca, A', ca', rfl, -, -, -, v1, hb⟩ := one_var hS h
  have q0 := v1.x.c0
  have q1 := v1.x.c1
  have q2 := v1.x.c2
  have q3 := v1.x.c3
  have q4 := v1.x.c4
  have HB := hid hb
  have HS := hid (rsame_any S (depthT t) t (.mk 0 0 ⟨#[]⟩ [] []) _ (.agg #[.int .i64 0, .int .i64 0, .string ⟨#[]⟩, .slice none 0 0, .slice none 0 0]) _ (Nat.le_refl _) v1.s v1.v (zero_lv _ _))
  clear h v1 hb
  go_enter Tryz.func49, Tryz.ntmps49
  go_wp2_with fail
  refine HS.out.mono ?_
  rintro e u ⟨⟨r, rfl, hr⟩, hb2⟩
  have HB2 := hid (HB.out.trans (hb2.mono HB.out.size))
  have HR := hid hr
  clear hb2 hr HS
  go_wp2_with fail
  go_ret
  refine ⟨?_, HB2.out⟩
  have e : r = noneT t := by rw [Bool.eq_iff_iff, HR.out, noneT_iff]
  rw [← e]
  rfl
def idxF : Nat → List UInt8 → Option Nat
  | n, [] => some n
  | n, b :: r => if b.toNat < 48 ∨ 57 < b.toNat then none else if 999 < 10 * n + (b.toNat - 48) then none else idxF (10 * n + (b.toNat - 48)) r
def idxP (l : List UInt8) : Option Nat := if l = [] ∨ (l.head? = some 48 ∧ l.length ≠ 1) then none else idxF 0 l

theorem below_iter (w : World) (s : ByteArray) (k : Nat) : Below w.heap.size w (w.iter s k) := (Below.refl _ _).alloc (Nat.le_refl _) _
theorem idxP_go {s : ByteArray} (h0 : 0 < s.size) (h : ¬ (s[0].toNat = 48 ∧ ¬ s.toList = [48])) : idxP s.data.toList = idxF 0 s.data.toList := by
  unfold idxP
  rw [if_neg]
  rintro (h1 | ⟨h1, h2⟩)
  · have h2 := congrArg List.length h1
    have hl : s.data.toList.length = s.size := rfl
    rw [hl, List.length_nil] at h2; omega
  · have e : s.data.toList[0]? = some s[0] := by rw [List.getElem?_eq_getElem (by exact h0)]; rfl
    rw [List.head?_eq_getElem?, e] at h1
    injection h1 with h1
    refine h ⟨by rw [h1]; rfl, fun h3 => h2 ?_⟩
    rw [ByteArray.toList_eq] at h3
    rw [h3]; rfl
theorem idxP_zero {s : ByteArray} (h0 : 0 < s.size) (h : s[0].toNat = 48) (h2 : ¬ s.toList = [48]) : idxP s.data.toList = none := by
  unfold idxP
  rw [if_pos]
  refine .inr ⟨?_, fun h3 => h2 ?_⟩
  · have e : s.data.toList[0]? = some s[0] := by rw [List.getElem?_eq_getElem (by exact h0)]; rfl
    rw [List.head?_eq_getElem?, e]
    exact congrArg some (UInt8.toNat_inj.1 h)
  · rw [ByteArray.toList_eq]
    have e : s.data.toList[0]? = some s[0] := by rw [List.getElem?_eq_getElem (by exact h0)]; rfl
    match hl : s.data.toList, h3 with
    | [b], _ =>
      rw [hl] at e
      injection e with e
      rw [e]
      exact congrArg (fun x => [x]) (UInt8.toNat_inj.1 h)
theorem idxF_bad {s : ByteArray} {k m : Nat} (h : k < s.size) (hb : s[k].toNat < 48 ∨ 57 < s[k].toNat) : idxF m (s.data.toList.drop k) = none := by
  rw [drop_cons s k h]; unfold idxF; rw [if_pos hb]
theorem idxF_on {s : ByteArray} {k m : Nat} (h : k < s.size) (hb : ¬ (s[k].toNat < 48 ∨ 57 < s[k].toNat)) (hl : ¬ 999 < 10 * m + (s[k].toNat - 48)) : idxF m (s.data.toList.drop k) = idxF (10 * m + (s[k].toNat - 48)) (s.data.toList.drop (k + 1)) := by
  rw [drop_cons s k h]; conv => lhs; unfold idxF
  rw [if_neg hb, if_neg hl]

/-! ### by the document -/
theorem idxF_long : ∀ (j n : Nat) (l : List UInt8), 10 ^ j ≤ n → 3 ≤ l.length + j → 0 < l.length → j ≤ 2 → idxF n l = none
  | j, n, [], _, _, h, _ => absurd h (by simp)
  | j, n, b :: r, hn, hl, _, hj => by
    unfold idxF
    split
    · rfl
    · split
      · rfl
      · next hb hv =>
        have hp : 0 < 10 ^ j := Nat.pow_pos (by omega)
        have e : (10 : Nat) ^ (j + 1) = 10 * 10 ^ j := by rw [Nat.pow_succ]; omega
        by_cases h2 : j = 2
        · subst h2
          omega
        · refine idxF_long (j + 1) _ r (by omega) (by simp at hl; omega) (by simp at hl; omega) (by omega)
theorem idxP_long {l : List UInt8} (h : 3 < l.length) : idxP l = none := by
  unfold idxP
  split
  · rfl
  · next hc =>
    match l, h with
    | b :: r, h =>
      unfold idxF
      split
      · rfl
      · split
        · rfl
        · next hb hv =>
          have h48 : b.toNat ≠ 48 := fun h3 => hc (.inr ⟨congrArg some (UInt8.toNat_inj.1 h3), by omega⟩)
          exact idxF_long 0 _ r (by simp; omega) (by simp at h; omega) (by simp at h; omega) (by omega)
def idxI (l : List UInt8) : Int := match idxP l with | some n => n | none => -1
theorem idxI_none {l : List UInt8} (h : idxP l = none) : idxI l = -1 := by unfold idxI; rw [h]
theorem idxI_some {l : List UInt8} {n : Nat} (h : idxP l = some n) : idxI l = n := by unfold idxI; rw [h]
theorem ret_i64' {a b : Int} (h : a = b) : Ending.returned (.int .i64 a) = .returned (.int .i64 b) := by rw [h]
theorem idxF_bound {k m : Nat} (h : m < 10 ^ k) (hk : k < 3) (d : Nat) (hd : d ≤ 9) : 10 * m + d < 10 ^ (k + 1) ∧ 10 * m + d ≤ 999 := by
  have e : (10 : Nat) ^ (k + 1) = 10 * 10 ^ k := by rw [Nat.pow_succ]; omega
  have h3 : (10 : Nat) ^ k ≤ 10 ^ 2 := Nat.pow_le_pow_right (by omega) (by omega)
  have : (10 : Nat) ^ 2 = 100 := by decide
  omega

set_option maxHeartbeats 2000000 in
theorem rindex_any (s : ByteArray) (w : World) (hs : s.size ≤ 140737488351232) : Calls Tryz.prog 149 #[.string s] w fun e w' => e = .returned (.int .i64 (idxI s.data.toList)) ∧ w = w' := by
  have HS := hid hs
  have hlen : s.data.toList.length = s.size := rfl
  have HL := hid hlen
  clear hs hlen
  by_cases h1 : s.size < 1
  · have h1' : (s.size : Int) < 1 := by omega
    go_enter Tryz.func149, Tryz.ntmps149
    go_wp2_with fail
    go_ret
    exact ⟨ret_i64' (idxI_none (by unfold idxP; rw [if_pos (.inl (List.eq_nil_of_length_eq_zero (by have := HL.out; omega)))])).symm, rfl⟩
  · by_cases h3 : 3 < s.size
    · have h1' : (1 : Int) ≤ (s.size : Int) := by omega
      have h3' : (3 : Int) < (s.size : Int) := by omega
      have H3 := hid h3
      clear h1 h3
      go_enter Tryz.func149, Tryz.ntmps149
      go_wp2_with fail
      go_ret
      exact ⟨ret_i64' (idxI_none (idxP_long (by have := HL.out; have := H3.out; omega))).symm, rfl⟩
    · have h0 : 0 < s.size := by omega
      have h1' : (1 : Int) ≤ (s.size : Int) := by omega
      have h3' : (s.size : Int) ≤ 3 := by omega
      have H3 := hid (show 0 < s.size ∧ s.size ≤ 3 from ⟨h0, by omega⟩)
      clear h1 h3
      by_cases c1 : s[0].toNat = 48 ∧ 1 < s.size
      · have b1 : (s[0].toNat : Int) = 48 := by omega
        have b2 : (1 : Int) < (s.size : Int) := by omega
        have C1 := hid c1
        clear c1
        go_enter Tryz.func149, Tryz.ntmps149
        go_wp2_with fail
        go_ret
        exact ⟨ret_i64' (idxI_none (idxP_zero H3.out.1 C1.out.1 fun h => by
          have h4 := congrArg List.length h
          rw [ByteArray.toList_eq, HL.out, List.length_singleton] at h4
          have := C1.out.2; omega)).symm, rfl⟩
      · have HI := hid (idxP_go h0 fun h => c1 ⟨h.1, Classical.byContradiction fun h4 => h.2 (by
          have h5 : s.data.toList.length = 1 := by have := HL.out; omega
          have e : s.data.toList[0]? = some s[0] := by rw [List.getElem?_eq_getElem (by exact h0)]; rfl
          rw [ByteArray.toList_eq]
          match hl : s.data.toList, h5 with
          | [b], _ =>
            rw [hl] at e
            injection e with e
            rw [e]
            exact congrArg (fun x => [x]) (UInt8.toNat_inj.1 h.1))⟩)
        have c2 : ((s[0].toNat : Int) = 48 ∧ (s.size : Int) ≤ 1) ∨ (((s[0].toNat : Int) == 48) = false ∧ ¬ (s[0].toNat : Int) = 48) := by
          by_cases c3 : s[0].toNat = 48
          · exact .inl ⟨by omega, by omega⟩
          · exact .inr ⟨beq_eq_false_iff_ne.2 (by omega), by omega⟩
        clear c1
        rcases c2 with ⟨b1, b2⟩ | ⟨b1, b2⟩
        all_goals
          go_enter Tryz.func149, Tryz.ntmps149
          go_wp2_with fail
          go_loopw [3, 4] (fun n i wr => ∃ k m : Nat, i = .int .i64 k ∧ n = .int .i64 m ∧ m ≤ 999 ∧ k ≤ s.size ∧ wr = w ∧ Hid (m < 10 ^ k ∧ idxF m (s.data.toList.drop k) = idxF 0 s.data.toList)) (fun _ i _ => s.size - (intOf i).toNat)
          case atStart => exact ⟨0, 0, rfl, rfl, by omega, by omega, rfl, by simp, rfl⟩
          case round =>
            obtain ⟨k, m, rfl, rfl, hm, hk, rfl, HF⟩ := hrel
            by_cases hp : k < s.size
            · by_cases hb : s[k].toNat < 48 ∨ 57 < s[k].toNat
              · have HB := hid hb
                by_cases hc : (s[k].toNat : Int) < 48
                · clear hb
                  go_wp2_with fail
                  go_ret
                  exact ⟨ret_i64' (idxI_none (by rw [HI.out, ← HF.out.2, idxF_bad hp HB.out])).symm, rfl⟩
                · have hc2 : (48 : Int) ≤ (s[k].toNat : Int) := by omega
                  have hc3 : (57 : Int) < (s[k].toNat : Int) := by omega
                  clear hb hc
                  go_wp2_with fail
                  go_ret
                  exact ⟨ret_i64' (idxI_none (by rw [HI.out, ← HF.out.2, idxF_bad hp HB.out])).symm, rfl⟩
              · have HB := hid hb
                have hd := idxF_bound HF.out.1 (by omega) (s[k].toNat - 48) (by omega)
                have HD := hid hd
                have b1 : (48 : Int) ≤ (s[k].toNat : Int) := by omega
                have b2 : (s[k].toNat : Int) ≤ 57 := by omega
                have m1 : (m : Int) ≤ 999 := by omega
                clear hb hd
                go_wp2_with fail
                go_roundw
                case rel => exact ⟨k + 1, 10 * m + (s[k].toNat - 48), by go_num, by congr 1; omega, HD.out.2, by omega, trivial, HD.out.1, (idxF_on hp HB.out (by have := HD.out.2; omega)).symm.trans HF.out.2⟩
                case measure => simp [intOf]; omega
            · go_wp2_with fail
              go_ret
              exact ⟨ret_i64' (idxI_some (by rw [HI.out, ← HF.out.2, List.drop_of_length_le (by show s.size ≤ k; omega)]; rfl)).symm, rfl⟩
end Go.Proofs.YtpcdngpppjdgcaaGreat
