/- The decoder's value. -/
import Derived.Test.YtipiplnhbecjeaaKCodQ
import Derived.Test.YtipiplnhbecjeaaKVarH
import Derived.Test.YtipiplnhbecjeaaKCodU
import Derived.Test.YtipiplnhbecjeaaKCodT
namespace Go.Proofs.Ytipiplnhbecjeaa
set_option linter.unusedVariables false
set_option linter.unusedSimpArgs false
set_option maxRecDepth 100000
open Go.RowKit
theorem Dec.set {w : World} {D g : Nat} {least lv : Int} (h : Dec w D g least lv) (x : Int) : Dec (w.setCell ⟨D, 2, none⟩ (.int .i64 x)) D g least x := Go.Joins.block_setCell (i := 2) h _
theorem Dec.c0 {w : World} {D g : Nat} {least lv : Int} (h : Dec w D g least lv) : w.cell? ⟨D, 0, none⟩ = some (.pointer (some ⟨g, 0, none⟩)) := Go.Joins.cell_of_block h 0
theorem Dec.c1 {w : World} {D g : Nat} {least lv : Int} (h : Dec w D g least lv) : w.cell? ⟨D, 1, none⟩ = some (.int .i64 least) := Go.Joins.cell_of_block h 1
theorem Dec.c2 {w : World} {D g : Nat} {least lv : Int} (h : Dec w D g least lv) : w.cell? ⟨D, 2, none⟩ = some (.int .i64 lv) := Go.Joins.cell_of_block h 2
theorem Dec.alloc {w : World} {D g : Nat} {least lv : Int} (h : Dec w D g least lv) (o : Obj) : Dec (w.alloc o) D g least lv := (Below.heap_alloc w o D h.lt).trans h
/-- While a value is read: w, as the call began. -/
structure Mid (w w' : World) (D g : Nat) (least lv : Int) (st : Option (List UInt8)) : Prop where
  dec : Dec w' D g least lv
  pb : PB w' w.heap.size D
  rb : Box w' (w.heap.size + 1) (.int .i64 0) (.int .i64 0) (.string ⟨#[]⟩) (.slice none 0 0) (.slice none 0 0)
  src : SrcL w' g st
  os : w'.os = w.os
  tape : w'.tape = w.tape
  output : w'.output = w.output
  far : ∀ b, b < w.heap.size → b ≠ g → b ≠ D → w'.heap[b]? = w.heap[b]?
  size : w.heap.size + 2 ≤ w'.heap.size
theorem Mid.first {w : World} {D g : Nat} {least lv lv' : Int} {st : Option (List UInt8)} (hd : Dec w D g least lv) (hs : SrcL w g st) (hDg : D ≠ g) :
    Mid w (((w.setCell ⟨D, 2, none⟩ (.int .i64 lv')).alloc (.cells #[.pointer (some ⟨D, 0, none⟩)] 98)).alloc (.cells #[.int .i64 0, .int .i64 0, .string ⟨#[]⟩, .slice none 0 0, .slice none 0 0] 25)) D g least lv' st := by
  have hz : (w.setCell ⟨D, 2, none⟩ (.int .i64 lv')).heap.size = w.heap.size := by simp
  have hz2 : ((w.setCell ⟨D, 2, none⟩ (.int .i64 lv')).alloc (.cells #[.pointer (some ⟨D, 0, none⟩)] 98)).heap.size = w.heap.size + 1 := by simp
  have hk : ∀ b, b < w.heap.size → b ≠ D → (((w.setCell ⟨D, 2, none⟩ (.int .i64 lv')).alloc (.cells #[.pointer (some ⟨D, 0, none⟩)] 98)).alloc (.cells #[.int .i64 0, .int .i64 0, .string ⟨#[]⟩, .slice none 0 0, .slice none 0 0] 25)).heap[b]? = w.heap[b]? := fun b hb hbD => by
    rw [Below.heap_alloc _ _ b (by omega), Below.heap_alloc _ _ b (by omega), heap_setCell_other _ ⟨D, 2, none⟩ b _ hbD]
  refine ⟨((hd.set lv').alloc _).alloc _, ?_, ?_, hs.of (hk g hs.lt (fun e => hDg e.symm)), rfl, rfl, rfl, fun b hb _ hbD => hk b hb hbD, by simp⟩
  · have h := heap_alloc_new (w.setCell ⟨D, 2, none⟩ (.int .i64 lv')) (.cells #[.pointer (some ⟨D, 0, none⟩)] 98)
    rw [hz] at h
    exact (Below.heap_alloc _ _ _ (by omega)).trans h
  · have h := Box.new (w := (w.setCell ⟨D, 2, none⟩ (.int .i64 lv')).alloc (.cells #[.pointer (some ⟨D, 0, none⟩)] 98)) (.int .i64 0) (.int .i64 0) (.string ⟨#[]⟩) (.slice none 0 0) (.slice none 0 0)
    rw [hz2] at h
    exact h
theorem Mid.call {w w1 w2 : World} {D g : Nat} {least lv : Int} {st st' : Option (List UInt8)} (h : Mid w w1 D g least lv st) (hs : SrcL w2 g st') (ho : Only w1 w2 g) (hDg : D ≠ g) (hg : g < w.heap.size) : Mid w w2 D g least lv st' := by
  have hz := h.size
  have hk : ∀ b, b < w1.heap.size → b ≠ g → w2.heap[b]? = w1.heap[b]? := fun b hb hbg => ho.block b hb (fun e => hbg (by cases e; rfl))
  exact ⟨(hk D h.dec.lt hDg).trans h.dec, (hk _ (by omega) (by omega)).trans h.pb, (hk _ (by omega) (by omega)).trans h.rb, hs, ho.os.trans h.os, ho.tape.trans h.tape, ho.output.trans h.output,
    fun b hb hbg hbD => (hk b (by omega) hbg).trans (h.far b hb hbg hbD), Nat.le_trans hz ho.size⟩
theorem Mid.fars {w w1 w2 : World} {D g vb : Nat} {least lv : Int} {st st' : Option (List UInt8)} (h : Mid w w1 D g least lv st) (hs : SrcL w2 g st') (ho : Far vb g w1 w2) (hDg : D ≠ g) (hD : D < w.heap.size) (hg : g < w.heap.size) (hv : w.heap.size + 2 ≤ vb) : Mid w w2 D g least lv st' := by
  have hz := h.size
  exact ⟨(ho.block D (by omega) hDg).trans h.dec, (ho.block _ (by omega) (by omega)).trans h.pb, (ho.block _ (by omega) (by omega)).trans h.rb, hs, ho.os.trans h.os, ho.tape.trans h.tape, ho.output.trans h.output,
    fun b hb hbg hbD => (ho.block b (by omega) hbg).trans (h.far b hb hbg hbD), Nat.le_trans hz ho.size⟩
theorem Mid.alloc {w w1 : World} {D g : Nat} {least lv : Int} {st : Option (List UInt8)} (h : Mid w w1 D g least lv st) (o : Obj) : Mid w (w1.alloc o) D g least lv st := by
  have hz := h.size
  exact ⟨h.dec.alloc o, (Below.heap_alloc w1 o _ (by omega)).trans h.pb, (Below.heap_alloc w1 o _ (by omega)).trans h.rb, h.src.of (Below.heap_alloc w1 o g h.src.lt), h.os, h.tape, h.output,
    fun b hb hbg hbD => (Below.heap_alloc w1 o b (by omega)).trans (h.far b hb hbg hbD), by simp; omega⟩
theorem Mid.set {w w1 : World} {D g vb i : Nat} {u : Value} {least lv : Int} {st : Option (List UInt8)} (h : Mid w w1 D g least lv st) (hv : w.heap.size + 2 ≤ vb) (hD : D < w.heap.size) (hg : g < w.heap.size) : Mid w (w1.setCell ⟨vb, i, none⟩ u) D g least lv st := by
  have hk : ∀ b, b ≠ vb → (w1.setCell ⟨vb, i, none⟩ u).heap[b]? = w1.heap[b]? := fun b hb => heap_setCell_other _ ⟨vb, i, none⟩ b _ hb
  exact ⟨(hk D (by omega)).trans h.dec, (hk _ (by omega)).trans h.pb, (hk _ (by omega)).trans h.rb, h.src.of (hk g (by omega)), h.os, h.tape, h.output,
    fun b hb hbg hbD => (hk b (by omega)).trans (h.far b hb hbg hbD), by simp; exact h.size⟩
theorem val_end {w w4 : World} {d D g : Nat} {least lv lv' : Int} {st st' : Option (List UInt8)} {S : Nat → Prop} {t : VT} {c0 c1 c2 c3 c4 : Value} (hd : Dec w D g least lv) (h : Mid w w4 D g least lv' st') (hDg : D ≠ g) (hg : g < w.heap.size)
    (hv : LV w4 S t (.agg #[c0, c1, c2, c3, c4])) (hS : ∀ b, S b → w.heap.size + 2 ≤ b ∧ b < w4.heap.size) (hrel : Rel d least st t st') :
    ValR d g least st w (.returned (.agg #[c0, c1, c2, c3, c4])) (five (w4.setCell ⟨D, 2, none⟩ (.int .i64 lv)) (w.heap.size + 1) 0 c0 c1 c2 c3 c4) := by
  have hDl := hd.lt
  have hz := h.size
  have hr := five_rest (w4.setCell ⟨D, 2, none⟩ (.int .i64 lv)) (w.heap.size + 1) 0 c0 c1 c2 c3 c4
  have hk : ∀ b, b ≠ D → b ≠ w.heap.size + 1 → (five (w4.setCell ⟨D, 2, none⟩ (.int .i64 lv)) (w.heap.size + 1) 0 c0 c1 c2 c3 c4).heap[b]? = w4.heap[b]? := fun b h1 h2 => by
    rw [five_other _ _ _ _ _ _ _ _ b h2, heap_setCell_other _ ⟨D, 2, none⟩ b _ h1]
  have hD : (five (w4.setCell ⟨D, 2, none⟩ (.int .i64 lv)) (w.heap.size + 1) 0 c0 c1 c2 c3 c4).heap[D]? = w.heap[D]? := by
    rw [five_other _ _ _ _ _ _ _ _ D (by omega)]
    exact (h.dec.set lv).trans (show w.heap[D]? = _ from hd).symm
  have hsz : (five (w4.setCell ⟨D, 2, none⟩ (.int .i64 lv)) (w.heap.size + 1) 0 c0 c1 c2 c3 c4).heap.size = w4.heap.size := by rw [five_size]; simp
  refine ⟨_, t, st', rfl, h.src.of (hk g (fun e => hDg e.symm) (by omega)), ⟨hr.1.trans h.os, hr.2.1.trans h.tape, hr.2.2.trans h.output, by rw [hsz]; omega, fun b hb hbg => ?_⟩, ?_, hrel⟩
  · by_cases hbD : b = D
    · subst hbD; exact hD
    · exact (hk b hbD (by omega)).trans (h.far b hb (fun e => hbg (by rw [e])) hbD)
  · refine (hv.keep (w' := _) fun b hb => ?_).imp fun b hb => ?_
    · have := hS b hb
      exact hk b (by omega) (by omega)
    · have := hS b hb
      exact ⟨by omega, by rw [hsz]; omega⟩
theorem enters_item1 : Enters 93 := fun _ _ => by simp [callFunc, go_sem, Try.func93, Try.f93]
theorem enters_item2 : Enters 94 := fun _ _ => by simp [callFunc, go_sem, Try.func94, Try.f94]
set_option maxHeartbeats 8000000 in
set_option maxRecDepth 100000 in
theorem val_succ (d : Nat) (hd8 : d < 8) (hok : ValOK d) : ValOK (d + 1) := by
  intro D g least st w hd hs hDg
  have hDl := hd.lt
  have hgl := hs.lt
  obtain ⟨lv, hlv⟩ : ∃ lv : Int, lv = 8 - ((d + 1 : Nat) : Int) := ⟨_, rfl⟩
  rw [← hlv] at hd
  have HD := Lib.hid hd
  have hlv0 : 0 ≤ lv := by omega
  have hlv7 : lv ≤ 7 := by omega
  have hlv1 : ¬ lv + 1 > 8 := by omega
  have hlv2 : decide (lv + 1 > 8) = false := decide_eq_false hlv1
  have HLV := Lib.hid hlv
  have HM3 := Lib.hid (Mid.first (lv' := lv + 1) hd hs hDg)
  clear hlv hs
  have hd2 := (hd.alloc (.cells #[.pointer (some ⟨D, 0, none⟩)] 98)).alloc (.cells #[.int .i64 0, .int .i64 0, .string ⟨#[]⟩, .slice none 0 0, .slice none 0 0] 25)
  have e0 := HM3.out.dec.c0
  have e2 := HM3.out.dec.c2
  have d0 := hd2.c0
  have d2 := hd2.c2
  have df := fun i => Go.Joins.unfrozen_of_block hd2 i
  clear hd2 hd
  go_enter Try.func76, Try.ntmps76
  go_wp2_with fail
  obtain ⟨kk, hkk⟩ : ∃ kk : Int, kk = ((rdByte st).1 : Int) := ⟨_, rfl⟩
  obtain ⟨st1, hst1⟩ : ∃ st1, st1 = (rdByte st).2 := ⟨_, rfl⟩
  refine (sbyte_any g st _ HM3.out.src).mono ?_
  rintro e w1 ⟨rfl, hs1, ho1⟩
  rw [← hst1] at hs1
  rw [← hkk]
  have hm1 := HM3.out.call hs1 ho1 hDg hgl
  have HKK := Lib.hid hkk
  have HST := Lib.hid hst1
  clear ho1 hs1 HM3 e0 e2 d0 d2 df hkk hst1
  by_cases h2 : kk = 2
  · subst h2
    have hm2 := hm1.alloc (.cells #[.int .i64 2, .int .i64 0, .string ⟨#[]⟩, .slice none 0 0, .slice none 0 0] 25)
    have hbx : Box (w1.alloc (.cells #[.int .i64 2, .int .i64 0, .string ⟨#[]⟩, .slice none 0 0, .slice none 0 0] 25)) w1.heap.size _ _ _ _ _ := Box.new _ _ _ _ _
    have hz1 := hm1.size
    have p0 : (w1.alloc (.cells #[.int .i64 2, .int .i64 0, .string ⟨#[]⟩, .slice none 0 0, .slice none 0 0] 25)).cell? ⟨w.heap.size, 0, none⟩ = some (.pointer (some ⟨D, 0, none⟩)) := Go.Joins.cell_of_block hm2.pb 0
    have e0 := hm2.dec.c0
    have e2 := hm2.dec.c2
    have df := fun i => Go.Joins.unfrozen_of_block hm2.dec i
    have rf := fun i => hm2.rb.free i
    have r0 := hm2.rb.c0
    have r1 := hm2.rb.c1
    have r2 := hm2.rb.c2
    have r3 := hm2.rb.c3
    have r4 := hm2.rb.c4
    have HM2 := Lib.hid hm2
    have HBX := Lib.hid hbx
    clear hm1 hm2 hbx
    go_wp2_with fail
    clear p0 e0 e2 df rf r0 r1 r2 r3 r4
    refine (sbyte_any g st1 _ HM2.out.src).mono ?_
    rintro e w3 ⟨rfl, hs3, ho3⟩
    have hm3 := HM2.out.call hs3 ho3 hDg hgl
    have hb3 := box_only HBX.out ho3 (by omega)
    have p0 : (w3).cell? ⟨w.heap.size, 0, none⟩ = some (.pointer (some ⟨D, 0, none⟩)) := Go.Joins.cell_of_block hm3.pb 0
    have e0 := hm3.dec.c0
    have e2 := hm3.dec.c2
    have df := fun i => Go.Joins.unfrozen_of_block hm3.dec i
    have rf := fun i => hm3.rb.free i
    have r0 := hm3.rb.c0
    have r1 := hm3.rb.c1
    have r2 := hm3.rb.c2
    have r3 := hm3.rb.c3
    have r4 := hm3.rb.c4
    have v0 := hb3.c0
    have v1 := hb3.c1
    have v2 := hb3.c2
    have v3 := hb3.c3
    have v4 := hb3.c4
    have vf := fun i => hb3.free i
    have n1 : w1.heap.size ≠ D := by omega
    have n2 : w1.heap.size ≠ w.heap.size + 1 := by omega
    have n3 : w1.heap.size ≠ w.heap.size := by omega
    obtain ⟨x, hx⟩ : ∃ x, x = (rdByte st1).1 := ⟨_, rfl⟩
    obtain ⟨st3, hst3⟩ : ∃ st3, st3 = (rdByte st1).2 := ⟨_, rfl⟩
    rw [← hx]
    rw [← hst3] at hm3 hs3
    have HM3 := Lib.hid hm3
    have HB3 := Lib.hid hb3
    have HX := Lib.hid (And.intro hx hst3)
    clear hm3 hb3 hx hst3 hs3 ho3
    go_wp2_with fail
    have hm4 := HM3.out.set (vb := w1.heap.size) (i := 1) (u := .int .i64 x) (by omega) hDl hgl
    refine bodyPost_ret (results_cell_row rfl _ _ (w.heap.size + 1) 25 _ (0, 0) _ rfl (five_box (hm4.rb.other D 2 _ (by omega))) Try.underlying25 rfl (by kernel_rfl)) rfl ?_
    refine val_end (t := .mk 2 x eS [] []) HD.out hm4 hDg hgl (LV.mk (S := fun _ => False) (by unfold Rng; omega) (by obtain ⟨rfl, -⟩ := HX.out; have := rdByte_lt st1; unfold Rng; omega) (by decide) (by simp) (by simp) (strs_nil _ _ _) (lva_nil _ _ _)) (fun _ h => h.elim) ?_
    have h := HST.out
    subst h
    obtain ⟨rfl, rfl⟩ := HX.out
    exact rel_two d least (by have := HKK.out; omega)
  by_cases h3 : kk = 3
  · subst h3
    have hm2 := hm1.alloc (.cells #[.int .i64 3, .int .i64 0, .string ⟨#[]⟩, .slice none 0 0, .slice none 0 0] 25)
    have hbx : Box (w1.alloc (.cells #[.int .i64 3, .int .i64 0, .string ⟨#[]⟩, .slice none 0 0, .slice none 0 0] 25)) w1.heap.size _ _ _ _ _ := Box.new _ _ _ _ _
    have hz1 := hm1.size
    have p0 : (w1.alloc (.cells #[.int .i64 3, .int .i64 0, .string ⟨#[]⟩, .slice none 0 0, .slice none 0 0] 25)).cell? ⟨w.heap.size, 0, none⟩ = some (.pointer (some ⟨D, 0, none⟩)) := Go.Joins.cell_of_block hm2.pb 0
    have e0 := hm2.dec.c0
    have e2 := hm2.dec.c2
    have df := fun i => Go.Joins.unfrozen_of_block hm2.dec i
    have rf := fun i => hm2.rb.free i
    have r0 := hm2.rb.c0
    have r1 := hm2.rb.c1
    have r2 := hm2.rb.c2
    have r3 := hm2.rb.c3
    have r4 := hm2.rb.c4
    have HM2 := Lib.hid hm2
    have HBX := Lib.hid hbx
    clear hm1 hm2 hbx
    go_wp2_with fail
    clear p0 e0 e2 df rf r0 r1 r2 r3 r4
    refine (sint_any g st1 _ HM2.out.src).mono ?_
    rintro e w3 ⟨rfl, hs3, ho3⟩
    have hm3 := HM2.out.call hs3 ho3 hDg hgl
    have hb3 := box_only HBX.out ho3 (by omega)
    have p0 : (w3).cell? ⟨w.heap.size, 0, none⟩ = some (.pointer (some ⟨D, 0, none⟩)) := Go.Joins.cell_of_block hm3.pb 0
    have e0 := hm3.dec.c0
    have e2 := hm3.dec.c2
    have df := fun i => Go.Joins.unfrozen_of_block hm3.dec i
    have rf := fun i => hm3.rb.free i
    have r0 := hm3.rb.c0
    have r1 := hm3.rb.c1
    have r2 := hm3.rb.c2
    have r3 := hm3.rb.c3
    have r4 := hm3.rb.c4
    have v0 := hb3.c0
    have v1 := hb3.c1
    have v2 := hb3.c2
    have v3 := hb3.c3
    have v4 := hb3.c4
    have vf := fun i => hb3.free i
    have n1 : w1.heap.size ≠ D := by omega
    have n2 : w1.heap.size ≠ w.heap.size + 1 := by omega
    have n3 : w1.heap.size ≠ w.heap.size := by omega
    obtain ⟨x, hx⟩ : ∃ x, x = (rdInt st1).1 := ⟨_, rfl⟩
    obtain ⟨st3, hst3⟩ : ∃ st3, st3 = (rdInt st1).2 := ⟨_, rfl⟩
    rw [← hx]
    rw [← hst3] at hm3 hs3
    have HM3 := Lib.hid hm3
    have HB3 := Lib.hid hb3
    have HX := Lib.hid (And.intro hx hst3)
    clear hm3 hb3 hx hst3 hs3 ho3
    go_wp2_with fail
    have hm4 := HM3.out.set (vb := w1.heap.size) (i := 1) (u := .int .i64 x) (by omega) hDl hgl
    refine bodyPost_ret (results_cell_row rfl _ _ (w.heap.size + 1) 25 _ (0, 0) _ rfl (five_box (hm4.rb.other D 2 _ (by omega))) Try.underlying25 rfl (by kernel_rfl)) rfl ?_
    refine val_end (t := .mk 3 x eS [] []) HD.out hm4 hDg hgl (LV.mk (S := fun _ => False) (by unfold Rng; omega) (by obtain ⟨rfl, -⟩ := HX.out; exact rdInt_rng st1) (by decide) (by simp) (by simp) (strs_nil _ _ _) (lva_nil _ _ _)) (fun _ h => h.elim) ?_
    have h := HST.out
    subst h
    obtain ⟨rfl, rfl⟩ := HX.out
    exact rel_three d least (by have := HKK.out; omega)
  by_cases h4 : kk = 4
  · subst h4
    have hm2 := hm1.alloc (.cells #[.int .i64 4, .int .i64 0, .string ⟨#[]⟩, .slice none 0 0, .slice none 0 0] 25)
    have hbx : Box (w1.alloc (.cells #[.int .i64 4, .int .i64 0, .string ⟨#[]⟩, .slice none 0 0, .slice none 0 0] 25)) w1.heap.size _ _ _ _ _ := Box.new _ _ _ _ _
    have hz1 := hm1.size
    have p0 : (w1.alloc (.cells #[.int .i64 4, .int .i64 0, .string ⟨#[]⟩, .slice none 0 0, .slice none 0 0] 25)).cell? ⟨w.heap.size, 0, none⟩ = some (.pointer (some ⟨D, 0, none⟩)) := Go.Joins.cell_of_block hm2.pb 0
    have e0 := hm2.dec.c0
    have e2 := hm2.dec.c2
    have df := fun i => Go.Joins.unfrozen_of_block hm2.dec i
    have rf := fun i => hm2.rb.free i
    have r0 := hm2.rb.c0
    have r1 := hm2.rb.c1
    have r2 := hm2.rb.c2
    have r3 := hm2.rb.c3
    have r4 := hm2.rb.c4
    have HM2 := Lib.hid hm2
    have HBX := Lib.hid hbx
    clear hm1 hm2 hbx
    go_wp2_with fail
    clear p0 e0 e2 df rf r0 r1 r2 r3 r4
    refine (stext_any g st1 4096 _ HM2.out.src (by omega)).mono ?_
    rintro e w3 ⟨rfl, hs3, ho3⟩
    have hm3 := HM2.out.call hs3 ho3 hDg hgl
    have hb3 := box_only HBX.out ho3 (by omega)
    have p0 : (w3).cell? ⟨w.heap.size, 0, none⟩ = some (.pointer (some ⟨D, 0, none⟩)) := Go.Joins.cell_of_block hm3.pb 0
    have e0 := hm3.dec.c0
    have e2 := hm3.dec.c2
    have df := fun i => Go.Joins.unfrozen_of_block hm3.dec i
    have rf := fun i => hm3.rb.free i
    have r0 := hm3.rb.c0
    have r1 := hm3.rb.c1
    have r2 := hm3.rb.c2
    have r3 := hm3.rb.c3
    have r4 := hm3.rb.c4
    have v0 := hb3.c0
    have v1 := hb3.c1
    have v2 := hb3.c2
    have v3 := hb3.c3
    have v4 := hb3.c4
    have vf := fun i => hb3.free i
    have n1 : w1.heap.size ≠ D := by omega
    have n2 : w1.heap.size ≠ w.heap.size + 1 := by omega
    have n3 : w1.heap.size ≠ w.heap.size := by omega
    obtain ⟨x, hx⟩ : ∃ x, x = (rdText 4096 st1).1 := ⟨_, rfl⟩
    obtain ⟨st3, hst3⟩ : ∃ st3, st3 = (rdText 4096 st1).2 := ⟨_, rfl⟩
    rw [← hx]
    rw [← hst3] at hm3 hs3
    have HM3 := Lib.hid hm3
    have HB3 := Lib.hid hb3
    have HX := Lib.hid (And.intro hx hst3)
    clear hm3 hb3 hx hst3 hs3 ho3
    go_wp2_with fail
    have hm4 := HM3.out.set (vb := w1.heap.size) (i := 2) (u := .string ⟨x.toArray⟩) (by omega) hDl hgl
    refine bodyPost_ret (results_cell_row rfl _ _ (w.heap.size + 1) 25 _ (0, 0) _ rfl (five_box (hm4.rb.other D 2 _ (by omega))) Try.underlying25 rfl (by kernel_rfl)) rfl ?_
    refine val_end (t := .mk 4 0 (bsOf x) [] []) HD.out hm4 hDg hgl (LV.mk (S := fun _ => False) (by unfold Rng; omega) (by unfold Rng; omega) (by obtain ⟨rfl, -⟩ := HX.out; have : (rdText 4096 st1).1.length ≤ 4096 := rdText_le 4096 st1 (by omega); have e : (bsOf (rdText 4096 st1).1).size = (rdText 4096 st1).1.length := bsOf_size _; show (bsOf (rdText 4096 st1).1).size ≤ _; omega) (by simp) (by simp) (strs_nil _ _ _) (lva_nil _ _ _)) (fun _ h => h.elim) ?_
    have h := HST.out
    subst h
    obtain ⟨rfl, rfl⟩ := HX.out
    exact rel_text d 4 (by omega) least (by have := HKK.out; omega)
  by_cases h5 : kk = 5
  · subst h5
    have hm2 := hm1.alloc (.cells #[.int .i64 5, .int .i64 0, .string ⟨#[]⟩, .slice none 0 0, .slice none 0 0] 25)
    have hbx : Box (w1.alloc (.cells #[.int .i64 5, .int .i64 0, .string ⟨#[]⟩, .slice none 0 0, .slice none 0 0] 25)) w1.heap.size _ _ _ _ _ := Box.new _ _ _ _ _
    have hz1 := hm1.size
    have p0 : (w1.alloc (.cells #[.int .i64 5, .int .i64 0, .string ⟨#[]⟩, .slice none 0 0, .slice none 0 0] 25)).cell? ⟨w.heap.size, 0, none⟩ = some (.pointer (some ⟨D, 0, none⟩)) := Go.Joins.cell_of_block hm2.pb 0
    have e0 := hm2.dec.c0
    have e2 := hm2.dec.c2
    have df := fun i => Go.Joins.unfrozen_of_block hm2.dec i
    have rf := fun i => hm2.rb.free i
    have r0 := hm2.rb.c0
    have r1 := hm2.rb.c1
    have r2 := hm2.rb.c2
    have r3 := hm2.rb.c3
    have r4 := hm2.rb.c4
    have HM2 := Lib.hid hm2
    have HBX := Lib.hid hbx
    clear hm1 hm2 hbx
    go_wp2_with fail
    clear p0 e0 e2 df rf r0 r1 r2 r3 r4
    refine (stext_any g st1 4096 _ HM2.out.src (by omega)).mono ?_
    rintro e w3 ⟨rfl, hs3, ho3⟩
    have hm3 := HM2.out.call hs3 ho3 hDg hgl
    have hb3 := box_only HBX.out ho3 (by omega)
    have p0 : (w3).cell? ⟨w.heap.size, 0, none⟩ = some (.pointer (some ⟨D, 0, none⟩)) := Go.Joins.cell_of_block hm3.pb 0
    have e0 := hm3.dec.c0
    have e2 := hm3.dec.c2
    have df := fun i => Go.Joins.unfrozen_of_block hm3.dec i
    have rf := fun i => hm3.rb.free i
    have r0 := hm3.rb.c0
    have r1 := hm3.rb.c1
    have r2 := hm3.rb.c2
    have r3 := hm3.rb.c3
    have r4 := hm3.rb.c4
    have v0 := hb3.c0
    have v1 := hb3.c1
    have v2 := hb3.c2
    have v3 := hb3.c3
    have v4 := hb3.c4
    have vf := fun i => hb3.free i
    have n1 : w1.heap.size ≠ D := by omega
    have n2 : w1.heap.size ≠ w.heap.size + 1 := by omega
    have n3 : w1.heap.size ≠ w.heap.size := by omega
    obtain ⟨x, hx⟩ : ∃ x, x = (rdText 4096 st1).1 := ⟨_, rfl⟩
    obtain ⟨st3, hst3⟩ : ∃ st3, st3 = (rdText 4096 st1).2 := ⟨_, rfl⟩
    rw [← hx]
    rw [← hst3] at hm3 hs3
    have HM3 := Lib.hid hm3
    have HB3 := Lib.hid hb3
    have HX := Lib.hid (And.intro hx hst3)
    clear hm3 hb3 hx hst3 hs3 ho3
    go_wp2_with fail
    have hm4 := HM3.out.set (vb := w1.heap.size) (i := 2) (u := .string ⟨x.toArray⟩) (by omega) hDl hgl
    refine bodyPost_ret (results_cell_row rfl _ _ (w.heap.size + 1) 25 _ (0, 0) _ rfl (five_box (hm4.rb.other D 2 _ (by omega))) Try.underlying25 rfl (by kernel_rfl)) rfl ?_
    refine val_end (t := .mk 5 0 (bsOf x) [] []) HD.out hm4 hDg hgl (LV.mk (S := fun _ => False) (by unfold Rng; omega) (by unfold Rng; omega) (by obtain ⟨rfl, -⟩ := HX.out; have : (rdText 4096 st1).1.length ≤ 4096 := rdText_le 4096 st1 (by omega); have e : (bsOf (rdText 4096 st1).1).size = (rdText 4096 st1).1.length := bsOf_size _; show (bsOf (rdText 4096 st1).1).size ≤ _; omega) (by simp) (by simp) (strs_nil _ _ _) (lva_nil _ _ _)) (fun _ h => h.elim) ?_
    have h := HST.out
    subst h
    obtain ⟨rfl, rfl⟩ := HX.out
    exact rel_text d 5 (by omega) least (by have := HKK.out; omega)
  by_cases h6 : kk = 6
  · subst h6
    have hm2 := hm1.alloc (.cells #[.int .i64 6, .int .i64 0, .string ⟨#[]⟩, .slice none 0 0, .slice none 0 0] 25)
    have hbx : Box (w1.alloc (.cells #[.int .i64 6, .int .i64 0, .string ⟨#[]⟩, .slice none 0 0, .slice none 0 0] 25)) w1.heap.size _ _ _ _ _ := Box.new _ _ _ _ _
    have hz1 := hm1.size
    have p0 : (w1.alloc (.cells #[.int .i64 6, .int .i64 0, .string ⟨#[]⟩, .slice none 0 0, .slice none 0 0] 25)).cell? ⟨w.heap.size, 0, none⟩ = some (.pointer (some ⟨D, 0, none⟩)) := Go.Joins.cell_of_block hm2.pb 0
    have e0 := hm2.dec.c0
    have e2 := hm2.dec.c2
    have df := fun i => Go.Joins.unfrozen_of_block hm2.dec i
    have rf := fun i => hm2.rb.free i
    have r0 := hm2.rb.c0
    have r1 := hm2.rb.c1
    have r2 := hm2.rb.c2
    have r3 := hm2.rb.c3
    have r4 := hm2.rb.c4
    have HM2 := Lib.hid hm2
    have HBX := Lib.hid hbx
    clear hm1 hm2 hbx
    go_wp2_with fail
    clear p0 e0 e2 df rf r0 r1 r2 r3 r4
    have hlv8 : lv + 1 = 8 - (d : Int) := by have := HLV.out; omega
    have hdec : Dec (w1.alloc (.cells #[.int .i64 6, .int .i64 0, .string ⟨#[]⟩, .slice none 0 0, .slice none 0 0] 25)) D g least (8 - (d : Int)) := by rw [← hlv8]; exact HM2.out.dec
    have hz2 : (w1.alloc (.cells #[.int .i64 6, .int .i64 0, .string ⟨#[]⟩, .slice none 0 0, .slice none 0 0] 25)).heap.size = w1.heap.size + 1 := by simp
    have hpv : PV (w1.alloc (.cells #[.int .i64 6, .int .i64 0, .string ⟨#[]⟩, .slice none 0 0, .slice none 0 0] 25)) (w1.heap.size + 1) w1.heap.size 6 [] [] (.slice none 0 0) (.slice none 0 0) (fun _ => False) :=
      ⟨HBX.out, ⟨[], ⟨rfl, .inl ⟨rfl, rfl⟩⟩, fun j hj => absurd hj (by simp)⟩, ⟨rfl, .inl ⟨rfl, rfl⟩⟩, (fun s hs => by cases hs), fun _ h => h.elim, by omega⟩
    have hlt : g < w1.heap.size ∧ D < w1.heap.size ∧ w.heap.size < w1.heap.size := ⟨by omega, by omega, by omega⟩
    have hit : ∀ (st : Option (List UInt8)) (ts : List VT) (ns : List ByteArray) (VI VN : Value) (S : Nat → Prop) (w' : World), PV w' (w1.heap.size + 1) w1.heap.size 6 ts ns VI VN S → PB w' w.heap.size D → Dec w' D g least (8 - (d : Int)) → SrcL w' g st → w1.heap.size + 1 ≤ w'.heap.size → ts.length ≤ 100000 → ns.length ≤ 100000 →
        Calls Try.prog 93 #[.pointer (some ⟨w1.heap.size, 0, none⟩), .pointer (some ⟨w.heap.size, 0, none⟩)] w' (ItemG false d g w1.heap.size (w1.heap.size + 1) 6 least st ts ns w') := by
      intro st ts ns VI VN S w' h1 h2 h3 h4 h5 h6 h7
      have h8 := item1_any d hok D g w1.heap.size w.heap.size (w1.heap.size + 1) 6 least st ts ns VI VN S w' h1 h2 h3 h4 hDg (by omega) (by omega) hlt h5 h6
      exact h8.mono fun _ _ h => h.g
    have hc := items_any false 93 d D g w1.heap.size w.heap.size (w1.heap.size + 1) 6 least st1 _ _ _ _ hit hpv HM2.out.pb hdec HM2.out.src hDg (by omega) (by omega) hlt (by omega) enters_item1
    clear hit hpv hdec
    refine hc.mono ?_
    clear hc
    rintro e w3 ⟨ts, ns, st3, VI, VN, S, rfl, hpv3, ⟨hlts, hlns⟩, hs3, hf3, hrel⟩
    have hm3 := HM2.out.fars hs3 hf3 hDg hDl hgl hz1
    obtain ⟨AI, cI, rfl, hla⟩ := lva_of_row hpv3.items (fun b hb => ⟨(hpv3.new b hb).1, (hpv3.new b hb).2.1⟩)
    obtain ⟨AN, cN, rfl, hst⟩ := strs_of_row hpv3.names hpv3.small
    have hb3 := hpv3.box
    have p0 : (w3).cell? ⟨w.heap.size, 0, none⟩ = some (.pointer (some ⟨D, 0, none⟩)) := Go.Joins.cell_of_block hm3.pb 0
    have e0 := hm3.dec.c0
    have e2 := hm3.dec.c2
    have df := fun i => Go.Joins.unfrozen_of_block hm3.dec i
    have rf := fun i => hm3.rb.free i
    have r0 := hm3.rb.c0
    have r1 := hm3.rb.c1
    have r2 := hm3.rb.c2
    have r3 := hm3.rb.c3
    have r4 := hm3.rb.c4
    have v0 := hb3.c0
    have v1 := hb3.c1
    have v2 := hb3.c2
    have v3 := hb3.c3
    have v4 := hb3.c4
    have vf := fun i => hb3.free i
    have n1 : w1.heap.size ≠ D := by omega
    have n2 : w1.heap.size ≠ w.heap.size + 1 := by omega
    have n3 : w1.heap.size ≠ w.heap.size := by omega
    have HM3 := Lib.hid hm3
    have HB3 := Lib.hid hb3
    have HLA := Lib.hid hla
    have HSA := Lib.hid hst
    have HREL := Lib.hid hrel
    clear hm3 hb3 hrel hs3 hf3 hla hst hpv3 hlt hz2 hlv8
    go_wp2_with fail
    refine bodyPost_ret (results_cell_row rfl _ _ (w.heap.size + 1) 25 _ (0, 0) _ rfl (five_box (HM3.out.rb.other D 2 _ (by omega))) Try.underlying25 rfl (by kernel_rfl)) rfl ?_
    refine val_end (t := .mk 6 0 eS ts ns) HD.out HM3.out hDg hgl (LV.mk (S := New (w1.heap.size + 1) w3) (by unfold Rng; omega) (by unfold Rng; omega) (by decide) (by omega) (by omega) HSA.out HLA.out) (fun b hb => ⟨by have := hb.1; omega, hb.2⟩) ?_
    have h := HST.out
    subst h
    exact rel_items d 6 (by omega) least (by have := HKK.out; omega) HREL.out
  by_cases h7 : kk = 7
  · subst h7
    have hm2 := hm1.alloc (.cells #[.int .i64 7, .int .i64 0, .string ⟨#[]⟩, .slice none 0 0, .slice none 0 0] 25)
    have hbx : Box (w1.alloc (.cells #[.int .i64 7, .int .i64 0, .string ⟨#[]⟩, .slice none 0 0, .slice none 0 0] 25)) w1.heap.size _ _ _ _ _ := Box.new _ _ _ _ _
    have hz1 := hm1.size
    have p0 : (w1.alloc (.cells #[.int .i64 7, .int .i64 0, .string ⟨#[]⟩, .slice none 0 0, .slice none 0 0] 25)).cell? ⟨w.heap.size, 0, none⟩ = some (.pointer (some ⟨D, 0, none⟩)) := Go.Joins.cell_of_block hm2.pb 0
    have e0 := hm2.dec.c0
    have e2 := hm2.dec.c2
    have df := fun i => Go.Joins.unfrozen_of_block hm2.dec i
    have rf := fun i => hm2.rb.free i
    have r0 := hm2.rb.c0
    have r1 := hm2.rb.c1
    have r2 := hm2.rb.c2
    have r3 := hm2.rb.c3
    have r4 := hm2.rb.c4
    have HM2 := Lib.hid hm2
    have HBX := Lib.hid hbx
    clear hm1 hm2 hbx
    go_wp2_with fail
    clear p0 e0 e2 df rf r0 r1 r2 r3 r4
    have hlv8 : lv + 1 = 8 - (d : Int) := by have := HLV.out; omega
    have hdec : Dec (w1.alloc (.cells #[.int .i64 7, .int .i64 0, .string ⟨#[]⟩, .slice none 0 0, .slice none 0 0] 25)) D g least (8 - (d : Int)) := by rw [← hlv8]; exact HM2.out.dec
    have hz2 : (w1.alloc (.cells #[.int .i64 7, .int .i64 0, .string ⟨#[]⟩, .slice none 0 0, .slice none 0 0] 25)).heap.size = w1.heap.size + 1 := by simp
    have hpv : PV (w1.alloc (.cells #[.int .i64 7, .int .i64 0, .string ⟨#[]⟩, .slice none 0 0, .slice none 0 0] 25)) (w1.heap.size + 1) w1.heap.size 7 [] [] (.slice none 0 0) (.slice none 0 0) (fun _ => False) :=
      ⟨HBX.out, ⟨[], ⟨rfl, .inl ⟨rfl, rfl⟩⟩, fun j hj => absurd hj (by simp)⟩, ⟨rfl, .inl ⟨rfl, rfl⟩⟩, (fun s hs => by cases hs), fun _ h => h.elim, by omega⟩
    have hlt : g < w1.heap.size ∧ D < w1.heap.size ∧ w.heap.size < w1.heap.size := ⟨by omega, by omega, by omega⟩
    have hit : ∀ (st : Option (List UInt8)) (ts : List VT) (ns : List ByteArray) (VI VN : Value) (S : Nat → Prop) (w' : World), PV w' (w1.heap.size + 1) w1.heap.size 7 ts ns VI VN S → PB w' w.heap.size D → Dec w' D g least (8 - (d : Int)) → SrcL w' g st → w1.heap.size + 1 ≤ w'.heap.size → ts.length ≤ 100000 → ns.length ≤ 100000 →
        Calls Try.prog 94 #[.pointer (some ⟨w1.heap.size, 0, none⟩), .pointer (some ⟨w.heap.size, 0, none⟩)] w' (ItemG true d g w1.heap.size (w1.heap.size + 1) 7 least st ts ns w') := by
      intro st ts ns VI VN S w' h1 h2 h3 h4 h5 h6 h7
      have h8 := item2_any d hok D g w1.heap.size w.heap.size (w1.heap.size + 1) 7 least st ts ns VI VN S w' h1 h2 h3 h4 hDg (by omega) (by omega) hlt h5 h6 h7
      exact h8.mono fun _ _ h => h.g
    have hc := items_any true 94 d D g w1.heap.size w.heap.size (w1.heap.size + 1) 7 least st1 _ _ _ _ hit hpv HM2.out.pb hdec HM2.out.src hDg (by omega) (by omega) hlt (by omega) enters_item2
    clear hit hpv hdec
    refine hc.mono ?_
    clear hc
    rintro e w3 ⟨ts, ns, st3, VI, VN, S, rfl, hpv3, ⟨hlts, hlns⟩, hs3, hf3, hrel⟩
    have hm3 := HM2.out.fars hs3 hf3 hDg hDl hgl hz1
    obtain ⟨AI, cI, rfl, hla⟩ := lva_of_row hpv3.items (fun b hb => ⟨(hpv3.new b hb).1, (hpv3.new b hb).2.1⟩)
    obtain ⟨AN, cN, rfl, hst⟩ := strs_of_row hpv3.names hpv3.small
    have hb3 := hpv3.box
    have p0 : (w3).cell? ⟨w.heap.size, 0, none⟩ = some (.pointer (some ⟨D, 0, none⟩)) := Go.Joins.cell_of_block hm3.pb 0
    have e0 := hm3.dec.c0
    have e2 := hm3.dec.c2
    have df := fun i => Go.Joins.unfrozen_of_block hm3.dec i
    have rf := fun i => hm3.rb.free i
    have r0 := hm3.rb.c0
    have r1 := hm3.rb.c1
    have r2 := hm3.rb.c2
    have r3 := hm3.rb.c3
    have r4 := hm3.rb.c4
    have v0 := hb3.c0
    have v1 := hb3.c1
    have v2 := hb3.c2
    have v3 := hb3.c3
    have v4 := hb3.c4
    have vf := fun i => hb3.free i
    have n1 : w1.heap.size ≠ D := by omega
    have n2 : w1.heap.size ≠ w.heap.size + 1 := by omega
    have n3 : w1.heap.size ≠ w.heap.size := by omega
    have HM3 := Lib.hid hm3
    have HB3 := Lib.hid hb3
    have HLA := Lib.hid hla
    have HSA := Lib.hid hst
    have HREL := Lib.hid hrel
    clear hm3 hb3 hrel hs3 hf3 hla hst hpv3 hlt hz2 hlv8
    go_wp2_with fail
    refine bodyPost_ret (results_cell_row rfl _ _ (w.heap.size + 1) 25 _ (0, 0) _ rfl (five_box (HM3.out.rb.other D 2 _ (by omega))) Try.underlying25 rfl (by kernel_rfl)) rfl ?_
    refine val_end (t := .mk 7 0 eS ts ns) HD.out HM3.out hDg hgl (LV.mk (S := New (w1.heap.size + 1) w3) (by unfold Rng; omega) (by unfold Rng; omega) (by decide) (by omega) (by omega) HSA.out HLA.out) (fun b hb => ⟨by have := hb.1; omega, hb.2⟩) ?_
    have h := HST.out
    subst h
    exact rel_items d 7 (by omega) least (by have := HKK.out; omega) HREL.out
  have b2 := beq_false_of_ne h2
  have b3 := beq_false_of_ne h3
  have b4 := beq_false_of_ne h4
  have b5 := beq_false_of_ne h5
  have b6 := beq_false_of_ne h6
  have b7 := beq_false_of_ne h7
  have hm2 := hm1.alloc (.cells #[.int .i64 kk, .int .i64 0, .string ⟨#[]⟩, .slice none 0 0, .slice none 0 0] 25)
  have p0 : (w1.alloc (.cells #[.int .i64 kk, .int .i64 0, .string ⟨#[]⟩, .slice none 0 0, .slice none 0 0] 25)).cell? ⟨w.heap.size, 0, none⟩ = some (.pointer (some ⟨D, 0, none⟩)) := Go.Joins.cell_of_block hm2.pb 0
  have e0 := hm2.dec.c0
  have e2 := hm2.dec.c2
  have df := fun i => Go.Joins.unfrozen_of_block hm2.dec i
  have rf := fun i => hm2.rb.free i
  have r0 := hm2.rb.c0
  have r1 := hm2.rb.c1
  have r2 := hm2.rb.c2
  have r3 := hm2.rb.c3
  have r4 := hm2.rb.c4
  have hz1 := hm1.size
  have HM2 := Lib.hid hm2
  clear hm1 hm2
  go_wp2_with fail
  refine bodyPost_ret (results_cell_row rfl _ _ (w.heap.size + 1) 25 _ (0, 0) _ rfl (five_box (HM2.out.rb.other D 2 _ (by omega))) Try.underlying25 rfl (by kernel_rfl)) rfl ?_
  refine val_end (t := .mk kk 0 eS [] []) HD.out HM2.out hDg hgl (LV.mk (S := fun _ => False) (by have := HKK.out; have := rdByte_lt st; unfold Rng; omega) (by unfold Rng; omega) (by decide) (by simp) (by simp) (strs_nil _ _ _) (lva_nil _ _ _)) (fun _ h => h.elim) ?_
  have h := HST.out
  subst h
  have h := HKK.out
  subst h
  exact rel_other d least rfl (by omega) (by omega) (by omega) (by omega) (by omega) (by omega)
set_option maxHeartbeats 8000000 in
set_option maxRecDepth 100000 in
theorem val_zero : ValOK 0 := by
  intro D g least st w hd hs hDg
  have hDl := hd.lt
  have hgl := hs.lt
  have HD := Lib.hid hd
  have hm0 := Mid.first (lv' := 9) hd hs hDg
  have HM3 := Lib.hid hm0
  clear hs
  have hd2 := (hd.alloc (.cells #[.pointer (some ⟨D, 0, none⟩)] 98)).alloc (.cells #[.int .i64 0, .int .i64 0, .string ⟨#[]⟩, .slice none 0 0, .slice none 0 0] 25)
  have e0 := hm0.dec.c0
  have e2 := hm0.dec.c2
  have d0 := hd2.c0
  have d2 : ((w.alloc (.cells #[.pointer (some ⟨D, 0, none⟩)] 98)).alloc (.cells #[.int .i64 0, .int .i64 0, .string ⟨#[]⟩, .slice none 0 0, .slice none 0 0] 25)).cell? ⟨D, 2, none⟩ = some (.int .i64 8) := hd2.c2
  have df := fun i => Go.Joins.unfrozen_of_block hd2 i
  clear hd2 hd hm0
  go_enter Try.func76, Try.ntmps76
  go_wp2_with fail
  clear e0 e2 d0 d2 df
  refine (cspoil_st g st _ HM3.out.src).mono ?_
  rintro e w0 ⟨rfl, hs0, ho0⟩
  have hm1 := HM3.out.call hs0 ho0 hDg hgl
  clear HM3 ho0 hs0
  have p0 : (w0).cell? ⟨w.heap.size, 0, none⟩ = some (.pointer (some ⟨D, 0, none⟩)) := Go.Joins.cell_of_block hm1.pb 0
  have e0 := hm1.dec.c0
  have e2 := hm1.dec.c2
  have df := fun i => Go.Joins.unfrozen_of_block hm1.dec i
  have rf := fun i => hm1.rb.free i
  have r0 := hm1.rb.c0
  have r1 := hm1.rb.c1
  have r2 := hm1.rb.c2
  have r3 := hm1.rb.c3
  have r4 := hm1.rb.c4
  have HM1 := Lib.hid hm1
  clear hm1
  go_wp2_with fail
  clear p0 e0 e2 df rf r0 r1 r2 r3 r4
  refine (sbyte_any g none _ HM1.out.src).mono ?_
  rintro e w1 ⟨rfl, hs1, ho1⟩
  have hm1 := HM1.out.call hs1 ho1 hDg hgl
  have hz : (((rdByte none).1 : Nat) : Int) = 0 := rfl
  rw [hz]
  clear hz HM1 ho1 hs1
  have hm2 := hm1.alloc (.cells #[.int .i64 0, .int .i64 0, .string ⟨#[]⟩, .slice none 0 0, .slice none 0 0] 25)
  have p0 : (w1.alloc (.cells #[.int .i64 0, .int .i64 0, .string ⟨#[]⟩, .slice none 0 0, .slice none 0 0] 25)).cell? ⟨w.heap.size, 0, none⟩ = some (.pointer (some ⟨D, 0, none⟩)) := Go.Joins.cell_of_block hm2.pb 0
  have e0 := hm2.dec.c0
  have e2 := hm2.dec.c2
  have df := fun i => Go.Joins.unfrozen_of_block hm2.dec i
  have rf := fun i => hm2.rb.free i
  have r0 := hm2.rb.c0
  have r1 := hm2.rb.c1
  have r2 := hm2.rb.c2
  have r3 := hm2.rb.c3
  have r4 := hm2.rb.c4
  have hz1 := hm1.size
  have HM2 := Lib.hid hm2
  clear hm1 hm2
  go_wp2_with fail
  refine bodyPost_ret (results_cell_row rfl _ _ (w.heap.size + 1) 25 _ (0, 0) _ rfl (five_box (HM2.out.rb.other D 2 _ (by omega))) Try.underlying25 rfl (by kernel_rfl)) rfl ?_
  refine val_end (t := .mk 0 0 eS [] []) HD.out HM2.out hDg hgl (LV.mk (S := fun _ => False) (by unfold Rng; omega) (by unfold Rng; omega) (by decide) (by simp) (by simp) (strs_nil _ _ _) (lva_nil _ _ _)) (fun _ h => h.elim) ?_
  intro l u r _ hu
  cases hu
/-- A value is read, whatever level is left. -/
theorem val_any : ∀ d : Nat, d ≤ 8 → ValOK d
  | 0, _ => val_zero
  | d + 1, h => val_succ d (by omega) (val_any d (by omega))
end Go.Proofs.Ytipiplnhbecjeaa
