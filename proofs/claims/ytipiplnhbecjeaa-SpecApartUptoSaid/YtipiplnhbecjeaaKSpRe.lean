/- The program's reading of an update's code. -/
import Derived.Test.YtipiplnhbecjeaaKSpRa
import Derived.Test.YtipiplnhbecjeaaKSpF
import Derived.Test.YtipiplnhbecjeaaKCodU
import Derived.Test.YtipiplnhbecjeaaKSpX
namespace Go.Proofs.Ytipiplnhbecjeaa
set_option linter.unusedVariables false
set_option linter.unusedSimpArgs false
open Go.RowKit
set_option maxRecDepth 100000
theorem readO_depth (st : Option (List UInt8)) : depthT (readO st).1 ≤ 8 := by
  rcases st with _ | l
  · decide
  · rw [readO_some]
    cases hr : readS l with
    | none => decide
    | some p =>
      obtain ⟨t, r⟩ := p
      unfold readS at hr
      cases hw : rdW 8 l with
      | none => rw [hw] at hr; simp at hr
      | some q =>
        obtain ⟨u, r'⟩ := q
        rw [hw] at hr
        have hd := (rdW_deep 8 u l r' hw).1.1
        simp only [] at hr
        split at hr
        · simp only [Option.some.injEq, Prod.mk.injEq] at hr
          rw [hr.1] at hd
          exact hd
        · simp at hr
theorem rdOp_depth (st : Option (List UInt8)) : depthT (rdOp st).1.val ≤ 8 := by
  unfold rdOp
  have hn : depthT noneV ≤ 8 := by decide
  split
  · exact hn
  split
  · exact hn
  · exact readO_depth _
theorem rdOpsK_depth (st : Option (List UInt8)) : ∀ k, ∀ o ∈ (rdOpsK st k).1, depthT o.val ≤ 8
  | 0, o, h => by simp [rdOpsK] at h
  | k + 1, o, h => by
    simp only [rdOpsK, List.mem_append, List.mem_singleton] at h
    rcases h with h | rfl
    · exact rdOpsK_depth st k o h
    · exact rdOp_depth _
theorem rdOpsO_len (st : Option (List UInt8)) : (rdOpsO st).1.length ≤ 16 := by
  unfold rdOpsO
  rw [rdOpsK_len]
  exact rdCount_le 16 st (by omega)
/-- What comes next, whether it is an update or not. -/
def rdU (st : Option (List UInt8)) : SpecT × Option (List UInt8) :=
  if (rdByte st).1 = 0 then (⟨false, noneV, (rdOpsO (rdByte st).2).1⟩, (rdOpsO (rdByte st).2).2)
  else if (rdByte st).1 = 1 then (⟨true, (readO (rdByte st).2).1, []⟩, (readO (rdByte st).2).2)
  else (⟨false, noneV, []⟩, (rdByte st).2)
theorem rdU_small (st : Option (List UInt8)) : SmallS (rdU st).1 := by
  unfold rdU
  split
  · exact ⟨by show depthT noneV ≤ _; exact Nat.le_trans (show depthT noneV ≤ 8 by decide) (by omega), fun o ho => by have := rdOpsK_depth _ _ o ho; omega⟩
  split
  · exact ⟨by have := readO_depth (rdByte st).2; show depthT (readO (rdByte st).2).1 ≤ _; omega, fun o ho => by cases ho⟩
  · exact ⟨by show depthT noneV ≤ _; exact Nat.le_trans (show depthT noneV ≤ 8 by decide) (by omega), fun o ho => by cases ho⟩
/-- An update in a box. -/
def TBox (w : World) (p : Nat) (c0 c1 c2 c3 c4 c5 c6 : Value) : Prop := w.heap[p]? = some (.cells #[c0, c1, c2, c3, c4, c5, c6] 35 (0, 0))
def seven (w : World) (p : Nat) (c0 c1 c2 c3 c4 c5 c6 : Value) : World := ((((((w.setCell ⟨p, 0, none⟩ c0).setCell ⟨p, 1, none⟩ c1).setCell ⟨p, 2, none⟩ c2).setCell ⟨p, 3, none⟩ c3).setCell ⟨p, 4, none⟩ c4).setCell ⟨p, 5, none⟩ c5).setCell ⟨p, 6, none⟩ c6
section
variable {w w' : World} {p : Nat} {c0 c1 c2 c3 c4 c5 c6 : Value}
theorem TBox.g0 (h : TBox w p c0 c1 c2 c3 c4 c5 c6) : w.cell? ⟨p, 0, none⟩ = some c0 := Go.Joins.cell_of_block h 0
theorem TBox.g1 (h : TBox w p c0 c1 c2 c3 c4 c5 c6) : w.cell? ⟨p, 1, none⟩ = some c1 := Go.Joins.cell_of_block h 1
theorem TBox.g2 (h : TBox w p c0 c1 c2 c3 c4 c5 c6) : w.cell? ⟨p, 2, none⟩ = some c2 := Go.Joins.cell_of_block h 2
theorem TBox.g3 (h : TBox w p c0 c1 c2 c3 c4 c5 c6) : w.cell? ⟨p, 3, none⟩ = some c3 := Go.Joins.cell_of_block h 3
theorem TBox.g4 (h : TBox w p c0 c1 c2 c3 c4 c5 c6) : w.cell? ⟨p, 4, none⟩ = some c4 := Go.Joins.cell_of_block h 4
theorem TBox.g5 (h : TBox w p c0 c1 c2 c3 c4 c5 c6) : w.cell? ⟨p, 5, none⟩ = some c5 := Go.Joins.cell_of_block h 5
theorem TBox.g6 (h : TBox w p c0 c1 c2 c3 c4 c5 c6) : w.cell? ⟨p, 6, none⟩ = some c6 := Go.Joins.cell_of_block h 6
theorem TBox.set0 (h : TBox w p c0 c1 c2 c3 c4 c5 c6) (u : Value) : TBox (w.setCell ⟨p, 0, none⟩ u) p u c1 c2 c3 c4 c5 c6 := Go.Joins.block_setCell (i := 0) h u
theorem TBox.set1 (h : TBox w p c0 c1 c2 c3 c4 c5 c6) (u : Value) : TBox (w.setCell ⟨p, 1, none⟩ u) p c0 u c2 c3 c4 c5 c6 := Go.Joins.block_setCell (i := 1) h u
theorem TBox.set2 (h : TBox w p c0 c1 c2 c3 c4 c5 c6) (u : Value) : TBox (w.setCell ⟨p, 2, none⟩ u) p c0 c1 u c3 c4 c5 c6 := Go.Joins.block_setCell (i := 2) h u
theorem TBox.set3 (h : TBox w p c0 c1 c2 c3 c4 c5 c6) (u : Value) : TBox (w.setCell ⟨p, 3, none⟩ u) p c0 c1 c2 u c4 c5 c6 := Go.Joins.block_setCell (i := 3) h u
theorem TBox.set4 (h : TBox w p c0 c1 c2 c3 c4 c5 c6) (u : Value) : TBox (w.setCell ⟨p, 4, none⟩ u) p c0 c1 c2 c3 u c5 c6 := Go.Joins.block_setCell (i := 4) h u
theorem TBox.set5 (h : TBox w p c0 c1 c2 c3 c4 c5 c6) (u : Value) : TBox (w.setCell ⟨p, 5, none⟩ u) p c0 c1 c2 c3 c4 u c6 := Go.Joins.block_setCell (i := 5) h u
theorem TBox.set6 (h : TBox w p c0 c1 c2 c3 c4 c5 c6) (u : Value) : TBox (w.setCell ⟨p, 6, none⟩ u) p c0 c1 c2 c3 c4 c5 u := Go.Joins.block_setCell (i := 6) h u
theorem TBox.free (h : TBox w p c0 c1 c2 c3 c4 c5 c6) (i : Nat) : w.frozen? ⟨p, i, none⟩ = false := Go.Joins.unfrozen_of_block h i
theorem TBox.lt (h : TBox w p c0 c1 c2 c3 c4 c5 c6) : p < w.heap.size := (Array.getElem?_eq_some_iff.1 h).1
theorem TBox.new (w : World) (c0 c1 c2 c3 c4 c5 c6 : Value) : TBox (w.alloc (.cells #[c0, c1, c2, c3, c4, c5, c6] 35)) w.heap.size c0 c1 c2 c3 c4 c5 c6 := heap_alloc_new w _
theorem TBox.alloc (h : TBox w p c0 c1 c2 c3 c4 c5 c6) (o : Obj) : TBox (w.alloc o) p c0 c1 c2 c3 c4 c5 c6 := (Below.heap_alloc w o p h.lt).trans h
theorem TBox.only {g : Nat} (h : TBox w p c0 c1 c2 c3 c4 c5 c6) (ho : Only w w' g) (hne : p ≠ g) : TBox w' p c0 c1 c2 c3 c4 c5 c6 := (ho.block p h.lt (by rintro ⟨⟩; exact hne rfl)).trans h
theorem TBox.call (h : TBox w p c0 c1 c2 c3 c4 c5 c6) (hb : Below w.heap.size w w') : TBox w' p c0 c1 c2 c3 c4 c5 c6 := (hb.block p h.lt).trans h
theorem seven_box {d0 d1 d2 d3 d4 d5 d6 : Value} (h : TBox w p c0 c1 c2 c3 c4 c5 c6) : TBox (seven w p d0 d1 d2 d3 d4 d5 d6) p d0 d1 d2 d3 d4 d5 d6 := ((((((h.set0 d0).set1 d1).set2 d2).set3 d3).set4 d4).set5 d5).set6 d6
theorem seven_other (b : Nat) (h : b ≠ p) : (seven w p c0 c1 c2 c3 c4 c5 c6).heap[b]? = w.heap[b]? := by
  unfold seven
  rw [heap_setCell_other _ ⟨p, _, none⟩ b _ h, heap_setCell_other _ ⟨p, _, none⟩ b _ h, heap_setCell_other _ ⟨p, _, none⟩ b _ h, heap_setCell_other _ ⟨p, _, none⟩ b _ h, heap_setCell_other _ ⟨p, _, none⟩ b _ h, heap_setCell_other _ ⟨p, _, none⟩ b _ h, heap_setCell_other _ ⟨p, _, none⟩ b _ h]
theorem seven_size : (seven w p c0 c1 c2 c3 c4 c5 c6).heap.size = w.heap.size := by simp [seven]
theorem seven_rest : (seven w p c0 c1 c2 c3 c4 c5 c6).os = w.os ∧ (seven w p c0 c1 c2 c3 c4 c5 c6).tape = w.tape ∧ (seven w p c0 c1 c2 c3 c4 c5 c6).output = w.output := by
  have h : ∀ (w : World) (a : Addr) (u : Value), (w.setCell a u).os = w.os ∧ (w.setCell a u).tape = w.tape ∧ (w.setCell a u).output = w.output := fun _ _ _ => ⟨rfl, rfl, rfl⟩
  unfold seven
  refine ⟨?_, ?_, ?_⟩
  · rw [(h _ _ _).1, (h _ _ _).1, (h _ _ _).1, (h _ _ _).1, (h _ _ _).1, (h _ _ _).1, (h _ _ _).1]
  · rw [(h _ _ _).2.1, (h _ _ _).2.1, (h _ _ _).2.1, (h _ _ _).2.1, (h _ _ _).2.1, (h _ _ _).2.1, (h _ _ _).2.1]
  · rw [(h _ _ _).2.2, (h _ _ _).2.2, (h _ _ _).2.2, (h _ _ _).2.2, (h _ _ _).2.2, (h _ _ _).2.2, (h _ _ _).2.2]
end
def ReadUR (f : Option (List UInt8) → SpecT × Option (List UInt8)) (g : Nat) (st : Option (List UInt8)) (w : World) (e : Ending) (w' : World) : Prop :=
  ∃ cs : Array Value, e = .returned (.agg cs) ∧ SpecL w' (NewB w.heap.size w') (f st).1 cs ∧ SrcL w' g (f st).2 ∧ Only w w' g
theorem SpecL.imp {w : World} {S S' : Nat → Prop} {s : SpecT} {cs : Array Value} (h : SpecL w S s cs) (hS : ∀ b, S b → S' b) : SpecL w S' s cs := by
  obtain ⟨DA, dc, DA', dc', OA, oc, h1, h2, h3, h4⟩ := h
  exact ⟨DA, dc, DA', dc', OA, oc, h1, h2.imp hS, h3.imp hS, h4⟩
theorem spec_end {f : Option (List UInt8) → SpecT × Option (List UInt8)} {w W : World} {g : Nat} {st : Option (List UInt8)} {S : Nat → Prop} {c0 c1 c2 c3 c4 c5 c6 : Value} (hs : SrcL W g (f st).2) (ho : Only w W g) (hg : g < w.heap.size) (h : SpecL W S (f st).1 #[c0, c1, c2, c3, c4, c5, c6]) (hS : ∀ b, S b → w.heap.size + 1 ≤ b ∧ b < W.heap.size) :
    ReadUR f g st w (.returned (.agg #[c0, c1, c2, c3, c4, c5, c6])) (seven W w.heap.size c0 c1 c2 c3 c4 c5 c6) := by
  have hz : (seven W w.heap.size c0 c1 c2 c3 c4 c5 c6).heap.size = W.heap.size := seven_size
  refine ⟨_, rfl, (h.keep fun b hb => seven_other b (by have := hS b hb; omega)).imp fun b hb => ?_, hs.of (seven_other g (by omega)), ?_⟩
  · have := hS b hb
    exact ⟨by omega, by rw [hz]; omega⟩
  · exact ⟨seven_rest.1.trans ho.os, seven_rest.2.1.trans ho.tape, seven_rest.2.2.trans ho.output, by rw [hz]; exact ho.size, fun b hb hne => (seven_other b (by omega)).trans (ho.block b hb hne)⟩
theorem none_spec (w : World) (S : Nat → Prop) : SpecL w S ⟨false, noneV, []⟩ #[.bool false, .int .i64 0, .int .i64 0, .string ⟨#[]⟩, .slice none 0 0, .slice none 0 0, .slice none 0 0] :=
  ⟨none, 0, none, 0, none, 0, rfl, leaf_lv _ _ _ _ _ (by unfold Rng; omega) (by unfold Rng; omega) (by decide), fun h => absurd h (by simp), by simp, by simp⟩
set_option maxHeartbeats 8000000 in
theorem readu_any (g : Nat) (st : Option (List UInt8)) (w : World) (hs : SrcL w g st) : Calls Try.prog 30 #[.pointer (some ⟨g, 0, none⟩)] w (ReadUR rdU g st w) := by
  have hgl := hs.lt
  have HC := Lib.hid (sbyte_any g st _ (hs.alloc (.cells #[.bool false, .int .i64 0, .int .i64 0, .string ⟨#[]⟩, .slice none 0 0, .slice none 0 0, .slice none 0 0] 35)))
  have hr0 : TBox (w.alloc (.cells #[.bool false, .int .i64 0, .int .i64 0, .string ⟨#[]⟩, .slice none 0 0, .slice none 0 0, .slice none 0 0] 35)) w.heap.size _ _ _ _ _ _ _ := TBox.new w _ _ _ _ _ _ _
  have ho0 : Only w (w.alloc (.cells #[.bool false, .int .i64 0, .int .i64 0, .string ⟨#[]⟩, .slice none 0 0, .slice none 0 0, .slice none 0 0] 35)) g := ⟨rfl, rfl, rfl, by simp, fun b hb _ => Below.heap_alloc w _ b hb⟩
  have HR0 := Lib.hid hr0
  have HO0 := Lib.hid ho0
  clear hs hr0 ho0
  go_enter Try.func30, Try.ntmps30
  go_wp2_with fail
  refine HC.out.mono ?_
  rintro e w1 ⟨rfl, hs1, ho1⟩
  obtain ⟨n, hn⟩ : ∃ n, n = (rdByte st).1 := ⟨_, rfl⟩
  obtain ⟨s1, hs1'⟩ : ∃ s1, s1 = (rdByte st).2 := ⟨_, rfl⟩
  rw [← hs1'] at hs1
  rw [← hn]
  have hr1 := HR0.out.only ho1 (by omega)
  have hl1 := hr1.lt
  have HN := Lib.hid hn
  have HS1 := Lib.hid hs1'
  have HR1 := Lib.hid hr1
  have HX1 := Lib.hid (And.intro hs1 (HO0.out.trans ho1))
  have HP := Lib.hid (readops_any g s1 w1 hs1)
  have HV := Lib.hid (cread_any g s1 w1 hs1)
  clear hs1 ho1 hn hs1' HC HR0 HO0 hr1
  by_cases h0 : n = 0
  · have H0 := Lib.hid h0
    have d0 : ((n : Int) == 0) = true := beq_iff_eq.2 (by omega)
    clear HV h0
    go_wp2_with fail
    refine HP.out.mono ?_
    rintro e w2 ⟨A, c, rfl, hrow, hs2, ho2⟩
    have hr2 := HR1.out.only ho2 (by omega)
    have hz2 := ho2.size
    have HX2 := Lib.hid (And.intro hrow (And.intro hs2 (And.intro (HX1.out.2.trans ho2) hz2)))
    have HR2 := Lib.hid hr2
    have r4f := fun i => hr2.free i
    have y0 := hr2.g0
    have y1 := hr2.g1
    have y2 := hr2.g2
    have y3 := hr2.g3
    have y4 := hr2.g4
    have y5 := hr2.g5
    have y6 := hr2.g6
    obtain ⟨l, hl⟩ : ∃ l, l = (rdOpsO s1).1 := ⟨_, rfl⟩
    rw [← hl] at HX2 ⊢
    have HL := Lib.hid hl
    clear hrow hs2 ho2 hr2 HP hl hz2
    go_wp2_with fail
    refine bodyPost_ret (results_cell_s rfl _ _ w.heap.size 35 _ (0, 0) rfl (seven_box HR2.out) (by kernel_rfl)) rfl ?_
    obtain ⟨hrow, hs2, ho2, hz2⟩ := HX2.out
    have e0 : rdU st = (⟨false, noneV, l⟩, (rdOpsO s1).2) := by
      unfold rdU
      rw [if_pos (by rw [← HN.out]; exact H0.out), ← HS1.out, ← HL.out]
    have h16 : l.length ≤ 16 := by rw [HL.out]; exact rdOpsO_len s1
    refine spec_end (f := rdU) (S := NewB w1.heap.size w2) (by rw [e0]; exact hs2) ho2 hgl ?_ (fun b hb => ⟨by have := hb.1; omega, hb.2⟩)
    rw [e0]
    exact ⟨none, 0, none, 0, A, c, rfl, leaf_lv _ _ _ _ _ (by unfold Rng; omega) (by unfold Rng; omega) (by decide), hrow.rows, hrow.cap, by show l.length ≤ _; omega⟩
  · have d0 : ((n : Int) == 0) = false := beq_eq_false_iff_ne.2 (by omega)
    by_cases h1 : n = 1
    · have H1 := Lib.hid h1
      have d1 : ((n : Int) == 1) = true := beq_iff_eq.2 (by omega)
      clear HP h0 h1
      go_wp2_with fail
      refine HV.out.mono ?_
      rintro e w2 ⟨v, rfl, hs2, ho2, hv2⟩
      obtain ⟨VA, vc, VA', vc', rfl, -⟩ := hv2.shape
      have hr2 := HR1.out.only ho2 (by omega)
      have hz2 := ho2.size
      obtain ⟨t, ht⟩ : ∃ t, t = (readO s1).1 := ⟨_, rfl⟩
      rw [← ht] at hv2 ⊢
      have HT := Lib.hid ht
      have HX2 := Lib.hid (And.intro hv2 (And.intro hs2 (And.intro (HX1.out.2.trans ho2) hz2)))
      have HR2 := Lib.hid hr2
      have r4f := fun i => hr2.free i
      have y0 := hr2.g0
      have y1 := hr2.g1
      have y2 := hr2.g2
      have y3 := hr2.g3
      have y4 := hr2.g4
      have y5 := hr2.g5
      have y6 := hr2.g6
      clear hv2 hs2 ho2 hr2 HV ht hz2
      go_wp2_with fail
      refine bodyPost_ret (results_cell_s rfl _ _ w.heap.size 35 _ (0, 0) rfl (seven_box HR2.out) (by kernel_rfl)) rfl ?_
      obtain ⟨hv2, hs2, ho2, hz2⟩ := HX2.out
      have e0 : rdU st = (⟨true, t, []⟩, (readO s1).2) := by
        unfold rdU
        rw [if_neg (by rw [← HN.out, H1.out]; decide), if_pos (by rw [← HN.out]; exact H1.out), ← HS1.out, ← HT.out]
      refine spec_end (f := rdU) (S := NewB w1.heap.size w2) (by rw [e0]; exact hs2) ho2 hgl ?_ (fun b hb => ⟨by have := hb.1; omega, hb.2⟩)
      rw [e0]
      exact ⟨VA, vc, VA', vc', none, 0, rfl, hv2, fun h => absurd h (by simp), by simp, by simp⟩
    · have d1 : ((n : Int) == 1) = false := beq_eq_false_iff_ne.2 (by omega)
      have H1 := Lib.hid (And.intro h0 h1)
      have hr1 := HR1.out
      have r4f := fun i => hr1.free i
      have y0 := hr1.g0
      have y1 := hr1.g1
      have y2 := hr1.g2
      have y3 := hr1.g3
      have y4 := hr1.g4
      have y5 := hr1.g5
      have y6 := hr1.g6
      clear hr1 h0 h1 HP HV
      go_wp2_with fail
      refine bodyPost_ret (results_cell_s rfl _ _ w.heap.size 35 _ (0, 0) rfl (seven_box HR1.out) (by kernel_rfl)) rfl ?_
      have e0 : rdU st = (⟨false, noneV, []⟩, s1) := by
        unfold rdU
        rw [if_neg (by rw [← HN.out]; exact H1.out.1), if_neg (by rw [← HN.out]; exact H1.out.2), ← HS1.out]
      refine spec_end (f := rdU) (S := fun _ => False) (by rw [e0]; exact HX1.out.1) HX1.out.2 hgl ?_ (fun b hb => hb.elim)
      rw [e0]
      exact none_spec _ _
end Go.Proofs.Ytipiplnhbecjeaa

/- The program's reading of an update. -/
namespace Go.Proofs.Ytipiplnhbecjeaa
set_option linter.unusedVariables false
set_option linter.unusedSimpArgs false
open Go.RowKit
set_option maxRecDepth 100000
/-- The update that comes next. -/
def rdS (st : Option (List UInt8)) : SpecT × Option (List UInt8) := match (rdU st).2 with
  | none => (⟨false, noneV, []⟩, none)
  | some l => if checkS (rdU st).1 = 0 then ((rdU st).1, some l) else (⟨false, noneV, []⟩, none)
theorem rdS_none {st : Option (List UInt8)} (h : (rdU st).2 = none) : rdS st = (⟨false, noneV, []⟩, none) := by unfold rdS; rw [h]
theorem rdS_some {st : Option (List UInt8)} {l : List UInt8} (h : (rdU st).2 = some l) : rdS st = if checkS (rdU st).1 = 0 then ((rdU st).1, some l) else (⟨false, noneV, []⟩, none) := by unfold rdS; rw [h]
set_option maxHeartbeats 8000000 in
theorem spread_any (g : Nat) (st : Option (List UInt8)) (w : World) (hs : SrcL w g st) : Calls Try.prog 14 #[.pointer (some ⟨g, 0, none⟩)] w (ReadUR rdS g st w) := by
  have hgl := hs.lt
  have HC := Lib.hid (readu_any g st _ (hs.alloc (.cells #[.bool false, .int .i64 0, .int .i64 0, .string ⟨#[]⟩, .slice none 0 0, .slice none 0 0, .slice none 0 0] 35)))
  have hr0 : TBox (w.alloc (.cells #[.bool false, .int .i64 0, .int .i64 0, .string ⟨#[]⟩, .slice none 0 0, .slice none 0 0, .slice none 0 0] 35)) w.heap.size _ _ _ _ _ _ _ := TBox.new w _ _ _ _ _ _ _
  have ho0 : Only w (w.alloc (.cells #[.bool false, .int .i64 0, .int .i64 0, .string ⟨#[]⟩, .slice none 0 0, .slice none 0 0, .slice none 0 0] 35)) g := ⟨rfl, rfl, rfl, by simp, fun b hb _ => Below.heap_alloc w _ b hb⟩
  have hz0 : (w.alloc (.cells #[.bool false, .int .i64 0, .int .i64 0, .string ⟨#[]⟩, .slice none 0 0, .slice none 0 0, .slice none 0 0] 35)).heap.size = w.heap.size + 1 := by simp
  have HR0 := Lib.hid hr0
  have HO0 := Lib.hid ho0
  have HZ0 := Lib.hid hz0
  clear hs hr0 ho0 hz0
  go_enter Try.func14, Try.ntmps14
  go_wp2_with fail
  refine HC.out.mono ?_
  rintro e w2 ⟨cs, rfl, hsp, hs2, ho2⟩
  rw [HZ0.out] at hsp
  obtain ⟨s, hs'⟩ : ∃ s, s = (rdU st).1 := ⟨_, rfl⟩
  obtain ⟨st2, hst2⟩ : ∃ s, s = (rdU st).2 := ⟨_, rfl⟩
  have hsm := rdU_small st
  rw [← hs'] at hsp hsm
  rw [← hst2] at hs2
  obtain ⟨DA, dc, DA', dc', OA, oc, rfl, -⟩ := id hsp
  have hr2 := HR0.out.only ho2 (by omega)
  have hl2 := hr2.lt
  have hk : ∀ b, b < w2.heap.size → (w2.alloc (.cells #[.bool s.rep, .int .i64 s.doc.kind, .int .i64 s.doc.num, .string s.doc.text, .slice DA s.doc.items.length dc, .slice DA' s.doc.names.length dc', .slice OA s.ops.length oc] 35)).heap[b]? = w2.heap[b]? := fun b hb => Below.heap_alloc w2 _ b hb
  have hq3 : TBox (w2.alloc (.cells #[.bool s.rep, .int .i64 s.doc.kind, .int .i64 s.doc.num, .string s.doc.text, .slice DA s.doc.items.length dc, .slice DA' s.doc.names.length dc', .slice OA s.ops.length oc] 35)) w2.heap.size _ _ _ _ _ _ _ := TBox.new w2 _ _ _ _ _ _ _
  have hr3 := hr2.alloc (.cells #[.bool s.rep, .int .i64 s.doc.kind, .int .i64 s.doc.num, .string s.doc.text, .slice DA s.doc.items.length dc, .slice DA' s.doc.names.length dc', .slice OA s.ops.length oc] 35)
  have hs3 := hs2.alloc (.cells #[.bool s.rep, .int .i64 s.doc.kind, .int .i64 s.doc.num, .string s.doc.text, .slice DA s.doc.items.length dc, .slice DA' s.doc.names.length dc', .slice OA s.ops.length oc] 35)
  have ho3 : Only w (w2.alloc (.cells #[.bool s.rep, .int .i64 s.doc.kind, .int .i64 s.doc.num, .string s.doc.text, .slice DA s.doc.items.length dc, .slice DA' s.doc.names.length dc', .slice OA s.ops.length oc] 35)) g := (HO0.out.trans ho2).trans ⟨rfl, rfl, rfl, by simp, fun b hb _ => Below.heap_alloc w2 _ b hb⟩
  have hsp3 : SpecL (w2.alloc (.cells #[.bool s.rep, .int .i64 s.doc.kind, .int .i64 s.doc.num, .string s.doc.text, .slice DA s.doc.items.length dc, .slice DA' s.doc.names.length dc', .slice OA s.ops.length oc] 35)) (fun b => w.heap.size + 1 ≤ b ∧ b < w2.heap.size) s _ := hsp.keep fun b hb => hk b hb.2
  have hz3 : (w2.alloc (.cells #[.bool s.rep, .int .i64 s.doc.kind, .int .i64 s.doc.num, .string s.doc.text, .slice DA s.doc.items.length dc, .slice DA' s.doc.names.length dc', .slice OA s.ops.length oc] 35)).heap.size = w2.heap.size + 1 := by simp
  have HK := Lib.hid (spcheck_any (fun b => w.heap.size + 1 ≤ b ∧ b < w2.heap.size) s _ _ (fun b hb => by rw [hz3]; have := hb.2; omega) hsp3 hsm)
  have HQ3 := Lib.hid hq3
  have HR3 := Lib.hid hr3
  have HX3 := Lib.hid (And.intro ho3 (And.intro hsp3 hz3))
  have HS := Lib.hid (And.intro hs' hst2)
  have hrest := hs3
  have HS3 := Lib.hid hrest
  have hq := hq3
  clear hsp hs2 ho2 hs' hst2 hsm hr2 hk hr3 hs3 ho3 hsp3 hz3 HC HR0 HO0 HZ0 hrest hq3
  cases st2 with
  | none =>
    have HB := Lib.hid (cbad_none g _ HS3.out)
    clear HK
    clear hq
    go_wp2_with fail
    refine HB.out.mono ?_
    rintro e w4 ⟨rfl, rfl⟩
    have HRR := Lib.hid (And.intro HR3.out HX3.out.1)
    go_wp2_with fail
    refine (cspoil_st g none _ HS3.out).mono ?_
    rintro e w5 ⟨rfl, hs5, ho5⟩
    have hr5 := HR3.out.only ho5 (by omega)
    have HX5 := Lib.hid (And.intro hs5 (HX3.out.1.trans ho5))
    have HR5 := Lib.hid hr5
    have r5f := fun i => hr5.free i
    have y0 := hr5.g0
    have y1 := hr5.g1
    have y2 := hr5.g2
    have y3 := hr5.g3
    have y4 := hr5.g4
    have y5 := hr5.g5
    have y6 := hr5.g6
    clear hr5 hs5 ho5
    go_wp2_with fail
    refine bodyPost_ret (results_cell_s rfl _ _ w.heap.size 35 _ (0, 0) rfl (seven_box HR5.out) (by kernel_rfl)) rfl ?_
    obtain ⟨hs5, ho5⟩ := HX5.out
    have e0 := rdS_none HS.out.2.symm
    refine spec_end (f := rdS) (S := fun _ => False) (by rw [e0]; exact hs5) ho5 hgl ?_ (fun b hb => hb.elim)
    rw [e0]
    exact none_spec _ _
  | some l =>
    have HB := Lib.hid (cbad_some g l _ HS3.out)
    have qf := fun i => hq.free i
    have q0 := hq.g0
    have q1 := hq.g1
    have q2 := hq.g2
    have q3 := hq.g3
    have q4 := hq.g4
    have q5 := hq.g5
    have q6 := hq.g6
    clear hq
    go_wp2_with fail
    refine HB.out.mono ?_
    rintro e w4 ⟨rfl, rfl⟩
    go_wp2_with fail
    refine HK.out.mono ?_
    rintro e w4 ⟨rfl, hb4⟩
    have hz3 := HX3.out.2.2
    have hz4 := hb4.size
    have hq4 := HQ3.out.call hb4
    have hr4 := HR3.out.call hb4
    have hs4 := HS3.out.of (hb4.block g HS3.out.lt)
    have ho4 : Only w w4 g := HX3.out.1.trans ⟨hb4.os, hb4.tape, hb4.output, hb4.size, fun b hb _ => hb4.block b hb⟩
    have hsp4 : SpecL w4 (fun b => w.heap.size + 1 ≤ b ∧ b < w2.heap.size) s _ := HX3.out.2.1.keep fun b hb => hb4.block b (by have := hb.2; omega)
    obtain ⟨x, hx⟩ : ∃ x, x = checkS s := ⟨_, rfl⟩
    rw [← hx]
    have HXX := Lib.hid hx
    have HR4 := Lib.hid hr4
    have HX4 := Lib.hid (And.intro hs4 (And.intro ho4 hsp4))
    clear hb4 hs4 ho4 hsp4 hx q0 q1 q2 q3 q4 q5 q6 qf
    by_cases h0 : x = 0
    · subst h0
      have qf := fun i => hq4.free i
      have q0 := hq4.g0
      have q1 := hq4.g1
      have q2 := hq4.g2
      have q3 := hq4.g3
      have q4 := hq4.g4
      have q5 := hq4.g5
      have q6 := hq4.g6
      have r4f := fun i => hr4.free i
      have y0 := hr4.g0
      have y1 := hr4.g1
      have y2 := hr4.g2
      have y3 := hr4.g3
      have y4 := hr4.g4
      have y5 := hr4.g5
      have y6 := hr4.g6
      clear hq4 hr4
      go_wp2_with fail
      refine bodyPost_ret (results_cell_s rfl _ _ w.heap.size 35 _ (0, 0) rfl (seven_box HR4.out) (by kernel_rfl)) rfl ?_
      obtain ⟨hs4, ho4, hsp4⟩ := HX4.out
      have e0 : rdS st = (s, some l) := by rw [rdS_some HS.out.2.symm, ← HS.out.1, if_pos HXX.out.symm]
      refine spec_end (f := rdS) (S := fun b => w.heap.size + 1 ≤ b ∧ b < w2.heap.size) (by rw [e0]; exact hs4) ho4 hgl ?_ (fun b hb => ⟨hb.1, by have := hb.2; omega⟩)
      rw [e0]
      exact hsp4
    · have h1 : (x == 0) = false := beq_false_of_ne h0
      have h2 : (x != 0) = true := by simp [h0]
      clear hq4 hr4
      go_wp2_with fail
      refine (cspoil_st g (some l) _ HX4.out.1).mono ?_
      rintro e w5 ⟨rfl, hs5, ho5⟩
      have hr5 := HR4.out.only ho5 (by omega)
      have HX5 := Lib.hid (And.intro hs5 (HX4.out.2.1.trans ho5))
      have HR5 := Lib.hid hr5
      have r5f := fun i => hr5.free i
      have y0 := hr5.g0
      have y1 := hr5.g1
      have y2 := hr5.g2
      have y3 := hr5.g3
      have y4 := hr5.g4
      have y5 := hr5.g5
      have y6 := hr5.g6
      clear hr5 hs5 ho5
      go_wp2_with fail
      refine bodyPost_ret (results_cell_s rfl _ _ w.heap.size 35 _ (0, 0) rfl (seven_box HR5.out) (by kernel_rfl)) rfl ?_
      obtain ⟨hs5, ho5⟩ := HX5.out
      have e0 : rdS st = (⟨false, noneV, []⟩, none) := by rw [rdS_some HS.out.2.symm, ← HS.out.1, if_neg (by rw [← HXX.out]; exact h0)]
      refine spec_end (f := rdS) (S := fun _ => False) (by rw [e0]; exact hs5) ho5 hgl ?_ (fun b hb => hb.elim)
      rw [e0]
      exact none_spec _ _
end Go.Proofs.Ytipiplnhbecjeaa

/- The law's own update, plain. -/
namespace Go.Proofs.Ytipiplnhbecjeaa
set_option linter.unusedVariables false
set_option linter.unusedSimpArgs false
set_option maxRecDepth 100000
def twoB : List UInt8 := [0, 2, 1, 1, 1, 97, 3, 2, 6, 1, 1, 98, 2, 1, 99, 1, 100]
theorem two_code : codeS twoS = twoB := by decide +kernel
def twoX : SpecT := ⟨false, .mk 0 0 ⟨#[]⟩ [] [], [⟨1, [⟨#[97]⟩], .mk 3 1 ⟨#[]⟩ [] [], []⟩, ⟨6, [⟨#[98]⟩], .mk 0 0 ⟨#[]⟩ [] [], [⟨#[97]⟩, ⟨#[120]⟩]⟩]⟩
theorem two_check : checkS twoS = 0 := by decide +kernel
theorem twoX_check : checkS twoX = 71 := by decide +kernel
theorem none_check : checkS ⟨false, noneV, []⟩ = 72 := by decide +kernel
theorem set_may : mayO ⟨1, [⟨#[97]⟩], .mk 3 1 ⟨#[]⟩ [] [], []⟩ = true := by decide +kernel
theorem none_may : mayO ⟨0, [], noneV, []⟩ = false := by decide +kernel
theorem two_places : (if twoS.ops.all mayO then placesL twoS.ops else []).length = 3 := by decide +kernel
theorem two_read : rdS (some twoB) = (twoS, some []) := by kernel_rfl
end Go.Proofs.Ytipiplnhbecjeaa
