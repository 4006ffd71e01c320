/- A ballot noted where no file is yet. -/
import Derived.Test.YtflkaladkbkbgaaGreatKVoG
namespace Go.Proofs.YtflkaladkbkbgaaGreat
set_option linter.unusedVariables false
set_option linter.unusedSimpArgs false
open Go.RowKit Go.Maps
set_option maxRecDepth 100000
def noteM (t n : Int) (M : DiskM) : Int × DiskM := stepsM [fun M => M.app voteN (codeF t n), fun M => M.snc voteN] M
section
variable {w : World} {Ft : Nat → Prop} {d : Nat} {M : DiskM}
set_option maxHeartbeats 4000000 in
theorem note_none (h : DAt w Ft d M) (hr : M.read voteN = ([], 4)) {v : Nat} {t0 n0 : Int} (hv : VAt w v d t0 n0) (t n : Int) (ht : 0 ≤ t ∧ t ≤ 1099511627776) (hn : -1 ≤ n ∧ n ≤ 63) :
    Calls Tryz.prog 28 #[.pointer (some ⟨v, 0, none⟩), .agg #[.int .i64 t, .int .i64 n]] w (AppR w Ft d (noteM t n M)) := by
  obtain ⟨w1, hw1⟩ : ∃ W, W = w.alloc (.cells #[.int .i64 t, .int .i64 n] 51) := ⟨_, rfl⟩
  have hb1 : Below w.heap.size w w1 := by rw [hw1]; exact two_below w _
  have hbk1 : w1.heap[w.heap.size]? = some (.cells #[.int .i64 t, .int .i64 n] 51 (0, 0)) := by rw [hw1]; exact heap_alloc_new w _
  have hz1 : w1.heap.size = w.heap.size + 1 := by rw [hw1]; simp
  have hv1 : VAt w1 v d t0 n0 := (hb1.block v (Array.getElem?_eq_some_iff.1 hv).1).trans hv
  have y0 : (w.alloc (.cells #[.int .i64 t, .int .i64 n] 51)).cell? ⟨v, 0, none⟩ = some (.pointer (some ⟨d, 0, none⟩)) := by rw [← hw1]; exact hv1.c0
  have HW1 := Lib.hid hw1
  have HB1 := Lib.hid hb1
  have HK1 := Lib.hid hbk1
  have HZ1 := Lib.hid hz1
  have H := Lib.hid h
  have HRD := Lib.hid hr
  have HT := Lib.hid ht
  have HN := Lib.hid hn
  obtain ⟨R, hR⟩ : ∃ R, R = noteM t n M := ⟨_, rfl⟩
  have HR := Lib.hid hR
  rw [← hR]
  clear h hr hv hR hw1 hb1 hbk1 hz1 hv1 ht hn
  go_enter Tryz.func28, Tryz.ntmps28
  go_wp2_with fail
  rw [← HW1.out]
  refine (votesOn_any d w1).mono ?_
  rintro e w2 ⟨rfl, hb2⟩
  unfold fv
  obtain ⟨vb, hvb⟩ : ∃ vb, vb = (⟨#[118, 111, 116, 101]⟩ : ByteArray) := ⟨_, rfl⟩
  have HVB := Lib.hid hvb
  rw [← hvb]
  clear hvb
  obtain ⟨w3, hw3⟩ : ∃ W, W = w2.alloc (.cells #[.pointer (some ⟨d, 0, none⟩), .string vb] 57) := ⟨_, rfl⟩
  have hb3 : Below w2.heap.size w2 w3 := by rw [hw3]; exact two_below w2 _
  have hz3 : w3.heap.size = w2.heap.size + 1 := by rw [hw3]; simp
  have hbk3 : w3.heap[w2.heap.size]? = some (.cells #[.pointer (some ⟨d, 0, none⟩), .string vb] 57 (0, 0)) := by rw [hw3]; exact fv_blk w2 d vb
  have hb03 : Below w.heap.size w w3 := HB1.out.trans ((hb2.mono HB1.out.size).trans (hb3.mono (by have := HB1.out.size; have := hb2.size; omega)))
  have hbk03 : w3.heap[w.heap.size]? = some (.cells #[.int .i64 t, .int .i64 n] 51 (0, 0)) := (hb3.block _ (by have := HZ1.out; have := hb2.size; omega)).trans ((hb2.block _ (by have := HZ1.out; omega)).trans HK1.out)
  have HTR := Lib.hid (trim_none (H.out.below hb03) vb (by rw [HVB.out]; decide) (by rw [HVB.out]; exact HRD.out))
  have y3 := Go.Joins.cell_of_block hbk3 0
  have y4 := Go.Joins.cell_of_block hbk3 1
  have HB3 := Lib.hid hb03
  have HW3 := Lib.hid hw3
  have HK3 := Lib.hid (And.intro hbk3 hbk03)
  have HZ3 := Lib.hid hz3
  have hp2 : w.heap.size < w2.heap.size := by have := HZ1.out; have := hb2.size; omega
  have HP2 := Lib.hid hp2
  clear y0 hb2 hw3 hb3 hz3 hbk3 hb03 hbk03 HK1 HZ1 hp2
  go_wp2_with fail
  rw [← HW3.out]
  refine HTR.out.mono ?_
  rintro e w4 ⟨rfl, hb4⟩
  have hbk4 := (hb4.block _ (by have := HZ3.out; omega)).trans HK3.out.1
  have hbk5 := (hb4.block _ (by have := HZ3.out; have := HP2.out; omega)).trans HK3.out.2
  have HB4 := Lib.hid (HB3.out.trans (hb4.mono HB3.out.size))
  have HZ4 : Hid (w2.heap.size < w4.heap.size) := Lib.hid (by have := HZ3.out; have := hb4.size; omega)
  obtain ⟨p, hp⟩ : ∃ p, p = w.heap.size := ⟨_, rfl⟩
  obtain ⟨q, hq⟩ : ∃ q, q = w2.heap.size := ⟨_, rfl⟩
  have HP := Lib.hid hp
  have HQ := Lib.hid hq
  rw [← hq] at hbk4 ⊢
  rw [← hp] at hbk5 ⊢
  clear HTR HK3 HZ3 hb4 y3 y4 hp hq
  go_wp2_with fail
  have hbk4 : w4.drew.heap[q]? = _ := hbk4
  have hbk5 : w4.drew.heap[p]? = _ := hbk5
  have q1 := cell_r4 (a := p) (b := q) (c := p) (d := q) (Go.Joins.cell_of_block hbk5 0) (.inl rfl)
  have q2 := cell_r4 (a := p) (b := q) (c := p) (d := q) (Go.Joins.cell_of_block hbk5 1) (.inl rfl)
  have q3 := cell_r4 (a := p) (b := q) (c := p) (d := q) (Go.Joins.cell_of_block hbk4 0) (.inr (.inl rfl))
  have q4 := cell_r4 (a := p) (b := q) (c := p) (d := q) (Go.Joins.cell_of_block hbk4 1) (.inr (.inl rfl))
  have HB5 : Hid (Below w.heap.size w w4.drew) := Lib.hid HB4.out.drew
  have HZ5 : Hid (w2.heap.size < w4.drew.heap.size) := HZ4
  clear hbk4 hbk5 HB4 HZ4
  refine wp_region_OT (R4 p q p q) (R4.refl _ _ _ _) (R4.trans _ _ _ _) [] (.pure [0, 1, 4, 5] (.step 2 (.step 3 (.step 6 (.step 7 (.free [8] (.tail []))))))) (by kernel_rfl) (by kernel_rfl) (fun _ d _ _ _ h => by cases d <;> exact h) ?_
  generalize w4.drew = w5 at *
  refine ot_pure ?_
  simp only [atNats, List.filterMap_cons, List.filterMap_nil, List.getElem?_toArray, List.getElem?_cons_succ, List.getElem?_cons_zero]
  show wpQuiet _ _ _ _ [_, _, _, _] _
  try simp only [List.getElem_toArray, List.getElem_cons_succ, List.getElem_cons_zero, Act.put, List.setIfInBounds_toArray, List.set_cons_succ, List.set_cons_zero] at *
  repeat (go_big_quiet_step (fail))
  refine wpQuiet_nil ?_
  clear q1 q2 q3 q4
  refine ot_step rfl (fun K hK => ?_)
  go_simp
  refine (code_any t n w5 HT.out HN.out).mono ?_
  rintro e w6 ⟨v6, rfl, hv6, hb6⟩
  refine hK _ _ (.inr fun k hk => hb6.block k (by have := HP.out; have := HQ.out; have := HZ5.out; have := HP2.out; omega)) ?_
  clear hK K
  obtain ⟨A, c, e6⟩ := hv6.rdY.shapeY
  obtain ⟨m, hm⟩ : ∃ m, m = (codeF t n).length := ⟨_, rfl⟩
  rw [← hm] at e6
  subst e6
  clear hm
  refine ot_step rfl (fun K hK => ?_)
  go_simp
  refine (fiPut_any d vb A m c w6).mono ?_
  rintro e w7 ⟨rfl, hw7⟩
  have hbp7 : w7.heap[w6.heap.size]? = some (.cells #[.pointer (some ⟨d, 0, none⟩), .string vb] 57 (0, 0)) := by
    rw [hw7]; exact ((two_below _ _).block _ (by simp)).trans (heap_alloc_new w6 _)
  have hbq7 : w7.heap[w6.heap.size + 1]? = some (.cells #[.slice A m c] 33 (0, 0)) := by
    rw [hw7]
    have h1 := heap_alloc_new (w6.alloc (.cells #[.pointer (some ⟨d, 0, none⟩), .string vb] 57)) (.cells #[.slice A m c] 33)
    simpa using h1
  have hz7 : w7.heap.size = w6.heap.size + 2 := by rw [hw7]; simp
  have hb7 : Below w6.heap.size w6 w7 := by rw [hw7]; exact ((Below.refl _ _).alloc (Nat.le_refl _) _).alloc (by simp) _
  have HZ7 := Lib.hid hz7
  clear hw7 hz7
  refine hK _ _ (.inr fun k hk => hb7.block k (by have := hb6.size; have := HP.out; have := HQ.out; have := HZ5.out; have := HP2.out; omega)) ?_
  clear hK K
  refine ot_step rfl (fun K hK => ?_)
  go_simp
  have hb57 : Below w5.heap.size w5 w7 := hb6.trans (hb7.mono hb6.size)
  have hb58 : ∀ X : Obj, Below w5.heap.size w5 (w7.alloc X) := fun X => hb57.trans ((two_below w7 X).mono hb57.size)
  have hd8 : ∀ X : Obj, DAt (w7.alloc X) Ft d M := fun X => (H.out.below HB5.out).below (hb58 X)
  have hcell : ∀ (X : Obj) k, k < w7.heap.size → (w7.alloc X).heap[k]? = w7.heap[k]? := fun X k hk => (two_below w7 X).block k hk
  obtain ⟨vs, hvs⟩ : ∃ vs : List Stp, vs = [⟨70, #[], #[.pointer (some ⟨w6.heap.size, 0, none⟩), .pointer (some ⟨w6.heap.size + 1, 0, none⟩)]⟩, ⟨45, #[.agg #[.pointer (some ⟨d, 0, none⟩), .string vb]], #[]⟩] := ⟨_, rfl⟩
  obtain ⟨X, hX⟩ : ∃ X, X = Obj.cells (vs.map Stp.val).toArray 55 := ⟨_, rfl⟩
  rw [show (Obj.cells #[_, _] 55) = X by rw [hX, hvs]; rfl]
  have hblk : ∀ j (h : j < vs.length), (w7.alloc X).cell? ⟨w7.heap.size, j, none⟩ = some vs[j].val := fun j h => by
    have h1 := Go.Joins.cell_of_block (w := w7.alloc X) (g := w7.heap.size) (by rw [heap_alloc_new w7 X, hX]) j
    rw [h1]
    simp [h]
  have hnx : ∀ k, w.heap.size ≤ k → ¬ Ft k := fun k hk hf => by have := H.out.1 k hf; omega
  have hv4 : vs.length = 2 := by rw [hvs]; rfl
  have hent : ∀ j (h : j < vs.length), EntersF vs[j].f := by
    subst hvs
    intro j h
    match j, h with
    | 0, _ => exact enters_fiPut1
    | 1, _ => exact enters_fiSync
  refine hK _ _ (.inr fun k hk => (hcell X k (by have := hb57.size; have := HP.out; have := HQ.out; have := HZ5.out; have := HP2.out; omega))) ?_
  clear hK K
  have hsz : w.heap.size ≤ w5.heap.size := HB5.out.size
  have hvbs : vb.size ≤ 1004 := by rw [HVB.out]; decide
  have hvbl : voteN = vb.data.toList := by rw [HVB.out]; rfl
  obtain ⟨w8, hw8⟩ : ∃ W, W = w7.alloc X := ⟨_, rfl⟩
  rw [← hw8] at hblk
  have hb58 := hb58 X
  have hd8 := hd8 X
  have hcell := hcell X
  rw [← hw8] at hb58 hd8 hcell ⊢
  have hDo : Calls Tryz.prog 17 #[.slice (some ⟨w7.heap.size, 0, none⟩) vs.length 2] w8 (AppR w8 Ft d (noteM t n M)) := by
    refine do_disk vs [fun M => M.app voteN (codeF t n), fun M => M.snc voteN] (by rw [hv4]; rfl) (by omega) _ _ w8 Ft d M hd8 (hnx _ (by have := hb57.size; omega)) hblk hent ?_
    rw [hvbl]
    subst hvs
    intro i hi W Ft' M' hg hd
    have hkW : ∀ k, k < w8.heap.size → w.heap.size ≤ k → W.heap[k]? = w8.heap[k]? := fun k h1 h2 => hg.block k h1 (hnx k h2)
    have hs78 : w7.heap.size < w8.heap.size := by rw [hw8]; simp
    match i, hi with
    | 0, _ =>
      have hrd : Rd W W.heap.size (.slice A m c) (codeF t n) := (hv6.keepB (w' := W) fun k hk => by
        obtain ⟨h1, h2⟩ := World.ownsRow.lt hv6 k hk
        exact (hkW k (by have := hb7.size; omega) (by omega)).trans ((hcell k (by have := hb7.size; omega)).trans (hb7.block k h2))).rdY
      exact fiPut1_any hd vb (by omega) _ (codeF t n) hrd _ _ ((hkW _ (by have := HZ7.out; omega) (by have := hb6.size; omega)).trans ((hcell _ (by have := HZ7.out; omega)).trans hbp7)) ((hkW _ (by have := HZ7.out; omega) (by have := hb6.size; omega)).trans ((hcell _ (by have := HZ7.out; omega)).trans hbq7))
    | 1, _ => exact fiSync_any hd vb (by omega)
  rw [hv4, ← HR.out] at hDo
  have HD := Lib.hid hDo
  have HGR : Hid (Below w.heap.size w w8) := Lib.hid (HB5.out.trans (hb58.mono hsz))
  have HR7 : Hid (∀ W Ft', Gr Ft w8 Ft' W → R4 p q p q w8 W) := Lib.hid fun W Ft' hg k hk => hg.block k (by have := hb58.size; have := HP.out; have := HQ.out; have := HZ5.out; have := HP2.out; omega) (hnx k (by have := HP.out; have := HQ.out; have := HP2.out; omega))
  clear hDo hsz hvbs hvbl hw8 hb57 hb58 hd8 hcell hblk hent hv4 hnx hX hvs hb6 hb7 hbp7 hbq7 hv6
  refine ot_step rfl (fun K hK => ?_)
  go_simp
  refine HD.out.mono ?_
  rintro e w9 ha
  obtain ⟨rfl, Ft9, hg9, hd9⟩ := ha
  have HA : Hid (AppR w Ft d R (.returned (.int .i64 R.1)) w9) := Lib.hid ⟨rfl, Ft9, (Gr.of_below HGR.out).trans hg9, hd9⟩
  refine hK _ _ (.inr (HR7.out _ _ hg9)) ?_
  clear hK K hg9 hd9
  refine ot_free ?_
  simp only [atNats, List.filterMap_cons, List.filterMap_nil, List.getElem?_toArray, List.getElem?_cons_succ, List.getElem?_cons_zero]
  show wpQuiet _ _ _ _ [_] _
  try simp only [List.getElem_toArray, List.getElem_cons_succ, List.getElem_cons_zero, Act.put, List.setIfInBounds_toArray, List.set_cons_succ, List.set_cons_zero]
  repeat (go_big_quiet_step (fail))
  refine wpQuiet_nil ?_
  refine ot_end ?_
  go_wp2_with fail
  go_ret
  exact HA.out
end
end Go.Proofs.YtflkaladkbkbgaaGreat
