/- A ballot noted, whatever file is there. -/
import Derived.Test.YtflkaladkbkbgaaGreatKVoO
namespace Go.Proofs.YtflkaladkbkbgaaGreat
set_option linter.unusedVariables false
set_option linter.unusedSimpArgs false
open Go.RowKit Go.Maps
set_option maxRecDepth 100000
section
variable {w : World} {Ft : Nat → Prop} {d : Nat} {M : DiskM}
def WholeR (w : World) (bs : List (List UInt8)) (e : Ending) (w' : World) : Prop := ∃ A c, e = .returned (.tuple #[.slice A bs.length c, .int .i64 0]) ∧ Below w.heap.size w w'
set_option maxHeartbeats 4000000 in
theorem frames_whole (h : DAt w Ft d M) (s : ByteArray) (hs : s.size ≤ 140737488351232) (b : List UInt8) (bs : List (List UInt8)) (hr : M.read s.data.toList = (b, 0)) (hsc : ScanR b bs b.length) (hbl : b.length ≤ 140737488000) :
    Calls Tryz.prog 61 #[.pointer (some ⟨d, 0, none⟩), .string s] w (WholeR w bs) := by
  have HC := Lib.hid (read_any h s hs)
  rw [hr] at HC
  have HSC := Lib.hid hsc
  have HBL := Lib.hid hbl
  obtain ⟨n, hn⟩ : ∃ n, n = b.length := ⟨_, rfl⟩
  have HN := Lib.hid hn
  clear h hr hsc hbl
  go_enter Tryz.func61, Tryz.ntmps61
  go_wp2_with fail
  refine HC.out.mono ?_
  rintro e w1 ⟨hb1, v1, rfl, hv1⟩
  have HSN := Lib.hid (fscan_any _ _ _ _ w1 hv1.rdY HBL.out HSC.out)
  obtain ⟨A1, c1, rfl⟩ := hv1.rdY.shapeY
  rw [← HN.out] at HSN ⊢
  have HB1 := Lib.hid hb1
  clear hb1 hv1 HC hn
  go_wp2_with fail
  refine HSN.out.mono ?_
  rintro e w2 ⟨v2, rfl, hv2, hb2⟩
  have HB2 := Lib.hid (HB1.out.trans (hb2.mono HB1.out.size))
  obtain ⟨A2, c2, rfl, -, -⟩ := hv2.shape
  obtain ⟨k, hk⟩ : ∃ k, k = bs.length := ⟨_, rfl⟩
  have HK := Lib.hid hk
  rw [← hk]
  clear hb2 hv2 HSN hk
  go_wp2_with fail
  go_ret2
  exact ⟨A2, c2, by rw [← HK.out]; rfl, HB2.out⟩
set_option maxHeartbeats 4000000 in
theorem trim_whole (h : DAt w Ft d M) (s : ByteArray) (hs : s.size ≤ 140737488351232) (b : List UInt8) (bs : List (List UInt8)) (hr : M.read s.data.toList = (b, 0)) (hsc : ScanR b bs b.length) (hbl : b.length ≤ 140737488000) :
    Calls Tryz.prog 37 #[.agg #[.pointer (some ⟨d, 0, none⟩), .string s]] w (WholeR w bs) := by
  obtain ⟨w1, hw1⟩ : ∃ W, W = w.alloc (.cells #[.pointer (some ⟨d, 0, none⟩), .string s] 57) := ⟨_, rfl⟩
  have hb1 : Below w.heap.size w w1 := by rw [hw1]; exact two_below w _
  have HC := Lib.hid (frames_whole (h.below hb1) s hs b bs hr hsc hbl)
  have HB := Lib.hid hb1
  have HW := Lib.hid hw1
  clear h hr hsc hbl hb1 hw1
  go_enter Tryz.func37, Tryz.ntmps37
  go_wp2_with fail
  rw [← HW.out]
  refine HC.out.mono ?_
  rintro e w2 ⟨A, c, rfl, hb2⟩
  have HB2 := Lib.hid (HB.out.trans (hb2.mono HB.out.size))
  obtain ⟨k, hk⟩ : ∃ k, k = bs.length := ⟨_, rfl⟩
  have HK := Lib.hid hk
  rw [← hk]
  clear hb2 hk HC
  go_wp2_with fail
  go_ret2
  exact ⟨A, c, by rw [← HK.out]; rfl, HB2.out⟩
/-- What trimming tells: so many frames, the disk as it was. -/
def TrimK (Ft : Nat → Prop) (d : Nat) (M : DiskM) (k : Nat) : Prop := ∀ W, DAt W Ft d M → Calls Tryz.prog 37 #[.agg #[.pointer (some ⟨d, 0, none⟩), .string voteB]] W fun e w' => ∃ A c, e = .returned (.tuple #[.slice A k c, .int .i64 0]) ∧ Below W.heap.size W w'
theorem trimK_none (hr : M.read voteN = ([], 4)) : TrimK Ft d M 0 := fun W hd => (trim_none hd voteB (by decide) hr).mono fun e w' ⟨he, hb⟩ => ⟨none, 0, he, hb⟩
theorem trimK_file (b : List UInt8) (bs : List (List UInt8)) (hr : M.read voteN = (b, 0)) (hsc : ScanR b bs b.length) (hbl : b.length ≤ 140737488000) : TrimK Ft d M bs.length := fun W hd => trim_whole hd voteB (by decide) b bs hr hsc hbl
def noteK (k : Nat) (t n : Int) (M : DiskM) : Int × DiskM := if 32 ≤ k then repM voteN (codeF t n) M else noteM t n M
set_option maxHeartbeats 4000000 in
theorem note_any (h : DAt w Ft d M) (k : Nat) (hr : TrimK Ft d M k) {v : Nat} {t0 n0 : Int} (hv : VAt w v d t0 n0) (t n : Int) (ht : 0 ≤ t ∧ t ≤ 1099511627776) (hn : -1 ≤ n ∧ n ≤ 63) :
    Calls Tryz.prog 28 #[.pointer (some ⟨v, 0, none⟩), .agg #[.int .i64 t, .int .i64 n]] w (AppR w Ft d (noteK k t n M)) := by
  obtain ⟨w1, hw1⟩ : ∃ W, W = w.alloc (.cells #[.int .i64 t, .int .i64 n] 51) := ⟨_, rfl⟩
  have hb1 : Below w.heap.size w w1 := by rw [hw1]; exact two_below w _
  have hbk1 : w1.heap[w.heap.size]? = some (.cells #[.int .i64 t, .int .i64 n] 51 (0, 0)) := by rw [hw1]; exact heap_alloc_new w _
  have hz1 : w1.heap.size = w.heap.size + 1 := by rw [hw1]; simp
  have hv1 : VAt w1 v d t0 n0 := (hb1.block v (Array.getElem?_eq_some_iff.1 hv).1).trans hv
  have y0 : (w.alloc (.cells #[.int .i64 t, .int .i64 n] 51)).cell? ⟨v, 0, none⟩ = some (.pointer (some ⟨d, 0, none⟩)) := by rw [← hw1]; exact hv1.c0
  have HW1 := Lib.hid hw1
  have HB1 := Lib.hid hb1
  have HK1 := Lib.hid hbk1
  have HZ1 := Lib.hid hz1
  have H := Lib.hid h
  have HRD := Lib.hid hr
  have HT := Lib.hid ht
  have HN := Lib.hid hn
  obtain ⟨R, hR⟩ : ∃ R, R = noteK k t n M := ⟨_, rfl⟩
  have HR := Lib.hid hR
  rw [← hR]
  clear h hr hv hR hw1 hb1 hbk1 hz1 hv1 ht hn
  go_enter Tryz.func28, Tryz.ntmps28
  go_wp2_with fail
  rw [← HW1.out]
  refine (votesOn_any d w1).mono ?_
  rintro e w2 ⟨rfl, hb2⟩
  unfold fv
  obtain ⟨vb, hvb⟩ : ∃ vb, vb = (⟨#[118, 111, 116, 101]⟩ : ByteArray) := ⟨_, rfl⟩
  have HVB := Lib.hid hvb
  rw [← hvb]
  clear hvb
  obtain ⟨w3, hw3⟩ : ∃ W, W = w2.alloc (.cells #[.pointer (some ⟨d, 0, none⟩), .string vb] 57) := ⟨_, rfl⟩
  have hb3 : Below w2.heap.size w2 w3 := by rw [hw3]; exact two_below w2 _
  have hz3 : w3.heap.size = w2.heap.size + 1 := by rw [hw3]; simp
  have hbk3 : w3.heap[w2.heap.size]? = some (.cells #[.pointer (some ⟨d, 0, none⟩), .string vb] 57 (0, 0)) := by rw [hw3]; exact fv_blk w2 d vb
  have hb03 : Below w.heap.size w w3 := HB1.out.trans ((hb2.mono HB1.out.size).trans (hb3.mono (by have := HB1.out.size; have := hb2.size; omega)))
  have hbk03 : w3.heap[w.heap.size]? = some (.cells #[.int .i64 t, .int .i64 n] 51 (0, 0)) := (hb3.block _ (by have := HZ1.out; have := hb2.size; omega)).trans ((hb2.block _ (by have := HZ1.out; omega)).trans HK1.out)
  have HTR := Lib.hid (HRD.out w3 (H.out.below hb03))
  rw [show voteB = vb from HVB.out.symm] at HTR
  have y3 := Go.Joins.cell_of_block hbk3 0
  have y4 := Go.Joins.cell_of_block hbk3 1
  have HB3 := Lib.hid hb03
  have HW3 := Lib.hid hw3
  have HK3 := Lib.hid (And.intro hbk3 hbk03)
  have HZ3 := Lib.hid hz3
  have hp2 : w.heap.size < w2.heap.size := by have := HZ1.out; have := hb2.size; omega
  have HP2 := Lib.hid hp2
  clear y0 hb2 hw3 hb3 hz3 hbk3 hb03 hbk03 HK1 HZ1 hp2
  go_wp2_with fail
  rw [← HW3.out]
  refine HTR.out.mono ?_
  rintro e w4 ⟨A4, c4, rfl, hb4⟩
  have hbk4 := (hb4.block _ (by have := HZ3.out; omega)).trans HK3.out.1
  have hbk5 := (hb4.block _ (by have := HZ3.out; have := HP2.out; omega)).trans HK3.out.2
  have HB4 := Lib.hid (HB3.out.trans (hb4.mono HB3.out.size))
  have HZ4 : Hid (w2.heap.size < w4.heap.size) := Lib.hid (by have := HZ3.out; have := hb4.size; omega)
  obtain ⟨p, hp⟩ : ∃ p, p = w.heap.size := ⟨_, rfl⟩
  obtain ⟨q, hq⟩ : ∃ q, q = w2.heap.size := ⟨_, rfl⟩
  have HP := Lib.hid hp
  have HQ := Lib.hid hq
  rw [← hq] at hbk4 ⊢
  rw [← hp] at hbk5 ⊢
  clear HTR HK3 HZ3 hb4 y3 y4 hp hq
  by_cases h32 : 32 ≤ k
  · have d1 : decide ((32 : Int) ≤ (k : Int)) = true := decide_eq_true (by omega)
    go_wp2_with fail
    have hbk4 : w4.drew.heap[q]? = _ := hbk4
    have hbk5 : w4.drew.heap[p]? = _ := hbk5
    have q1 := cell_r4 (a := p) (b := q) (c := p) (d := q) (Go.Joins.cell_of_block hbk5 0) (.inl rfl)
    have q2 := cell_r4 (a := p) (b := q) (c := p) (d := q) (Go.Joins.cell_of_block hbk5 1) (.inl rfl)
    have q3 := cell_r4 (a := p) (b := q) (c := p) (d := q) (Go.Joins.cell_of_block hbk4 0) (.inr (.inl rfl))
    have q4 := cell_r4 (a := p) (b := q) (c := p) (d := q) (Go.Joins.cell_of_block hbk4 1) (.inr (.inl rfl))
    have HB5 : Hid (Below w.heap.size w w4.drew) := Lib.hid HB4.out.drew
    have HZ5 : Hid (w2.heap.size < w4.drew.heap.size) := HZ4
    clear hbk4 hbk5 HB4 HZ4
    refine wp_region_OT (R4 p q p q) (R4.refl _ _ _ _) (R4.trans _ _ _ _) [] (.pure [0, 1] (.step 2 (.step 3 (.free [4] (.tail []))))) (by kernel_rfl) (by kernel_rfl) (fun _ d _ _ _ h => by cases d <;> exact h) ?_
    generalize w4.drew = w5 at *
    refine ot_pure ?_
    simp only [atNats, List.filterMap_cons, List.filterMap_nil, List.getElem?_toArray, List.getElem?_cons_succ, List.getElem?_cons_zero]
    show wpQuiet _ _ _ _ [_, _] _
    try simp only [List.getElem_toArray, List.getElem_cons_succ, List.getElem_cons_zero, Act.put, List.setIfInBounds_toArray, List.set_cons_succ, List.set_cons_zero] at *
    repeat (go_big_quiet_step (fail))
    refine wpQuiet_nil ?_
    clear q1 q2 q3 q4
    refine ot_step rfl (fun K hK => ?_)
    go_simp
    refine (code_any t n w5 HT.out HN.out).mono ?_
    rintro e w6 ⟨v6, rfl, hv6, hb6⟩
    refine hK _ _ (.inr fun k hk => hb6.block k (by have := HP.out; have := HQ.out; have := HZ5.out; have := HP2.out; omega)) ?_
    clear hK K
    have hsz : w.heap.size ≤ w5.heap.size := HB5.out.size
    have hrep := replace_any ((H.out.below HB5.out).below hb6) vb (by rw [HVB.out]; decide) _ v6 (codeF t n) hv6 (fun k hk hf => by
      obtain ⟨h1, h2⟩ := World.ownsRow.lt hv6 k hk
      have h3 := H.out.1 k hf
      omega)
    rw [show vb.data.toList = voteN by rw [HVB.out]; rfl, ← show R = repM voteN (codeF t n) M by rw [HR.out]; unfold noteK; rw [if_pos (by omega)]] at hrep
    have HREP := Lib.hid hrep
    have HB6 : Hid (Below w.heap.size w w6) := Lib.hid (HB5.out.trans (hb6.mono hsz))
    have hs6 := hb6.size
    have HR6 : Hid (∀ W Ft', Gr Ft w6 Ft' W → R4 p q p q w6 W) := Lib.hid fun W Ft' hg k hk => hg.block k (by have := HP.out; have := HQ.out; have := HZ5.out; have := HP2.out; omega) (fun hf => by have := H.out.1 k hf; have := HP.out; have := HQ.out; have := HP2.out; omega)
    obtain ⟨A6, c6, e6⟩ := hv6.rdY.shapeY
    obtain ⟨m, hm⟩ : ∃ m, m = (codeF t n).length := ⟨_, rfl⟩
    rw [← hm] at e6
    subst e6
    clear hm hrep hv6 hb6 hsz hs6
    refine ot_step rfl (fun K hK => ?_)
    go_simp
    refine HREP.out.mono ?_
    rintro e w9 ha
    obtain ⟨rfl, Ft9, hg9, hd9⟩ := ha
    have HA : Hid (AppR w Ft d R (.returned (.int .i64 R.1)) w9) := Lib.hid ⟨rfl, Ft9, (Gr.of_below HB6.out).trans hg9, hd9⟩
    refine hK _ _ (.inr (HR6.out _ _ hg9)) ?_
    clear hK K hg9 hd9
    refine ot_free ?_
    simp only [atNats, List.filterMap_cons, List.filterMap_nil, List.getElem?_toArray, List.getElem?_cons_succ, List.getElem?_cons_zero]
    show wpQuiet _ _ _ _ [_] _
    try simp only [List.getElem_toArray, List.getElem_cons_succ, List.getElem_cons_zero, Act.put, List.setIfInBounds_toArray, List.set_cons_succ, List.set_cons_zero]
    repeat (go_big_quiet_step (fail))
    refine wpQuiet_nil ?_
    refine ot_end ?_
    go_wp2_with fail
    go_ret
    exact HA.out
  · have d1 : decide ((32 : Int) ≤ (k : Int)) = false := decide_eq_false (by omega)
    go_wp2_with fail
    have hbk4 : w4.drew.heap[q]? = _ := hbk4
    have hbk5 : w4.drew.heap[p]? = _ := hbk5
    have q1 := cell_r4 (a := p) (b := q) (c := p) (d := q) (Go.Joins.cell_of_block hbk5 0) (.inl rfl)
    have q2 := cell_r4 (a := p) (b := q) (c := p) (d := q) (Go.Joins.cell_of_block hbk5 1) (.inl rfl)
    have q3 := cell_r4 (a := p) (b := q) (c := p) (d := q) (Go.Joins.cell_of_block hbk4 0) (.inr (.inl rfl))
    have q4 := cell_r4 (a := p) (b := q) (c := p) (d := q) (Go.Joins.cell_of_block hbk4 1) (.inr (.inl rfl))
    have HB5 : Hid (Below w.heap.size w w4.drew) := Lib.hid HB4.out.drew
    have HZ5 : Hid (w2.heap.size < w4.drew.heap.size) := HZ4
    clear hbk4 hbk5 HB4 HZ4
    refine wp_region_OT (R4 p q p q) (R4.refl _ _ _ _) (R4.trans _ _ _ _) [] (.pure [0, 1, 4, 5] (.step 2 (.step 3 (.step 6 (.step 7 (.free [8] (.tail []))))))) (by kernel_rfl) (by kernel_rfl) (fun _ d _ _ _ h => by cases d <;> exact h) ?_
    generalize w4.drew = w5 at *
    refine ot_pure ?_
    simp only [atNats, List.filterMap_cons, List.filterMap_nil, List.getElem?_toArray, List.getElem?_cons_succ, List.getElem?_cons_zero]
    show wpQuiet _ _ _ _ [_, _, _, _] _
    try simp only [List.getElem_toArray, List.getElem_cons_succ, List.getElem_cons_zero, Act.put, List.setIfInBounds_toArray, List.set_cons_succ, List.set_cons_zero] at *
    repeat (go_big_quiet_step (fail))
    refine wpQuiet_nil ?_
    clear q1 q2 q3 q4
    refine ot_step rfl (fun K hK => ?_)
    go_simp
    refine (code_any t n w5 HT.out HN.out).mono ?_
    rintro e w6 ⟨v6, rfl, hv6, hb6⟩
    refine hK _ _ (.inr fun k hk => hb6.block k (by have := HP.out; have := HQ.out; have := HZ5.out; have := HP2.out; omega)) ?_
    clear hK K
    obtain ⟨A, c, e6⟩ := hv6.rdY.shapeY
    obtain ⟨m, hm⟩ : ∃ m, m = (codeF t n).length := ⟨_, rfl⟩
    rw [← hm] at e6
    subst e6
    clear hm
    refine ot_step rfl (fun K hK => ?_)
    go_simp
    refine (fiPut_any d vb A m c w6).mono ?_
    rintro e w7 ⟨rfl, hw7⟩
    have hbp7 : w7.heap[w6.heap.size]? = some (.cells #[.pointer (some ⟨d, 0, none⟩), .string vb] 57 (0, 0)) := by
      rw [hw7]; exact ((two_below _ _).block _ (by simp)).trans (heap_alloc_new w6 _)
    have hbq7 : w7.heap[w6.heap.size + 1]? = some (.cells #[.slice A m c] 33 (0, 0)) := by
      rw [hw7]
      have h1 := heap_alloc_new (w6.alloc (.cells #[.pointer (some ⟨d, 0, none⟩), .string vb] 57)) (.cells #[.slice A m c] 33)
      simpa using h1
    have hz7 : w7.heap.size = w6.heap.size + 2 := by rw [hw7]; simp
    have hb7 : Below w6.heap.size w6 w7 := by rw [hw7]; exact ((Below.refl _ _).alloc (Nat.le_refl _) _).alloc (by simp) _
    have HZ7 := Lib.hid hz7
    clear hw7 hz7
    refine hK _ _ (.inr fun k hk => hb7.block k (by have := hb6.size; have := HP.out; have := HQ.out; have := HZ5.out; have := HP2.out; omega)) ?_
    clear hK K
    refine ot_step rfl (fun K hK => ?_)
    go_simp
    have hb57 : Below w5.heap.size w5 w7 := hb6.trans (hb7.mono hb6.size)
    have hb58 : ∀ X : Obj, Below w5.heap.size w5 (w7.alloc X) := fun X => hb57.trans ((two_below w7 X).mono hb57.size)
    have hd8 : ∀ X : Obj, DAt (w7.alloc X) Ft d M := fun X => (H.out.below HB5.out).below (hb58 X)
    have hcell : ∀ (X : Obj) k, k < w7.heap.size → (w7.alloc X).heap[k]? = w7.heap[k]? := fun X k hk => (two_below w7 X).block k hk
    obtain ⟨vs, hvs⟩ : ∃ vs : List Stp, vs = [⟨70, #[], #[.pointer (some ⟨w6.heap.size, 0, none⟩), .pointer (some ⟨w6.heap.size + 1, 0, none⟩)]⟩, ⟨45, #[.agg #[.pointer (some ⟨d, 0, none⟩), .string vb]], #[]⟩] := ⟨_, rfl⟩
    obtain ⟨X, hX⟩ : ∃ X, X = Obj.cells (vs.map Stp.val).toArray 55 := ⟨_, rfl⟩
    rw [show (Obj.cells #[_, _] 55) = X by rw [hX, hvs]; rfl]
    have hblk : ∀ j (h : j < vs.length), (w7.alloc X).cell? ⟨w7.heap.size, j, none⟩ = some vs[j].val := fun j h => by
      have h1 := Go.Joins.cell_of_block (w := w7.alloc X) (g := w7.heap.size) (by rw [heap_alloc_new w7 X, hX]) j
      rw [h1]
      simp [h]
    have hnx : ∀ k, w.heap.size ≤ k → ¬ Ft k := fun k hk hf => by have := H.out.1 k hf; omega
    have hv4 : vs.length = 2 := by rw [hvs]; rfl
    have hent : ∀ j (h : j < vs.length), EntersF vs[j].f := by
      subst hvs
      intro j h
      match j, h with
      | 0, _ => exact enters_fiPut1
      | 1, _ => exact enters_fiSync
    refine hK _ _ (.inr fun k hk => (hcell X k (by have := hb57.size; have := HP.out; have := HQ.out; have := HZ5.out; have := HP2.out; omega))) ?_
    clear hK K
    have hsz : w.heap.size ≤ w5.heap.size := HB5.out.size
    have hvbs : vb.size ≤ 1004 := by rw [HVB.out]; decide
    have hvbl : voteN = vb.data.toList := by rw [HVB.out]; rfl
    obtain ⟨w8, hw8⟩ : ∃ W, W = w7.alloc X := ⟨_, rfl⟩
    rw [← hw8] at hblk
    have hb58 := hb58 X
    have hd8 := hd8 X
    have hcell := hcell X
    rw [← hw8] at hb58 hd8 hcell ⊢
    have hDo : Calls Tryz.prog 17 #[.slice (some ⟨w7.heap.size, 0, none⟩) vs.length 2] w8 (AppR w8 Ft d (noteM t n M)) := by
      refine do_disk vs [fun M => M.app voteN (codeF t n), fun M => M.snc voteN] (by rw [hv4]; rfl) (by omega) _ _ w8 Ft d M hd8 (hnx _ (by have := hb57.size; omega)) hblk hent ?_
      rw [hvbl]
      subst hvs
      intro i hi W Ft' M' hg hd
      have hkW : ∀ k, k < w8.heap.size → w.heap.size ≤ k → W.heap[k]? = w8.heap[k]? := fun k h1 h2 => hg.block k h1 (hnx k h2)
      have hs78 : w7.heap.size < w8.heap.size := by rw [hw8]; simp
      match i, hi with
      | 0, _ =>
        have hrd : Rd W W.heap.size (.slice A m c) (codeF t n) := (hv6.keepB (w' := W) fun k hk => by
          obtain ⟨h1, h2⟩ := World.ownsRow.lt hv6 k hk
          exact (hkW k (by have := hb7.size; omega) (by omega)).trans ((hcell k (by have := hb7.size; omega)).trans (hb7.block k h2))).rdY
        exact fiPut1_any hd vb (by omega) _ (codeF t n) hrd _ _ ((hkW _ (by have := HZ7.out; omega) (by have := hb6.size; omega)).trans ((hcell _ (by have := HZ7.out; omega)).trans hbp7)) ((hkW _ (by have := HZ7.out; omega) (by have := hb6.size; omega)).trans ((hcell _ (by have := HZ7.out; omega)).trans hbq7))
      | 1, _ => exact fiSync_any hd vb (by omega)
    have hRn : R = noteM t n M := by rw [HR.out]; unfold noteK; rw [if_neg (by omega)]
    rw [hv4, ← hRn] at hDo
    have HD := Lib.hid hDo
    have HGR : Hid (Below w.heap.size w w8) := Lib.hid (HB5.out.trans (hb58.mono hsz))
    have HR7 : Hid (∀ W Ft', Gr Ft w8 Ft' W → R4 p q p q w8 W) := Lib.hid fun W Ft' hg k hk => hg.block k (by have := hb58.size; have := HP.out; have := HQ.out; have := HZ5.out; have := HP2.out; omega) (hnx k (by have := HP.out; have := HQ.out; have := HP2.out; omega))
    clear hDo hsz hvbs hvbl hw8 hb57 hb58 hd8 hcell hblk hent hv4 hnx hX hvs hb6 hb7 hbp7 hbq7 hv6
    refine ot_step rfl (fun K hK => ?_)
    go_simp
    refine HD.out.mono ?_
    rintro e w9 ha
    obtain ⟨rfl, Ft9, hg9, hd9⟩ := ha
    have HA : Hid (AppR w Ft d R (.returned (.int .i64 R.1)) w9) := Lib.hid ⟨rfl, Ft9, (Gr.of_below HGR.out).trans hg9, hd9⟩
    refine hK _ _ (.inr (HR7.out _ _ hg9)) ?_
    clear hK K hg9 hd9
    refine ot_free ?_
    simp only [atNats, List.filterMap_cons, List.filterMap_nil, List.getElem?_toArray, List.getElem?_cons_succ, List.getElem?_cons_zero]
    show wpQuiet _ _ _ _ [_] _
    try simp only [List.getElem_toArray, List.getElem_cons_succ, List.getElem_cons_zero, Act.put, List.setIfInBounds_toArray, List.set_cons_succ, List.set_cons_zero]
    repeat (go_big_quiet_step (fail))
    refine wpQuiet_nil ?_
    refine ot_end ?_
    go_wp2_with fail
    go_ret
    exact HA.out
end
end Go.Proofs.YtflkaladkbkbgaaGreat

/- Set, whatever file is there. -/
namespace Go.Proofs.YtflkaladkbkbgaaGreat
set_option linter.unusedVariables false
set_option linter.unusedSimpArgs false
open Go.RowKit Go.Maps
set_option maxRecDepth 100000
theorem ballot_eq (t n t0 n0 : Int) (W : World) : (binOp .eql 51 (.agg #[.int .i64 t, .int .i64 n]) (.agg #[.int .i64 t0, .int .i64 n0])).run Tryz.prog W = .ok (.bool (t == t0 && n == n0)) W := by
  rw [run_eql_struct, run_equalIn_struct W 9999 51 _ _ (by kernel_rfl) (by kernel_rfl)]
  obtain ⟨f0, f1, hf, h0, h1, o0, o1, n0', n1'⟩ : ∃ f0 f1 : Field, (Tryz.prog.fieldsOf 51).toList = [f0, f1] ∧ f0.type = 3 ∧ f1.type = 3 ∧ f0.offset = 0 ∧ f1.offset = 1 ∧ f0.name ≠ "_" ∧ f1.name ≠ "_" := ⟨_, _, rfl, rfl, rfl, rfl, rfl, by decide, by decide⟩
  rw [hf]
  simp only [Op.eqFields, if_pos n0', if_pos n1', h0, h1, o0, o1]
  have p0 : ∀ (a b : Int), (part 3 #[.int .i64 a, .int .i64 b] 0).run Tryz.prog W = .ok (.int .i64 a) W := fun a b => by kernel_rfl
  have p1 : ∀ (a b : Int), (part 3 #[.int .i64 a, .int .i64 b] 1).run Tryz.prog W = .ok (.int .i64 b) W := fun a b => by kernel_rfl
  have q : ∀ (a b : Int), (Op.equalIn 9999 3 (.int .i64 a) (.int .i64 b)).run Tryz.prog W = .ok (a == b) W := fun a b => run_equalIn_int W 9998 3 .i64 .i64 a b Tryz.underlying3
  simp only [Sem.run_bind, p0, p1, q, Result.andThen_ok]
  cases ha : (t == t0) <;> cases hb : (n == n0) <;> simp [Sem.run_bind, p0, p1, q, ha, hb]
section
variable {w : World} {Ft : Nat → Prop} {d : Nat} {M : DiskM}
set_option maxHeartbeats 4000000 in
theorem set_bad {v : Nat} {t0 n0 : Int} (hv : VAt w v d t0 n0) (t n : Int) (hm : mayB t n = false) :
    Calls Tryz.prog 11 #[.pointer (some ⟨v, 0, none⟩), .int .i64 t, .int .i64 n] w fun e w' => e = .returned (.int .i64 1) ∧ Below w.heap.size w w' := by
  obtain ⟨w1, hw1⟩ : ∃ W, W = w.alloc (.cells #[.int .i64 t, .int .i64 n] 51) := ⟨_, rfl⟩
  have hb1 : Below w.heap.size w w1 := by rw [hw1]; exact two_below w _
  have hbk1 : w1.heap[w.heap.size]? = some (.cells #[.int .i64 t, .int .i64 n] 51 (0, 0)) := by rw [hw1]; exact heap_alloc_new w _
  have hv1 : VAt w1 v d t0 n0 := (hb1.block v (Array.getElem?_eq_some_iff.1 hv).1).trans hv
  have y0 := Go.Joins.cell_of_block hbk1 0
  have y1 := Go.Joins.cell_of_block hbk1 1
  have HV1 := Lib.hid hv1
  have HB1 := Lib.hid hb1
  have HK1 := Lib.hid hbk1
  have HW1 := Lib.hid hw1
  have HM := Lib.hid hm
  clear hv hm hb1 hbk1 hv1 hw1 y0 y1
  go_enter Tryz.func11, Tryz.ntmps11
  go_wp2_with fail
  rw [← HW1.out]
  obtain ⟨p, hp⟩ : ∃ p, p = w.heap.size := ⟨_, rfl⟩
  have HP := Lib.hid hp
  rw [← hp]
  refine (vmade_any HV1.out).mono ?_
  rintro e w2 ⟨rfl, rfl⟩
  have y0 := Go.Joins.cell_of_block HK1.out 0
  have y1 := Go.Joins.cell_of_block HK1.out 1
  rw [← hp] at y0 y1
  clear hp
  go_wp2_with fail
  refine (may_any t n _).mono ?_
  rintro e w3 ⟨rfl, hb3⟩
  rw [HM.out]
  have HB3 := Lib.hid (HB1.out.trans (hb3.mono HB1.out.size))
  clear hb3 y0 y1
  go_wp2_with fail
  go_ret
  exact ⟨rfl, HB3.out⟩
/-- What Set leaves. -/
def SetR (w : World) (Ft : Nat → Prop) (d v : Nat) (r t n : Int) (M' : DiskM) (e : Ending) (w' : World) : Prop :=
  e = .returned (.int .i64 r) ∧ VAt w' v d t n ∧ ∃ Ft', ¬ Ft' v ∧ Gr (fun b => Ft b ∨ b = v) w (fun b => Ft' b ∨ b = v) w' ∧ DAt w' Ft' d M'
set_option maxHeartbeats 4000000 in
theorem set_core (h : DAt w Ft d M) (k : Nat) (hr : TrimK Ft d M k) {v : Nat} {t0 n0 : Int} (hv : VAt w v d t0 n0) (hvF : ¬ Ft v) (t n : Int) (hm : mayB t n = true) (hf : followB t n t0 n0 = true) (z : Bool) (hz : (t == t0 && n == n0) = z) (r : Int) (M' : DiskM) (hM' : z = false → noteK k t n M = (r, M')) (rr tt nn : Int) (MM : DiskM) (hz1 : z = true → rr = 0 ∧ tt = t ∧ nn = n ∧ MM = M) (hz2 : z = false → r = 0 → rr = 0 ∧ tt = t ∧ nn = n ∧ MM = M') (hz3 : z = false → r ≠ 0 → rr = r ∧ tt = t0 ∧ nn = n0 ∧ MM = M') :
    Calls Tryz.prog 11 #[.pointer (some ⟨v, 0, none⟩), .int .i64 t, .int .i64 n] w (SetR w Ft d v rr tt nn MM) := by
  have H := Lib.hid h
  have HRD := Lib.hid hr
  have HVF := Lib.hid hvF
  have HBE := Lib.hid (fun W => ballot_eq t n t0 n0 W)
  rw [hz] at HBE
  have HZ := Lib.hid hz
  have HZ1 := Lib.hid hz1
  have HZ2 := Lib.hid hz2
  have HZ3 := Lib.hid hz3
  have HMM := Lib.hid hM'
  clear h hr hvF hM' hz hz1 hz2 hz3
  obtain ⟨w1, hw1⟩ : ∃ W, W = w.alloc (.cells #[.int .i64 t, .int .i64 n] 51) := ⟨_, rfl⟩
  have hb1 : Below w.heap.size w w1 := by rw [hw1]; exact two_below w _
  have hbk1 : w1.heap[w.heap.size]? = some (.cells #[.int .i64 t, .int .i64 n] 51 (0, 0)) := by rw [hw1]; exact heap_alloc_new w _
  have hv1 : VAt w1 v d t0 n0 := (hb1.block v (Array.getElem?_eq_some_iff.1 hv).1).trans hv
  have y0 := Go.Joins.cell_of_block hbk1 0
  have y1 := Go.Joins.cell_of_block hbk1 1
  have HV1 := Lib.hid hv1
  have HV0 := Lib.hid hv
  have HVL : Hid (v < w.heap.size) := Lib.hid (Array.getElem?_eq_some_iff.1 hv).1
  have HB1 := Lib.hid hb1
  have HK1 := Lib.hid hbk1
  have HW1 := Lib.hid hw1
  have HM := Lib.hid hm
  have HF := Lib.hid hf
  clear hv hm hf hb1 hbk1 hv1 hw1 y0 y1
  go_enter Tryz.func11, Tryz.ntmps11
  go_wp2_with fail
  rw [← HW1.out]
  obtain ⟨p, hp⟩ : ∃ p, p = w.heap.size := ⟨_, rfl⟩
  have HP := Lib.hid hp
  rw [← hp]
  refine (vmade_any HV1.out).mono ?_
  rintro e w2 ⟨rfl, rfl⟩
  have y0 := Go.Joins.cell_of_block HK1.out 0
  have y1 := Go.Joins.cell_of_block HK1.out 1
  rw [← hp] at y0 y1
  clear hp
  go_wp2_with fail
  refine (may_any t n _).mono ?_
  rintro e w3 ⟨rfl, hb3⟩
  rw [HM.out]
  have hv3 : VAt w3 v d t0 n0 := (hb3.block v (Array.getElem?_eq_some_iff.1 HV1.out).1).trans HV1.out
  have hbk3 : w3.heap[p]? = some (.cells #[.int .i64 t, .int .i64 n] 51 (0, 0)) := by
    rw [HP.out]; exact (hb3.block _ (Array.getElem?_eq_some_iff.1 HK1.out).1).trans HK1.out
  have HB3 := Lib.hid (HB1.out.trans (hb3.mono HB1.out.size))
  have z0 : w3.drew.cell? ⟨p, 0, none⟩ = some (.int .i64 t) := Go.Joins.cell_of_block hbk3 0
  have z1 : w3.drew.cell? ⟨p, 1, none⟩ = some (.int .i64 n) := Go.Joins.cell_of_block hbk3 1
  have x1 : w3.drew.cell? ⟨v, 1, none⟩ = some (.int .i64 t0) := hv3.c1
  have x2 : w3.drew.cell? ⟨v, 2, none⟩ = some (.int .i64 n0) := hv3.c2
  have hvl : v < w3.drew.heap.size := (Array.getElem?_eq_some_iff.1 hv3).1
  have hpl : p < w3.drew.heap.size := (Array.getElem?_eq_some_iff.1 hbk3).1
  have q1 := cell_row (row := none) z0 (by simp)
  have q2 := cell_row (row := none) z1 (by simp)
  have q3 := cell_row (row := none) x1 (by simp)
  have q4 := cell_row (row := none) x2 (by simp)
  have HBK4 : Hid (w3.drew.heap[p]? = some (.cells #[.int .i64 t, .int .i64 n] 51 (0, 0))) := Lib.hid hbk3
  have HPL : Hid (p < w3.drew.heap.size) := Lib.hid hpl
  have HB4 : Hid (Below w.heap.size w w3.drew) := Lib.hid HB3.out.drew
  clear hb3 hv3 hbk3 y0 y1 HB3 z0 z1 x1 x2 hvl hpl
  go_wp2_with fail
  refine wp_region_OT (RowR none) (RowR.refl _) (RowR.trans _) [] (.pure [0, 1, 2, 3, 4] (.step 5 (.free [6, 7] (.tail [])))) (by kernel_rfl) (by kernel_rfl) (fun _ d _ _ _ h => by cases d <;> exact h) ?_
  generalize w3.drew = w4 at *
  refine ot_pure ?_
  simp only [atNats, List.filterMap_cons, List.filterMap_nil, List.getElem?_toArray, List.getElem?_cons_succ, List.getElem?_cons_zero]
  show wpQuiet _ _ _ _ [_, _, _, _, _] _
  try simp only [List.getElem_toArray, List.getElem_cons_succ, List.getElem_cons_zero, Act.put, List.setIfInBounds_toArray, List.set_cons_succ, List.set_cons_zero] at *
  repeat (go_big_quiet_step (fail))
  refine wpQuiet_nil ?_
  clear q1 q2 q3 q4
  refine ot_step rfl (fun K hK => ?_)
  go_simp
  refine (follow_any t n t0 n0 w4).mono ?_
  rintro e w5 ⟨rfl, hb5⟩
  rw [HF.out]
  refine hK _ _ (.inr ⟨hb5.os, hb5.tape, hb5.output, hb5.size, fun k hk _ => hb5.block k hk⟩) ?_
  clear hK K
  have HB45 := Lib.hid hb5
  have HB5 := Lib.hid (HB4.out.trans (hb5.mono HB4.out.size))
  clear hb5
  refine ot_free ?_
  simp only [atNats, List.filterMap_cons, List.filterMap_nil, List.getElem?_toArray, List.getElem?_cons_succ, List.getElem?_cons_zero]
  show wpQuiet _ _ _ _ [_, _] _
  try simp only [List.getElem_toArray, List.getElem_cons_succ, List.getElem_cons_zero, Act.put, List.setIfInBounds_toArray, List.set_cons_succ, List.set_cons_zero]
  repeat (go_big_quiet_step (fail))
  refine wpQuiet_nil ?_
  refine ot_end ?_
  have hv5 : VAt w5 v d t0 n0 := (HB5.out.block v HVL.out).trans HV0.out
  have hbk5 : w5.heap[p]? = some (.cells #[.int .i64 t, .int .i64 n] 51 (0, 0)) := (HB45.out.block p HPL.out).trans HBK4.out
  have z0 : w5.drew.cell? ⟨p, 0, none⟩ = some (.int .i64 t) := Go.Joins.cell_of_block hbk5 0
  have z1 : w5.drew.cell? ⟨p, 1, none⟩ = some (.int .i64 n) := Go.Joins.cell_of_block hbk5 1
  have x1 : w5.drew.cell? ⟨v, 1, none⟩ = some (.int .i64 t0) := hv5.c1
  have x2 : w5.drew.cell? ⟨v, 2, none⟩ = some (.int .i64 n0) := hv5.c2
  have q1 := cell_row (row := none) z0 (by simp)
  have q2 := cell_row (row := none) z1 (by simp)
  have q3 := cell_row (row := none) x1 (by simp)
  have q4 := cell_row (row := none) x2 (by simp)
  have HBK6 : Hid (w5.drew.heap[p]? = some (.cells #[.int .i64 t, .int .i64 n] 51 (0, 0))) := Lib.hid hbk5
  have HV6 : Hid (VAt w5.drew v d t0 n0) := Lib.hid hv5
  have HB6 : Hid (Below w.heap.size w w5.drew) := Lib.hid HB5.out.drew
  clear hv5 hbk5 z0 z1 x1 x2 HB5 HB45 HBK4 HPL
  go_wp2_with fail
  refine wp_region_OT (RowR none) (RowR.refl _) (RowR.trans _) [] (.pure [0, 1, 2, 3, 4, 5, 6] (.tail [])) (by kernel_rfl) (by kernel_rfl) (fun _ d _ _ _ h => by cases d <;> exact h) ?_
  generalize w5.drew = w6 at *
  refine ot_pure ?_
  simp only [atNats, List.filterMap_cons, List.filterMap_nil, List.getElem?_toArray, List.getElem?_cons_succ, List.getElem?_cons_zero]
  show wpQuiet _ _ _ _ [_, _, _, _, _, _, _] _
  try simp only [List.getElem_toArray, List.getElem_cons_succ, List.getElem_cons_zero, Act.put, List.setIfInBounds_toArray, List.set_cons_succ, List.set_cons_zero] at *
  repeat (go_big_quiet_step (fail))
  refine BigFrame.wpQuiet_want rfl fun K hK => ?_
  refine ⟨.bool z, fun u _ => ?_, hK _ ?_⟩
  · unfold Oper.quietAt
    rw [run_binop_val rfl (ballot_guard _ _ t n t0 n0 u) (HBE.out u)]
    exact ⟨rfl, rfl⟩
  clear hK K
  try simp only [List.getElem_toArray, List.getElem_cons_succ, List.getElem_cons_zero, Act.put, List.setIfInBounds_toArray, List.set_cons_succ, List.set_cons_zero]
  repeat (go_big_quiet_step (fail))
  refine wpQuiet_nil ?_
  clear q1 q2 q3 q4
  have z0 := Go.Joins.cell_of_block HBK6.out 0
  have z1 := Go.Joins.cell_of_block HBK6.out 1
  refine ot_end ?_
  cases z
  · have HMM2 := Lib.hid (HMM.out rfl)
    have HZ2b := Lib.hid (HZ2.out rfl)
    have HZ3b := Lib.hid (HZ3.out rfl)
    go_wp2_with fail
    have hmt : (0 ≤ t ∧ t ≤ 1099511627776) ∧ (-1 ≤ n ∧ n ≤ 63) := by have := HM.out; simp [mayB] at this; omega
    refine (note_any (H.out.below HB6.out) k HRD.out HV6.out t n hmt.1 hmt.2).mono ?_
    rintro e w7 ⟨rfl, Ft7, hg7, hd7⟩
    rw [HMM2.out] at hd7 ⊢
    have hs6 := HB6.out.size
    have hpl6 : p < w6.heap.size := (Array.getElem?_eq_some_iff.1 HBK6.out).1
    have hv7 : VAt w7 v d t0 n0 := (hg7.block v (by have := HVL.out; omega) HVF.out).trans HV6.out
    have hbk7 : w7.heap[p]? = some (.cells #[.int .i64 t, .int .i64 n] 51 (0, 0)) := (hg7.block p hpl6 (fun hf => by have := H.out.1 p hf; have := HP.out; omega)).trans HBK6.out
    have HV7 := Lib.hid hv7
    have HG7 := Lib.hid (And.intro hg7 hd7)
    by_cases hr0 : r = 0
    · subst hr0
      obtain ⟨z1, z2, z3, z4⟩ := HZ2b.out rfl; replace z1 := z1.symm; replace z2 := z2.symm; replace z3 := z3.symm; replace z4 := z4.symm; subst z1 z2 z3 z4
      have x1 := hv7.c1
      have x2 := hv7.c2
      have xf := fun i => Go.Joins.unfrozen_of_block hv7 i
      have z0 := Go.Joins.cell_of_block hbk7 0
      have z1 := Go.Joins.cell_of_block hbk7 1
      clear hg7 hd7 hv7 hbk7 hs6 hpl6 hmt
      go_wp2_with fail
      obtain ⟨hbox, hg8, hz8⟩ := two_set (i := 1) (j := 2) HV7.out (.int .i64 t) (.int .i64 n)
      obtain ⟨W8, hW8⟩ : ∃ W8, W8 = (w7.setCell ⟨v, 1, none⟩ (.int .i64 t)).setCell ⟨v, 2, none⟩ (.int .i64 n) := ⟨_, rfl⟩
      rw [← hW8] at hbox hg8 hz8
      obtain ⟨hg7, hd7⟩ := HG7.out
      have hs6 := HB6.out.size
      go_ret
      rw [← hW8]
      refine ⟨rfl, hbox, Ft7, fun hf => ?_, ⟨hg8.os.trans (hg7.os.trans HB6.out.os), hg8.tape.trans (hg7.tape.trans HB6.out.tape), hg8.output.trans (hg7.output.trans HB6.out.output), by have := hg7.size; omega, fun k hk hn => ?_, fun k hk => ?_⟩, hd7.keep (by omega) fun k hk => hg8.block k (hd7.1 k hk) (fun e => ?_)⟩
      · rcases hg7.ft v hf with h | h
        · exact HVF.out h
        · have := HVL.out; omega
      · exact (hg8.block k (by have := hg7.size; omega) (fun e => hn (.inr (by injection e)))).trans ((hg7.block k (by omega) (fun h => hn (.inl h))).trans (HB6.out.block k hk))
      · rcases hk with hk | rfl
        · rcases hg7.ft k hk with h | h
          · exact .inl (.inl h)
          · exact .inr (by omega)
        · exact .inl (.inr rfl)
      · injection e with e
        subst e
        rcases hg7.ft k hk with h | h
        · exact HVF.out h
        · have := HVL.out; omega
    · have HR0 := Lib.hid hr0
      obtain ⟨z1, z2, z3, z4⟩ := HZ3b.out hr0; replace z1 := z1.symm; replace z2 := z2.symm; replace z3 := z3.symm; replace z4 := z4.symm; subst z1 z2 z3 z4
      have d9 : (r == 0) = false := by simpa using hr0
      clear hg7 hd7 hv7 hbk7 hs6 hpl6 hmt
      have hset : SetR w Ft d v r t0 n0 M' (.returned (.int .i64 r)) w7 := by
        obtain ⟨hg7, hd7⟩ := HG7.out
        have hs6 := HB6.out.size
        refine ⟨rfl, HV7.out, Ft7, fun hf => ?_, ⟨hg7.os.trans HB6.out.os, hg7.tape.trans HB6.out.tape, hg7.output.trans HB6.out.output, by have := hg7.size; omega, fun k hk hn => ?_, fun k hk => ?_⟩, hd7⟩
        · rcases hg7.ft v hf with h | h
          · exact HVF.out h
          · have := HVL.out; omega
        · exact (hg7.block k (by omega) (fun h => hn (.inl h))).trans (HB6.out.block k hk)
        · rcases hk with hk | rfl
          · rcases hg7.ft k hk with h | h
            · exact .inl (.inl h)
            · exact .inr (by omega)
          · exact .inl (.inr rfl)
      have HSET := Lib.hid hset
      clear hset
      go_wp2_with fail
      go_ret
      exact HSET.out
  · obtain ⟨z1, z2, z3, z4⟩ := HZ1.out rfl; replace z1 := z1.symm; replace z2 := z2.symm; replace z3 := z3.symm; replace z4 := z4.symm; subst z1 z2 z3 z4
    go_wp2_with fail
    go_ret
    have e := HZ.out
    simp only [Bool.and_eq_true, beq_iff_eq] at e
    obtain ⟨rfl, rfl⟩ := e
    exact ⟨rfl, HV6.out, Ft, HVF.out, ⟨HB6.out.os, HB6.out.tape, HB6.out.output, HB6.out.size, fun k hk _ => HB6.out.block k hk, fun k hk => .inl hk⟩, H.out.below HB6.out⟩
end
end Go.Proofs.YtflkaladkbkbgaaGreat
