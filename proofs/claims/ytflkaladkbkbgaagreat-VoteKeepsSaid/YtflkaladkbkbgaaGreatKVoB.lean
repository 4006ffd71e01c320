/- Steps over a disk, one behind the other; a file made anew. -/
import Derived.Test.YtflkaladkbkbgaaGreatKVoA
import Derived.Test.YtflkaladkbkbgaaGreatKFrmI
namespace Go.Proofs.YtflkaladkbkbgaaGreat
set_option linter.unusedVariables false
set_option linter.unusedSimpArgs false
open Go.RowKit Go.Maps
set_option maxRecDepth 100000
/-- Steps over a disk, until one is refused. -/
def stepsM : List (DiskM → Int × DiskM) → DiskM → Int × DiskM
  | [], M => (0, M)
  | s :: r, M => if (s M).1 = 0 then stepsM r (s M).2 else s M
theorem do_disk (vs : List Stp) (ss : List (DiskM → Int × DiskM)) (hlen : ss.length = vs.length) (hn : vs.length ≤ 1000) (b c : Nat) (w : World) (Ft : Nat → Prop) (d : Nat) (M : DiskM) (h : DAt w Ft d M) (hb : ¬ Ft b)
    (hc : ∀ j (h : j < vs.length), w.cell? ⟨b, j, none⟩ = some vs[j].val) (hf : ∀ j (h : j < vs.length), EntersF vs[j].f)
    (hs : ∀ i (hi : i < vs.length) W Ft' M', Gr Ft w Ft' W → DAt W Ft' d M' → Calls Tryz.prog vs[i].f (vs[i].first ++ vs[i].caps) W (AppR W Ft' d ((ss[i]'(by omega)) M'))) :
    Calls Tryz.prog 17 #[.slice (some ⟨b, 0, none⟩) vs.length c] w (AppR w Ft d (stepsM ss M)) := by
  refine (do_any vs hn b c w (fun i W => ∃ Ft' M', Gr Ft w Ft' W ∧ DAt W Ft' d M' ∧ stepsM (ss.drop i) M' = stepsM ss M) (fun r W => r = (stepsM ss M).1 ∧ ∃ Ft', Gr Ft w Ft' W ∧ DAt W Ft' d (stepsM ss M).2) ⟨Ft, M, Gr.refl _ _, h, rfl⟩ ?_ hf ?_).mono ?_
  · rintro i W ⟨Ft', M', hg, -, -⟩ j hj
    exact hg.cell (hc j hj) hb
  · rintro i hi W ⟨Ft', M', hg, hd, he⟩
    refine (hs i hi W Ft' M' hg hd).mono ?_
    rintro e W' ⟨rfl, Ft2, hg2, hd2⟩
    have hdr : ss.drop i = (ss[i]'(by omega)) :: ss.drop (i + 1) := List.drop_eq_getElem_cons (by omega)
    rw [hdr, stepsM] at he
    refine ⟨_, rfl, ?_⟩
    by_cases h0 : ((ss[i]'(by omega)) M').1 = 0
    · rw [if_pos h0] at he
      exact .inl ⟨h0, Ft2, _, hg.trans hg2, hd2, he⟩
    · rw [if_neg h0] at he
      exact .inr ⟨h0, by rw [← he], Ft2, hg.trans hg2, by rw [← he]; exact hd2⟩
  · rintro e W' ⟨r, rfl, hr⟩
    rcases hr with ⟨rfl, Ft', M', hg, hd, he⟩ | ⟨h0, hr, Ft', hg, hd⟩
    · have hnil : ss.drop vs.length = [] := by rw [List.drop_eq_nil_iff]; omega
      rw [hnil, stepsM] at he
      exact ⟨by rw [← he], Ft', hg, by rw [← he]; exact hd⟩
    · exact ⟨by rw [hr], Ft', hg, hd⟩
def newNm (nm : List UInt8) : List UInt8 := nm ++ [46, 110, 101, 119]
def remZ (nm : List UInt8) (M : DiskM) : Int × DiskM := (if (M.rem nm).1 = 4 then 0 else (M.rem nm).1, (M.rem nm).2)
def repM (nm b : List UInt8) (M : DiskM) : Int × DiskM := stepsM [remZ (newNm nm), fun M => M.app (newNm nm) b, fun M => M.snc (newNm nm), fun M => M.ren (newNm nm) nm] M
section
variable {w : World} {Ft : Nat → Prop} {d : Nat} {M : DiskM}
set_option maxHeartbeats 4000000 in
theorem replace_any (h : DAt w Ft d M) (s : ByteArray) (hs : s.size ≤ 1000) (B : Nat) (vb : Value) (b : List UInt8) (hb : OwnB w B vb b) (hnf : ∀ k, vb.ownBlock = some k → ¬ Ft k) :
    Calls Tryz.prog 33 #[.agg #[.pointer (some ⟨d, 0, none⟩), .string s], vb] w (AppR w Ft d (repM s.data.toList b M)) := by
  obtain ⟨A, c, rfl⟩ := hb.rdY.shapeY
  obtain ⟨w1, hw1⟩ : ∃ W, W = w.alloc (.cells #[.pointer (some ⟨d, 0, none⟩), .string s] 57) := ⟨_, rfl⟩
  have hb1 : Below w.heap.size w w1 := by rw [hw1]; exact two_below w _
  have hbk1 : w1.heap[w.heap.size]? = some (.cells #[.pointer (some ⟨d, 0, none⟩), .string s] 57 (0, 0)) := by rw [hw1]; exact fv_blk w d s
  have y0 := Go.Joins.cell_of_block hbk1 0
  have y1 := Go.Joins.cell_of_block hbk1 1
  have hz1 : w1.heap.size = w.heap.size + 1 := by rw [hw1]; simp
  have HW1 := Lib.hid hw1
  have HB1 := Lib.hid hb1
  have HK1 := Lib.hid hbk1
  have HZ1 := Lib.hid hz1
  have H := Lib.hid h
  have HOB := Lib.hid hb
  have HNF := Lib.hid hnf
  obtain ⟨n, hn⟩ : ∃ n, n = b.length := ⟨_, rfl⟩
  rw [← hn] at HOB HNF ⊢
  obtain ⟨R, hR⟩ : ∃ R, R = repM s.data.toList b M := ⟨_, rfl⟩
  have HR := Lib.hid hR
  rw [← hR]
  have HC1 := Lib.hid (draft_any d s w1 hs)
  clear h hb hnf hR hn hw1 hb1 hbk1 hz1 y0 y1
  go_enter Tryz.func33, Tryz.ntmps33
  go_wp2_with fail
  rw [← HW1.out]
  refine HC1.out.mono ?_
  rintro e w2 ⟨rfl, hb2⟩
  have hbk2 := (hb2.block w.heap.size (by have := HZ1.out; omega)).trans HK1.out
  have y0 := Go.Joins.cell_of_block hbk2 0
  have y1 := Go.Joins.cell_of_block hbk2 1
  have HB2 := Lib.hid hb2
  have HK2 := Lib.hid hbk2
  unfold fv
  clear hb2 hbk2
  go_wp2_with fail
  obtain ⟨nw, hnw⟩ : ∃ nw, nw = s ++ (⟨#[46, 110, 101, 119]⟩ : ByteArray) := ⟨_, rfl⟩
  have HNW := Lib.hid hnw
  rw [← hnw]
  obtain ⟨w3, hw3⟩ : ∃ W, W = w2.alloc (.cells #[.pointer (some ⟨d, 0, none⟩), .string nw] 57) := ⟨_, rfl⟩
  have hb3 : Below w2.heap.size w2 w3 := by rw [hw3]; exact two_below w2 _
  have hz3 : w3.heap.size = w2.heap.size + 1 := by rw [hw3]; simp
  have hbk3 : w3.heap[w2.heap.size]? = some (.cells #[.pointer (some ⟨d, 0, none⟩), .string nw] 57 (0, 0)) := by rw [hw3]; exact fv_blk w2 d nw
  rw [← hw3]
  clear hw3 hnw y0 y1
  have hb03 : Below w.heap.size w w3.drew := ((HB1.out.trans ((HB2.out.mono HB1.out.size).trans (hb3.mono (by have := HB1.out.size; have := HB2.out.size; omega)))).drew)
  have hbk2 : w3.drew.heap[w.heap.size]? = some (.cells #[.pointer (some ⟨d, 0, none⟩), .string s] 57 (0, 0)) := (hb3.block w.heap.size (by have := HZ1.out; have := HB2.out.size; omega)).trans HK2.out
  have hbk3 : w3.drew.heap[w2.heap.size]? = some (.cells #[.pointer (some ⟨d, 0, none⟩), .string nw] 57 (0, 0)) := hbk3
  have hzz : w3.drew.heap.size = w2.heap.size + 1 := hz3
  have hw2z : w.heap.size < w2.heap.size := by have := HZ1.out; have := HB2.out.size; omega
  obtain ⟨p, hp⟩ : ∃ p, p = w.heap.size := ⟨_, rfl⟩
  obtain ⟨q, hq⟩ : ∃ q, q = w2.heap.size := ⟨_, rfl⟩
  have HP := Lib.hid hp
  have HQ := Lib.hid hq
  rw [← hp] at hbk2 ⊢
  rw [← hq] at hbk3 hzz ⊢
  have q1 := cell_r4 (a := p) (b := q) (c := p) (d := q) (Go.Joins.cell_of_block hbk2 0) (.inl rfl)
  have q2 := cell_r4 (a := p) (b := q) (c := p) (d := q) (Go.Joins.cell_of_block hbk2 1) (.inl rfl)
  have q3 := cell_r4 (a := p) (b := q) (c := p) (d := q) (Go.Joins.cell_of_block hbk3 0) (.inr (.inl rfl))
  have q4 := cell_r4 (a := p) (b := q) (c := p) (d := q) (Go.Joins.cell_of_block hbk3 1) (.inr (.inl rfl))
  clear hp hq
  have HB03 := Lib.hid hb03
  have HZZ := Lib.hid hzz
  have HW2Z := Lib.hid hw2z
  clear hb3 hz3 hbk2 hbk3 hb03 hzz hw2z HK2 HB2 HC1 HB1 HK1 HZ1
  refine wp_region_OT (R4 p q p q) (R4.refl _ _ _ _) (R4.trans _ _ _ _) [] (.pure [0, 2, 3, 5, 7, 8, 1, 6] (.step 4 (.step 9 (.step 10 (.step 11 (.free [12] (.tail []))))))) (by kernel_rfl) (by kernel_rfl) (fun _ d _ _ _ h => by cases d <;> exact h) ?_
  generalize w3.drew = w4 at *
  refine ot_pure ?_
  simp only [atNats, List.filterMap_cons, List.filterMap_nil, List.getElem?_toArray, List.getElem?_cons_succ, List.getElem?_cons_zero]
  show wpQuiet _ _ _ _ [_, _, _, _, _, _, _, _] _
  try simp only [List.getElem_toArray, List.getElem_cons_succ, List.getElem_cons_zero, Act.put, List.setIfInBounds_toArray, List.set_cons_succ, List.set_cons_zero] at *
  repeat (go_big_quiet_step (fail))
  refine wpQuiet_nil ?_
  clear q1 q2 q3 q4
  refine ot_step rfl (fun K hK => ?_)
  go_simp
  refine (fiPut_any d nw A n c w4).mono ?_
  rintro e w5 ⟨rfl, hw5⟩
  have hbp5 : w5.heap[w4.heap.size]? = some (.cells #[.pointer (some ⟨d, 0, none⟩), .string nw] 57 (0, 0)) := by
    rw [hw5]; exact ((two_below _ _).block _ (by simp)).trans (heap_alloc_new w4 _)
  have hbq5 : w5.heap[w4.heap.size + 1]? = some (.cells #[.slice A n c] 33 (0, 0)) := by
    rw [hw5]
    have h1 := heap_alloc_new (w4.alloc (.cells #[.pointer (some ⟨d, 0, none⟩), .string nw] 57)) (.cells #[.slice A n c] 33)
    simpa using h1
  have hz5 : w5.heap.size = w4.heap.size + 2 := by rw [hw5]; simp
  have hb5 : Below w4.heap.size w4 w5 := by rw [hw5]; exact ((Below.refl _ _).alloc (Nat.le_refl _) _).alloc (by simp) _
  have HZ5 := Lib.hid hz5
  clear hw5 hz5
  refine hK _ _ (.inr fun k hk => hb5.block k (by have := HP.out; have := HQ.out; have := HZZ.out; have := HW2Z.out; omega)) ?_
  clear hK K
  refine ot_step rfl (fun K hK => ?_)
  go_simp
  refine (fiBecomes_any d nw s w5).mono ?_
  rintro e w6 ⟨rfl, hw6⟩
  have hbp6 : w6.heap[w5.heap.size]? = some (.cells #[.pointer (some ⟨d, 0, none⟩), .string nw] 57 (0, 0)) := by
    rw [hw6]; exact ((two_below _ _).block _ (by simp)).trans (heap_alloc_new w5 _)
  have hbq6 : w6.heap[w5.heap.size + 1]? = some (.cells #[.pointer (some ⟨d, 0, none⟩), .string s] 57 (0, 0)) := by
    rw [hw6]
    have h1 := heap_alloc_new (w5.alloc (.cells #[.pointer (some ⟨d, 0, none⟩), .string nw] 57)) (.cells #[.pointer (some ⟨d, 0, none⟩), .string s] 57)
    simpa using h1
  have hz6 : w6.heap.size = w5.heap.size + 2 := by rw [hw6]; simp
  have hb6 : Below w5.heap.size w5 w6 := by rw [hw6]; exact ((Below.refl _ _).alloc (Nat.le_refl _) _).alloc (by simp) _
  have HZ6 := Lib.hid hz6
  clear hw6 hz6
  refine hK _ _ (.inr fun k hk => hb6.block k (by have := hb5.size; have := HP.out; have := HQ.out; have := HZZ.out; have := HW2Z.out; omega)) ?_
  clear hK K
  refine ot_step rfl (fun K hK => ?_)
  go_simp
  have hb46 : Below w4.heap.size w4 w6 := hb5.trans (hb6.mono hb5.size)
  have hb47 : ∀ X : Obj, Below w4.heap.size w4 (w6.alloc X) := fun X => hb46.trans ((two_below w6 X).mono hb46.size)
  have hd7 : ∀ X : Obj, DAt (w6.alloc X) Ft d M := fun X => (H.out.below HB03.out).below (hb47 X)
  have hcell : ∀ (X : Obj) k, k < w6.heap.size → (w6.alloc X).heap[k]? = w6.heap[k]? := fun X k hk => (two_below w6 X).block k hk
  have hbp5 := (hb6.block _ (show w4.heap.size < w5.heap.size by have := HZ5.out; omega)).trans hbp5
  have hbq5 := (hb6.block _ (show w4.heap.size + 1 < w5.heap.size by have := HZ5.out; omega)).trans hbq5
  obtain ⟨vs, hvs⟩ : ∃ vs : List Stp, vs = [⟨20, #[.agg #[.pointer (some ⟨d, 0, none⟩), .string nw]], #[]⟩, ⟨70, #[], #[.pointer (some ⟨w4.heap.size, 0, none⟩), .pointer (some ⟨w4.heap.size + 1, 0, none⟩)]⟩, ⟨45, #[.agg #[.pointer (some ⟨d, 0, none⟩), .string nw]], #[]⟩, ⟨77, #[], #[.pointer (some ⟨w5.heap.size, 0, none⟩), .pointer (some ⟨w5.heap.size + 1, 0, none⟩)]⟩] := ⟨_, rfl⟩
  obtain ⟨X, hX⟩ : ∃ X, X = Obj.cells (vs.map Stp.val).toArray 55 := ⟨_, rfl⟩
  rw [show (Obj.cells #[_, _, _, _] 55) = X by rw [hX, hvs]; rfl]
  have hblk : ∀ j (h : j < vs.length), (w6.alloc X).cell? ⟨w6.heap.size, j, none⟩ = some vs[j].val := fun j h => by
    have h1 := Go.Joins.cell_of_block (w := w6.alloc X) (g := w6.heap.size) (by rw [heap_alloc_new w6 X, hX]) j
    rw [h1]
    simp [h]
  have hnx : ∀ k, w.heap.size ≤ k → ¬ Ft k := fun k hk hf => by have := H.out.1 k hf; omega
  have hv4 : vs.length = 4 := by rw [hvs]; rfl
  have hent : ∀ j (h : j < vs.length), EntersF vs[j].f := by
    subst hvs
    intro j h
    match j, h with
    | 0, _ => exact enters_fiRemove
    | 1, _ => exact enters_fiPut1
    | 2, _ => exact enters_fiSync
    | 3, _ => exact enters_fiBecomes1
  refine hK _ _ (.inr fun k hk => (hcell X k (by have := hb46.size; have := HP.out; have := HQ.out; have := HZZ.out; have := HW2Z.out; omega))) ?_
  clear hK K
  have hsz : w.heap.size ≤ w4.heap.size := HB03.out.size
  have hnws : nw.size ≤ 1004 := by rw [HNW.out]; simp [ByteArray.size_append]; have : (⟨#[46, 110, 101, 119]⟩ : ByteArray).size = 4 := rfl; omega
  have hnwl : newNm s.data.toList = nw.data.toList := by rw [HNW.out]; simp [newNm]
  obtain ⟨w7, hw7⟩ : ∃ W, W = w6.alloc X := ⟨_, rfl⟩
  rw [← hw7] at hblk
  have hb47 := hb47 X
  have hd7 := hd7 X
  have hcell := hcell X
  rw [← hw7] at hb47 hd7 hcell ⊢
  have hDo : Calls Tryz.prog 17 #[.slice (some ⟨w6.heap.size, 0, none⟩) vs.length 4] w7 (AppR w7 Ft d (repM s.data.toList b M)) := by
    refine do_disk vs [remZ (newNm s.data.toList), fun M => M.app (newNm s.data.toList) b, fun M => M.snc (newNm s.data.toList), fun M => M.ren (newNm s.data.toList) s.data.toList] (by rw [hv4]; rfl) (by omega) _ _ w7 Ft d M hd7 (hnx _ (by have := hb46.size; omega)) hblk hent ?_
    rw [hnwl]
    subst hvs
    intro i hi W Ft' M' hg hd
    have hkW : ∀ k, k < w7.heap.size → w.heap.size ≤ k → W.heap[k]? = w7.heap[k]? := fun k h1 h2 => hg.block k h1 (hnx k h2)
    have hs67 : w6.heap.size < w7.heap.size := by rw [hw7]; simp
    match i, hi with
    | 0, _ => exact fiRemove_any hd nw (by omega)
    | 1, _ =>
      have hrd : Rd W W.heap.size (.slice A n c) b := (HOB.out.keepB (w' := W) fun k hk => by
        have h1 := HOB.out.ltk hk
        exact (hg.block k (by have := hb47.size; omega) (HNF.out k hk)).trans ((hb47.block k (by omega)).trans (HB03.out.block k h1))).rdY
      exact fiPut1_any hd nw (by omega) _ b hrd _ _ ((hkW _ (by have := HZ5.out; have := hb6.size; omega) hsz).trans ((hcell _ (by have := HZ5.out; have := hb6.size; omega)).trans hbp5)) ((hkW _ (by have := HZ5.out; have := hb6.size; omega) (by omega)).trans ((hcell _ (by have := HZ5.out; have := hb6.size; omega)).trans hbq5))
    | 2, _ => exact fiSync_any hd nw (by omega)
    | 3, _ => exact fiBecomes1_any hd nw s (by omega) (by omega) _ _ ((hkW _ (by have := HZ6.out; omega) (by have := hb5.size; omega)).trans ((hcell _ (by have := HZ6.out; omega)).trans hbp6)) ((hkW _ (by have := HZ6.out; omega) (by have := hb5.size; omega)).trans ((hcell _ (by have := HZ6.out; omega)).trans hbq6))
  rw [hv4, ← HR.out] at hDo
  have HD := Lib.hid hDo
  have HGR : Hid (Below w.heap.size w w7) := Lib.hid (HB03.out.trans (hb47.mono hsz))
  have HR7 : Hid (∀ W Ft', Gr Ft w7 Ft' W → R4 p q p q w7 W) := Lib.hid fun W Ft' hg k hk => hg.block k (by have := hb47.size; have := HP.out; have := HQ.out; have := HZZ.out; have := HW2Z.out; omega) (hnx k (by have := HP.out; have := HQ.out; have := HW2Z.out; omega))
  clear hDo hsz hnws hnwl hw7 hb47 hd7 hcell hblk hent hv4 hnx hX hvs hb46 hb5 hb6 hbp5 hbq5 hbp6 hbq6
  refine ot_step rfl (fun K hK => ?_)
  go_simp
  refine HD.out.mono ?_
  rintro e w8 ha
  obtain ⟨rfl, Ft8, hg8, hd8⟩ := ha
  have HA : Hid (AppR w Ft d R (.returned (.int .i64 R.1)) w8) := Lib.hid ⟨rfl, Ft8, (Gr.of_below HGR.out).trans hg8, hd8⟩
  refine hK _ _ (.inr (HR7.out _ _ hg8)) ?_
  clear hK K hg8 hd8
  refine ot_free ?_
  simp only [atNats, List.filterMap_cons, List.filterMap_nil, List.getElem?_toArray, List.getElem?_cons_succ, List.getElem?_cons_zero]
  show wpQuiet _ _ _ _ [_] _
  try simp only [List.getElem_toArray, List.getElem_cons_succ, List.getElem_cons_zero, Act.put, List.setIfInBounds_toArray, List.set_cons_succ, List.set_cons_zero]
  repeat (go_big_quiet_step (fail))
  refine wpQuiet_nil ?_
  refine ot_end ?_
  go_wp2_with fail
  go_ret
  exact HA.out
end
end Go.Proofs.YtflkaladkbkbgaaGreat

/- A snapshot put, and got. -/
namespace Go.Proofs.YtflkaladkbkbgaaGreat
set_option linter.unusedVariables false
set_option linter.unusedSimpArgs false
open Go.RowKit Go.Maps
set_option maxRecDepth 100000
theorem rd_nil (w : World) (B : Nat) : Rd w B (.slice none 0 0) [] := ⟨none, 0, rfl, Nat.le_refl _, ⟨by decide, fun _ => rfl⟩, fun h => absurd h (by simp)⟩
theorem scan_one (b : List UInt8) (hb : b.length ≤ 65536) : ScanR (frameF b) [b] (frameF b).length := by
  have h := next_frame b [] hb
  rw [List.append_nil] at h
  have hd : (frameF b).drop (frameLen b.length) = [] := List.drop_eq_nil_of_le (by rw [frameF_length]; exact Nat.le_refl _)
  have h2 : ScanR (frameF b) [b] (frameLen b.length + 0) := .step h (by rw [hd]; exact .stop next_nil)
  rw [frameF_length]
  exact h2
theorem frame_small (b : List UInt8) (hl : b.length ≤ 65536) : (frameF b).length ≤ 65600 := by
  rw [frameF_length]
  unfold frameLen
  have h := (grp_length b.length).1
  omega
def snapN : List UInt8 := [115, 110, 97, 112]
section
variable {w : World} {Ft : Nat → Prop} {d : Nat} {M : DiskM}
set_option maxHeartbeats 2000000 in
theorem save_any (h : DAt w Ft d M) (vb : Value) (b : List UInt8) (hrd : Rd w w.heap.size vb b) (hl : b.length ≤ 65536) :
    Calls Tryz.prog 15 #[.pointer (some ⟨d, 0, none⟩), vb] w (AppR w Ft d (repM snapN (frameF b) M)) := by
  obtain ⟨A, c, rfl⟩ := hrd.shapeY
  have HP := Lib.hid (fput_any (.slice none 0 0) _ [] b w (rd_nil _ _) hrd hl (by simp))
  obtain ⟨R, hR⟩ : ∃ R, R = repM snapN (frameF b) M := ⟨_, rfl⟩
  have HR := Lib.hid hR
  rw [← hR]
  have H := Lib.hid h
  obtain ⟨n, hn⟩ : ∃ n, n = b.length := ⟨_, rfl⟩
  rw [← hn] at HP ⊢
  clear h hrd hR hn
  go_enter Tryz.func15, Tryz.ntmps15
  go_wp2_with fail
  refine HP.out.mono ?_
  rintro e w1 ⟨v, rfl, hv, hb1⟩
  rw [List.nil_append] at hv
  obtain ⟨A1, c1, rfl⟩ := hv.rdY.shapeY
  have HC := Lib.hid (replace_any (H.out.below hb1) (⟨#[115, 110, 97, 112]⟩ : ByteArray) (by decide) _ _ _ hv (fun k hk hf => by
    have h1 := H.out.1 k hf
    have h2 := World.ownsRow.lt hv k hk
    omega))
  rw [show (⟨#[115, 110, 97, 112]⟩ : ByteArray).data.toList = snapN from rfl, ← HR.out] at HC
  obtain ⟨m, hm⟩ : ∃ m, m = (frameF b).length := ⟨_, rfl⟩
  rw [← hm] at HC ⊢
  have HB1 := Lib.hid hb1
  clear hv hb1 hm HP
  go_wp2_with fail
  refine HC.out.mono ?_
  rintro e w2 ha
  have HA := Lib.hid (ha.pre HB1.out)
  obtain ⟨rfl, -⟩ := ha
  go_wp2_with fail
  go_ret
  exact HA.out
/-- The snapshot's file stands whole. -/
theorem load_frame (h : DAt w Ft d M) (b : List UInt8) (hl : b.length ≤ 65536) (hr : M.read snapN = (frameF b, 0)) :
    Calls Tryz.prog 16 #[.pointer (some ⟨d, 0, none⟩)] w fun e w' => Below w.heap.size w w' ∧ ∃ v, e = .returned (.tuple #[v, .int .i64 0]) ∧ Rd w' w'.heap.size v b := by
  have HC := Lib.hid (read_any h (⟨#[115, 110, 97, 112]⟩ : ByteArray) (by decide))
  rw [show (⟨#[115, 110, 97, 112]⟩ : ByteArray).data.toList = snapN from rfl, hr] at HC
  clear h hr
  go_enter Tryz.func16, Tryz.ntmps16
  go_wp2_with fail
  refine HC.out.mono ?_
  rintro e w1 ⟨hb1, v1, rfl, hv1⟩
  have hr1 := hv1.rdY
  have HS := Lib.hid (fscan_any _ _ _ _ w1 hr1 (by have := frame_small b hl; omega) (scan_one b hl))
  obtain ⟨A1, c1, rfl⟩ := hr1.shapeY
  obtain ⟨m, hm⟩ : ∃ m, m = (frameF b).length := ⟨_, rfl⟩
  rw [← hm] at HS ⊢
  have HB1 := Lib.hid hb1
  clear hv1 hr1 hb1 HC hm
  go_wp2_with fail
  refine HS.out.mono ?_
  rintro e w4 ⟨v4, rfl, hv4, hb4⟩
  obtain ⟨A4, c4, rfl, -, -⟩ := hv4.shape
  have hat := hv4.at rfl
  obtain ⟨bb, off, rfl, hb, hcell⟩ := hat (by simp)
  obtain ⟨v5, c5, r5⟩ := hcell 0 (by simp)
  have c5 : w4.cell? ⟨bb, off, none⟩ = some v5 := c5
  have HR5 := Lib.hid r5
  obtain ⟨A5, d5, rfl⟩ := r5.shapeY
  have HB4 := Lib.hid (grow_trans HB1.out hb4)
  clear hv4 hb4 hat hcell r5 HS
  go_wp2_with fail
  go_ret2
  exact ⟨HB4.out, _, rfl, HR5.out⟩
theorem load_none (h : DAt w Ft d M) (hr : M.read snapN = ([], 4)) :
    Calls Tryz.prog 16 #[.pointer (some ⟨d, 0, none⟩)] w fun e w' => Below w.heap.size w w' ∧ e = .returned (.tuple #[.slice none 0 0, .int .i64 4]) := by
  have HC := Lib.hid (read_any h (⟨#[115, 110, 97, 112]⟩ : ByteArray) (by decide))
  rw [show (⟨#[115, 110, 97, 112]⟩ : ByteArray).data.toList = snapN from rfl, hr] at HC
  clear h hr
  go_enter Tryz.func16, Tryz.ntmps16
  go_wp2_with fail
  refine HC.out.mono ?_
  rintro e w1 ⟨hb1, v1, rfl, hv1⟩
  have HB1 := Lib.hid hb1
  clear hb1 hv1 HC
  go_wp2_with fail
  go_ret2
  exact ⟨HB1.out, rfl⟩
end
end Go.Proofs.YtflkaladkbkbgaaGreat
