/- The decoder's parts: the closure that reads an item. -/
import Derived.Test.YtpcdngpppjdgcaaGreatKRegR
import Derived.Test.YtpcdngpppjdgcaaGreatKCodS
import Derived.Test.YtpcdngpppjdgcaaGreatKRefT
namespace Go.Proofs.YtpcdngpppjdgcaaGreat
open Lib (hid)
set_option linter.unusedVariables false
set_option linter.unusedSimpArgs false
set_option maxRecDepth 100000
open Go.RowKit
set_option maxHeartbeats 8000000 in
set_option maxRecDepth 100000 in
theorem item1_any (d : Nat) (hok : ValOK d) (D g vb bb B : Nat) (k : Int) (least : Int) (st : Option (List UInt8)) (ts : List VT) (ns : List ByteArray) (VI VN : Value) (S : Nat → Prop) (w : World) (hpv : PV w B vb k ts ns VI VN S) (hpb : PB w bb D) (hd : Dec w D g least (8 - (d : Int))) (hs : SrcL w g st)
    (hDg : D ≠ g) (hbg : bb ≠ g) (hvg : vb ≠ g) (hlt : g < vb ∧ D < vb ∧ bb < vb) (hB : B ≤ w.heap.size) (hts : ts.length ≤ 100000) :
    Calls Tryz.prog 174 #[.pointer (some ⟨vb, 0, none⟩), .pointer (some ⟨bb, 0, none⟩)] w (ItemR d g vb B k least st ts ns w) := by
  obtain ⟨xs, hown, hitems⟩ := hpv.items
  obtain ⟨AI, cI, hVI⟩ : ∃ A c, VI = .slice A ts.length c := by
    rcases hown.2 with ⟨rfl, h0⟩ | ⟨q, cap, cur, rfl, _⟩
    · exact ⟨none, 0, by rw [h0]⟩
    · exact ⟨_, _, rfl⟩
  subst hVI
  have HPV := hid hpv
  have k3 : ∀ p : LaterR (KeepR vb bb) w.drew, p.u.cell? ⟨vb, 3, none⟩ = some (.slice AI ts.length cI) := fun p => (keep_cells.1 p 3).trans hpv.box.c3
  have kb : ∀ p : LaterR (KeepR vb bb) w.drew, p.u.cell? ⟨bb, 0, none⟩ = some (.pointer (some ⟨D, 0, none⟩)) := fun p => (keep_cells.2 p 0).trans (Go.Joins.cell_of_block hpb 0)
  have K3 := hid k3
  have KB := hid kb
  have hVb := hpv.vb
  go_enter Tryz.func174, Tryz.ntmps174
  refine wp_region_OT (KeepR vb bb) (KeepR.refl vb bb) (fun _ _ _ h k => h.trans k) [8, 10] (.pure [0, 1, 2, 4] (.fork 3 (.step 5 (.step 6 (.free [7, 9] (.fork 8 (.tail [10]) 10 (.tail [8]))))) 5 (.step 3 (.step 6 (.free [7, 9] (.fork 8 (.tail [10]) 10 (.tail [8]))))))) (by kernel_rfl) (by kernel_rfl) (fun _ d _ _ _ h => by cases d <;> exact h) ?_
  refine ot_pure ?_
  simp only [atR]
  show wpQuiet _ _ _ _ [_, _, _, _] _
  repeat (go_big_quiet_step (fail))
  refine wpQuiet_nil ?_
  refine ot_fork rfl rfl (fun K hK => ?_) (fun K hK => ?_)
  focus
    go_simp
    refine (hok D g least st w.drew hd (hs.of rfl) hDg).mono ?_
    rintro e w1 ⟨v, t, st', rfl, hs1, ho1, hv1, hrel⟩
    obtain ⟨T3, d3, T4, d4, rfl, -⟩ := hv1.shape
    have hvb : w1.heap[vb]? = w.heap[vb]? := ho1.block vb (Nat.lt_of_lt_of_le hVb hB) (by rintro ⟨⟩; exact hvg rfl)
    have hbb : w1.heap[bb]? = w.heap[bb]? := ho1.block bb hpb.lt (by rintro ⟨⟩; exact hbg rfl)
    refine hK _ _ (.inr ⟨hvb, hbb⟩) ?_
    clear hK K
    refine ot_step rfl (fun K hK => ?_)
    go_simp
    have hz1 : w.heap.size ≤ w1.heap.size := ho1.size
    have hvl : vb < w1.heap.size := by omega
    have hbl : bb < w1.heap.size := by omega
    refine hK _ _ (.inr ⟨Below.heap_alloc w1 _ vb hvl, Below.heap_alloc w1 _ bb hbl⟩) ?_
    clear hK K
    have hc1 := heap_alloc_new w1 (.cells #[.int .i64 0, .int .i64 0, .string ⟨#[]⟩, .slice none 0 0, .slice none 0 0] 25)
    have hc2 : ∀ b, b < w1.heap.size → (w1.alloc (.cells #[.int .i64 0, .int .i64 0, .string ⟨#[]⟩, .slice none 0 0, .slice none 0 0] 25)).heap[b]? = w1.heap[b]? := Below.heap_alloc w1 _
    have hc3 : (w1.alloc (.cells #[.int .i64 0, .int .i64 0, .string ⟨#[]⟩, .slice none 0 0, .slice none 0 0] 25)).heap.size = w1.heap.size + 1 := by simp
    have hc4 : (w1.alloc (.cells #[.int .i64 0, .int .i64 0, .string ⟨#[]⟩, .slice none 0 0, .slice none 0 0] 25)).os = w.os ∧ (w1.alloc (.cells #[.int .i64 0, .int .i64 0, .string ⟨#[]⟩, .slice none 0 0, .slice none 0 0] 25)).tape = w.tape ∧ (w1.alloc (.cells #[.int .i64 0, .int .i64 0, .string ⟨#[]⟩, .slice none 0 0, .slice none 0 0] 25)).output = w.output := ⟨ho1.os, ho1.tape, ho1.output⟩
    generalize w1.alloc (.cells #[.int .i64 0, .int .i64 0, .string ⟨#[]⟩, .slice none 0 0, .slice none 0 0] 25) = wc at hc1 hc2 hc3 hc4 ⊢
    have hzw : w.heap.size ≤ wc.heap.size := by omega
    have hfar : ∀ b, b < w.heap.size → b ≠ g → wc.heap[b]? = w.heap[b]? := fun b hb hbg => (hc2 b (by omega)).trans (ho1.block b hb (fun e => hbg (by cases e; rfl)))
    have hLV := (hv1.keep (w' := wc) fun b hb => hc2 b hb.2).imp (S' := NewB w.heap.size wc) fun b hb => ⟨hb.1, by have := hb.2; omega⟩
    have hsc : SrcL wc g st' := hs1.of (hc2 g (by omega))
    have hvc : wc.heap[vb]? = w.heap[vb]? := (hc2 vb hvl).trans hvb
    have hbc : wc.heap[bb]? = w.heap[bb]? := (hc2 bb hbl).trans hbb
    clear hc2 hc3 hvb hbb hvl hbl hz1 hv1 hs1
    generalize w1.heap.size = z at hc1 ⊢
    clear ho1 w1
  rotate_left
  focus
    go_simp
    have hz0 : (w.alloc (.cells #[.int .i64 0, .int .i64 0, .string ⟨#[]⟩, .slice none 0 0, .slice none 0 0] 25)).drew.heap.size = w.heap.size + 1 := by show (w.alloc _).heap.size = _; simp
    have hvl : vb < w.heap.size := by omega
    have hbl : bb < w.heap.size := by omega
    refine hK _ _ (.inr ⟨Below.heap_alloc w _ vb hvl, Below.heap_alloc w _ bb hbl⟩) ?_
    clear hK K
    have hc1 : ((w.alloc (.cells #[.int .i64 0, .int .i64 0, .string ⟨#[]⟩, .slice none 0 0, .slice none 0 0] 25)).drew).heap[w.heap.size]? = some (.cells #[.int .i64 0, .int .i64 0, .string ⟨#[]⟩, .slice none 0 0, .slice none 0 0] 25) := heap_alloc_new w (.cells #[.int .i64 0, .int .i64 0, .string ⟨#[]⟩, .slice none 0 0, .slice none 0 0] 25)
    have hc2 : ∀ b, b < w.heap.size → (w.alloc (.cells #[.int .i64 0, .int .i64 0, .string ⟨#[]⟩, .slice none 0 0, .slice none 0 0] 25)).drew.heap[b]? = w.heap[b]? := Below.heap_alloc w _
    have hc4 : (w.alloc (.cells #[.int .i64 0, .int .i64 0, .string ⟨#[]⟩, .slice none 0 0, .slice none 0 0] 25)).drew.os = w.os ∧ (w.alloc (.cells #[.int .i64 0, .int .i64 0, .string ⟨#[]⟩, .slice none 0 0, .slice none 0 0] 25)).drew.tape = w.tape ∧ (w.alloc (.cells #[.int .i64 0, .int .i64 0, .string ⟨#[]⟩, .slice none 0 0, .slice none 0 0] 25)).drew.output = w.output := ⟨rfl, rfl, rfl⟩
    generalize (w.alloc (.cells #[.int .i64 0, .int .i64 0, .string ⟨#[]⟩, .slice none 0 0, .slice none 0 0] 25)).drew = wa at hz0 hc1 hc2 hc4 ⊢
    have hgl : g < w.heap.size := by omega
    have hDl : D < w.heap.size := by omega
    have kb2 : wa.cell? ⟨bb, 0, none⟩ = some (.pointer (some ⟨D, 0, none⟩)) := (World.cell?_of_block (a := ⟨bb, 0, none⟩) (hc2 bb hbl)).trans (Go.Joins.cell_of_block hpb 0)
    refine ot_step rfl (fun K hK => ?_)
    go_simp
    refine (hok D g least st wa ((hc2 D hDl).trans hd) (hs.of (hc2 g hgl)) hDg).mono ?_
    rintro e wc ⟨v, t, st', rfl, hsc, ho1, hv1, hrel⟩
    obtain ⟨T3, d3, T4, d4, rfl, -⟩ := hv1.shape
    have hvb : wc.heap[vb]? = wa.heap[vb]? := ho1.block vb (by omega) (by rintro ⟨⟩; exact hvg rfl)
    have hbb : wc.heap[bb]? = wa.heap[bb]? := ho1.block bb (by omega) (by rintro ⟨⟩; exact hbg rfl)
    refine hK _ _ (.inr ⟨hvb, hbb⟩) ?_
    clear hK K
    have hzs : wa.heap.size ≤ wc.heap.size := ho1.size
    have hzw : w.heap.size ≤ wc.heap.size := by omega
    replace hc4 : wc.os = w.os ∧ wc.tape = w.tape ∧ wc.output = w.output := ⟨ho1.os.trans hc4.1, ho1.tape.trans hc4.2.1, ho1.output.trans hc4.2.2⟩
    have hfar : ∀ b, b < w.heap.size → b ≠ g → wc.heap[b]? = w.heap[b]? := fun b hb hbg => (ho1.block b (by omega) (fun e => hbg (by cases e; rfl))).trans (hc2 b hb)
    have hLV := hv1.imp (S' := NewB w.heap.size wc) fun b hb => ⟨by have := hb.1; omega, hb.2⟩
    have hvc : wc.heap[vb]? = w.heap[vb]? := hvb.trans (hc2 vb hvl)
    have hbc : wc.heap[bb]? = w.heap[bb]? := hbb.trans (hc2 bb hbl)
    replace hc1 := (ho1.block w.heap.size (by omega) (by rintro ⟨⟩; omega)).trans hc1
    clear hc2 hz0 hvb hbb hvl hbl hv1 hzs kb2 hgl hDl
    generalize w.heap.size = z at hc1 ⊢
    clear ho1 wa
  all_goals
    refine ot_act rfl rfl (fun K hK => ?_)
    obtain ⟨i0, hi, hi0, hi1, hi2⟩ := info_parts Tryz.infoVal
    have hAIlt : ∀ q, (Value.slice AI ts.length cI).ownBlock = some q → B ≤ q ∧ q < w.heap.size := fun q hq => World.ownsRow.lt hown q hq
    have hown1 := ownsRow_keep hown (w' := wc) fun q hq => hfar q (hAIlt q hq).2 (by have := (hAIlt q hq).1; omega)
    refine wp_append_moved _ _ _ 22 rfl B 25 i0 _ 5 80 Tryz.underlying22 hi hi0 hi1 hi2 rfl (by decide) _ ts.length xs rfl hown1 ⟨z, 0, none⟩ 1 1 [.int .i64 0, .int .i64 0, .string ⟨#[]⟩, .slice none 0 0, .slice none 0 0] rfl rfl ?_ ?_ (by unfold maxLen; omega) (by omega) (by omega) ?_
    · intro j u hj
      rw [add_at, Nat.zero_add]
      exact (Go.Joins.cell_of_block hc1 j).trans (by simpa using hj)
    · intro u hu
      simp only [List.mem_cons, List.not_mem_nil, or_false] at hu
      rcases hu with rfl | rfl | rfl | rfl | rfl <;> rfl
    intro v2 w2 hown2 hg2 hmv
    obtain ⟨p, cap, rfl, hpB⟩ : ∃ p cap, v2 = .slice (some ⟨p, 0, none⟩) (ts.length + 1) cap ∧ B ≤ p := by
      rcases hown2.2 with ⟨-, h0⟩ | ⟨p, cap, cur, h1, h2, -⟩
      · omega
      · exact ⟨p, cap, h1, h2⟩
    have hg2' : ∀ b, b < wc.heap.size → some b ≠ (Value.slice AI ts.length cI).ownBlock → w2.heap[b]? = wc.heap[b]? := fun b hb hne => hg2.block b hb hne
    have hpw : (Value.slice AI ts.length cI).ownBlock = some p ∨ wc.heap.size ≤ p := by
      rcases hmv with h | ⟨q, h1, h2⟩
      · exact .inl h.symm
      · simp only [Value.ownBlock, Option.some.injEq] at h2
        subst h2
        exact .inr h1
    have hwz : wc.heap.size ≤ w2.heap.size := hg2.size
    have hvno : ∀ b, b < B → some b ≠ (Value.slice AI ts.length cI).ownBlock := fun b hb he => by
      have := (hAIlt b he.symm).1
      omega
    have hvb2 : w2.heap[vb]? = wc.heap[vb]? := hg2' vb (by omega) (hvno vb hVb)
    have hbb2 : w2.heap[bb]? = wc.heap[bb]? := hg2' bb (by omega) (hvno bb (by omega))
    refine hK _ _ (.inr ⟨hvb2, hbb2⟩) ?_
    clear hK K
    have hvp : vb ≠ p := by omega
    have hend : ∀ w4 : World, (∀ b, b ≠ p → b ≠ vb → w4.heap[b]? = w2.heap[b]?) → w4.os = w2.os → w4.tape = w2.tape → w4.output = w2.output → w4.heap.size = w2.heap.size →
        w4.ownsRow B 25 5 (.slice (some ⟨p, 0, none⟩) (ts.length + 1) cap) (ts.length + 1) (xs ++ [.int .i64 t.kind, .int .i64 t.num, .string t.text, .slice T3 t.items.length d3, .slice T4 t.names.length d4]) →
        Box w4 vb (.int .i64 k) (.int .i64 0) (.string eS) (.slice (some ⟨p, 0, none⟩) (ts.length + 1) cap) VN → ItemR d g vb B k least st ts ns w (.returned (.tuple #[])) w4 := by
      intro w4 hf h1 h2 h3 h4 h5 h6
      refine item_end (xs := xs) HPV.out hown hitems hlt.1 (h1.trans (hg2.os.trans hc4.1)) (h2.trans (hg2.tape.trans hc4.2.1)) (h3.trans (hg2.output.trans hc4.2.2)) (by omega) ?_ ?_ h5 h6 ?_ ?_ hrel hB
      · intro b hb hbg hbv hbI
        have hbp : b ≠ p := by
          rintro rfl
          rcases hpw with h | h
          · exact hbI h.symm
          · omega
        rw [hf b hbp hbv, hg2' b (by omega) hbI]
        exact hfar b hb hbg
      · rcases hpw with h | h
        · exact .inl h
        · exact .inr (by omega)
      · have hnp : ∀ b, NewB w.heap.size wc b → b ≠ p := by
          rintro b ⟨hb1, hb2⟩ rfl
          rcases hpw with h | h
          · have := hAIlt b h
            omega
          · omega
        refine (hLV.keep (w' := w4) fun b hb => ?_).imp fun b hb => ⟨hb.1, ?_, hnp b hb⟩
        · have hb1 : w.heap.size ≤ b := hb.1
          rw [hf b (hnp b hb) (by omega), hg2' b hb.2 (fun e => by have := hAIlt b e.symm; omega)]
        · have := hb.2
          omega
      · refine hsc.of ?_
        rw [hf g (by omega) (by omega), hg2' g (by omega) (hvno g (by omega))]
    have HEND := hid hend
    have HOWN := hid hown2
    have HBX := hid (show Box w2 vb (.int .i64 k) (.int .i64 0) (.string eS) (.slice AI ts.length cI) VN from (hvb2.trans hvc).trans hpv.box)
    refine ot_free ?_
    simp only [atR]
    show wpQuiet _ _ _ _ [_, _] _
    simp only [acR, Act.put]
    have hlt1 : (ts.length : Int) < (ts.length : Int) + 1 := by omega
    have hxl : xs.length = ts.length * 5 := hown.1
    clear hend hown2 hown1 hg2' hvb2 hbb2 hg2 hmv K3 KB k3 kb hLV hsc hvc hbc hc1 hc4 hfar hpw hwz hzw hAIlt hvno hitems
    repeat (go_big_quiet_step (fail))
    refine wpQuiet_nil ?_
    refine ot_fork rfl rfl (fun K hK => ?_) (fun K hK => ?_)
    · have hcell := fun i (hi : i < (ts.length + 1) * 5) => World.ownsRow.cellAt HOWN.out i hi
      have q0 : w2.cell? ⟨p, ts.length * 5, none⟩ = some (.int .i64 0) := (hcell _ (by omega)).trans (by rw [← hxl, List.getElem?_append_right (Nat.le_refl _)]; simp)
      have q1 : w2.cell? ⟨p, ts.length * 5 + 1, none⟩ = some (.int .i64 0) := (hcell _ (by omega)).trans (by rw [← hxl, List.getElem?_append_right (by omega)]; simp)
      have q2 : w2.cell? ⟨p, ts.length * 5 + 2, none⟩ = some (.string ⟨#[]⟩) := (hcell _ (by omega)).trans (by rw [← hxl, List.getElem?_append_right (by omega)]; simp)
      have q3 : w2.cell? ⟨p, ts.length * 5 + 3, none⟩ = some (.slice none 0 0) := (hcell _ (by omega)).trans (by rw [← hxl, List.getElem?_append_right (by omega)]; simp)
      have q4 : w2.cell? ⟨p, ts.length * 5 + 4, none⟩ = some (.slice none 0 0) := (hcell _ (by omega)).trans (by rw [← hxl, List.getElem?_append_right (by omega)]; simp)
      have hfz := fun i => World.ownsRow.frozenAt HOWN.out i
      clear hcell
      go_simp
      refine hK _ (five w2 p (ts.length * 5) _ _ _ _ _) (.inl (by decide)) ?_
      have HO3 := hid (store_five (.int .i64 t.kind) (.int .i64 t.num) (.string t.text) (.slice T3 t.items.length d3) (.slice T4 t.names.length d4) HOWN.out hxl)
      have h30 := five_other w2 p (ts.length * 5) (.int .i64 t.kind) (.int .i64 t.num) (.string t.text) (.slice T3 t.items.length d3) (.slice T4 t.names.length d4)
      have h31 := five_size w2 p (ts.length * 5) (.int .i64 t.kind) (.int .i64 t.num) (.string t.text) (.slice T3 t.items.length d3) (.slice T4 t.names.length d4)
      have h32 : (five w2 p (ts.length * 5) (.int .i64 t.kind) (.int .i64 t.num) (.string t.text) (.slice T3 t.items.length d3) (.slice T4 t.names.length d4)).os = w2.os := rfl
      have h33 : (five w2 p (ts.length * 5) (.int .i64 t.kind) (.int .i64 t.num) (.string t.text) (.slice T3 t.items.length d3) (.slice T4 t.names.length d4)).tape = w2.tape := rfl
      have h34 : (five w2 p (ts.length * 5) (.int .i64 t.kind) (.int .i64 t.num) (.string t.text) (.slice T3 t.items.length d3) (.slice T4 t.names.length d4)).output = w2.output := rfl
      clear hK K q0 q1 q2 q3 q4 hfz
      change Hid (World.ownsRow (five w2 p (ts.length * 5) (.int .i64 t.kind) (.int .i64 t.num) (.string t.text) (.slice T3 t.items.length d3) (.slice T4 t.names.length d4)) _ _ _ _ _ _) at HO3
      generalize five w2 p (ts.length * 5) (.int .i64 t.kind) (.int .i64 t.num) (.string t.text) (.slice T3 t.items.length d3) (.slice T4 t.names.length d4) = w3 at HO3 h30 h31 h32 h33 h34 ⊢
      have HB3 := hid (show Box w3 vb (.int .i64 k) (.int .i64 0) (.string eS) (.slice AI ts.length cI) VN from (h30 vb hvp).trans HBX.out)
      have b3 := HB3.out.c3
      have f3 := HB3.out.free 3
      refine ot_last rfl (fun K hK => ?_)
      go_simp
      refine hK _ _ ?_
      clear hK K
      refine ot_end ?_
      go_end0
      exact HEND.out _ (fun b hb1 hb2 => (heap_setCell_other w3 ⟨vb, 3, none⟩ b _ hb2).trans (h30 b hb1)) h32 h33 h34 (by simp [h31]) (ownsRow_keep HO3.out fun q hq => heap_setCell_other w3 ⟨vb, 3, none⟩ q _ (by simp only [Value.ownBlock, Option.some.injEq] at hq; subst hq; exact fun e => hvp e.symm)) (HB3.out.set3 _)
    · have b3 := HBX.out.c3
      have f3 := HBX.out.free 3
      go_simp
      refine hK _ _ (.inl (by decide)) ?_
      clear hK K b3 f3
      have h30 : ∀ b, b ≠ vb → (w2.setCell ⟨vb, 3, none⟩ (.slice (some ⟨p, 0, none⟩) (ts.length + 1) cap)).heap[b]? = w2.heap[b]? := fun b hb => heap_setCell_other w2 ⟨vb, 3, none⟩ b _ hb
      have h31 : (w2.setCell ⟨vb, 3, none⟩ (.slice (some ⟨p, 0, none⟩) (ts.length + 1) cap)).heap.size = w2.heap.size := by simp
      have h32 : (w2.setCell ⟨vb, 3, none⟩ (.slice (some ⟨p, 0, none⟩) (ts.length + 1) cap)).os = w2.os := rfl
      have h33 : (w2.setCell ⟨vb, 3, none⟩ (.slice (some ⟨p, 0, none⟩) (ts.length + 1) cap)).tape = w2.tape := rfl
      have h34 : (w2.setCell ⟨vb, 3, none⟩ (.slice (some ⟨p, 0, none⟩) (ts.length + 1) cap)).output = w2.output := rfl
      have HB3 := hid (HBX.out.set3 (.slice (some ⟨p, 0, none⟩) (ts.length + 1) cap))
      generalize w2.setCell ⟨vb, 3, none⟩ (.slice (some ⟨p, 0, none⟩) (ts.length + 1) cap) = w3 at HB3 h30 h31 h32 h33 h34 ⊢
      have HO2 := hid (ownsRow_keep HOWN.out (w' := w3) fun q hq => h30 q (by simp only [Value.ownBlock, Option.some.injEq] at hq; subst hq; exact fun e => hvp e.symm))
      have hcell := fun i (hi : i < (ts.length + 1) * 5) => World.ownsRow.cellAt HO2.out i hi
      have q0 : w3.cell? ⟨p, ts.length * 5, none⟩ = some (.int .i64 0) := (hcell _ (by omega)).trans (by rw [← hxl, List.getElem?_append_right (Nat.le_refl _)]; simp)
      have q1 : w3.cell? ⟨p, ts.length * 5 + 1, none⟩ = some (.int .i64 0) := (hcell _ (by omega)).trans (by rw [← hxl, List.getElem?_append_right (by omega)]; simp)
      have q2 : w3.cell? ⟨p, ts.length * 5 + 2, none⟩ = some (.string ⟨#[]⟩) := (hcell _ (by omega)).trans (by rw [← hxl, List.getElem?_append_right (by omega)]; simp)
      have q3 : w3.cell? ⟨p, ts.length * 5 + 3, none⟩ = some (.slice none 0 0) := (hcell _ (by omega)).trans (by rw [← hxl, List.getElem?_append_right (by omega)]; simp)
      have q4 : w3.cell? ⟨p, ts.length * 5 + 4, none⟩ = some (.slice none 0 0) := (hcell _ (by omega)).trans (by rw [← hxl, List.getElem?_append_right (by omega)]; simp)
      have hfz := fun i => World.ownsRow.frozenAt HO2.out i
      clear hcell
      refine ot_last rfl (fun K hK => ?_)
      go_simp
      refine hK _ (five w3 p (ts.length * 5) _ _ _ _ _) ?_
      clear hK K q0 q1 q2 q3 q4 hfz
      refine ot_end ?_
      go_end0
      exact HEND.out (five w3 p (ts.length * 5) _ _ _ _ _) (fun b hb1 hb2 => (five_other w3 p _ _ _ _ _ _ b hb1).trans (h30 b hb2)) h32 h33 h34 ((five_size w3 p _ _ _ _ _ _).trans h31) (store_five (.int .i64 t.kind) (.int .i64 t.num) (.string t.text) (.slice T3 t.items.length d3) (.slice T4 t.names.length d4) HO2.out hxl) (show Box _ vb _ _ _ _ _ from (five_other w3 p _ _ _ _ _ _ vb hvp).trans HB3.out)
theorem rdByte_lt (st : Option (List UInt8)) : (rdByte st).1 < 256 := by
  rcases st with _ | _ | ⟨b, r⟩
  · simp [rdByte]
  · simp [rdByte]
  · exact UInt8.toNat_lt b
theorem rdInt_rng (st : Option (List UInt8)) : Rng (rdInt st).1 := by
  have h := rdN_lt 18446744073709551615 st
  unfold rdInt
  exact zag_rng _ h
theorem rdByte_split {st : Option (List UInt8)} {k : Nat} (h : (rdByte st).1 = k) (hk : k ≠ 0) : ∃ l, st = some l ∧ ∃ r, rdByte (some l) = (k, some r) := by
  rcases st with _ | _ | ⟨b, r⟩
  · exact absurd h (by simp only [rdByte]; omega)
  · exact absurd h (by simp only [rdByte]; omega)
  · exact ⟨_, rfl, r, by rw [← h]; rfl⟩
theorem rdW_two (d : Nat) {l r : List UInt8} (h : rdByte (some l) = (2, some r)) : rdW (d + 1) l = match rdByte (some r) with | (i, some r') => some (.mk 2 i eS [] [], r') | (_, none) => none := by
  unfold rdW; rw [h]; simp only; rfl
theorem rdW_three (d : Nat) {l r : List UInt8} (h : rdByte (some l) = (3, some r)) : rdW (d + 1) l = match rdInt (some r) with | (i, some r') => some (.mk 3 i eS [] [], r') | (_, none) => none := by
  unfold rdW; rw [h]; simp only; rfl
theorem rdW_text (d k : Nat) (hk : k = 4 ∨ k = 5) {l r : List UInt8} (h : rdByte (some l) = (k, some r)) : rdW (d + 1) l = match rdText 4096 (some r) with | (x, some r') => some (.mk k 0 (bsOf x) [] [], r') | (_, none) => none := by
  unfold rdW; rw [h]; simp only; rw [if_neg (by omega), if_neg (by omega), if_pos hk]; rfl
theorem rdW_items (d k : Nat) (hk : k = 6 ∨ k = 7) {l r : List UInt8} (h : rdByte (some l) = (k, some r)) : rdW (d + 1) l = match rdCount 4096 (some r) with
        | (_, none) => none
        | (n, some r') => match rdItems (rdW d) (decide (k = 7)) n r' with
          | none => none
          | some (ts, ns, r'') => some (.mk k 0 eS ts ns, r'') := by
  unfold rdW; rw [h]; simp only; rw [if_neg (by omega), if_neg (by omega), if_neg (by omega), if_pos hk]; rfl
theorem rdW_other (d k : Nat) (h2 : k ≠ 2) (h3 : k ≠ 3) (h4 : k ≠ 4) (h5 : k ≠ 5) (h6 : k ≠ 6) (h7 : k ≠ 7) {l r : List UInt8} (h : rdByte (some l) = (k, some r)) : rdW (d + 1) l = some (.mk k 0 eS [] [], r) := by
  unfold rdW; rw [h]; simp only; rw [if_neg h2, if_neg h3, if_neg (by omega), if_neg (by omega)]
theorem rel_two (d : Nat) (least : Int) {st : Option (List UInt8)} (h : (rdByte st).1 = 2) : Rel (d + 1) least st (.mk 2 (rdByte (rdByte st).2).1 eS [] []) (rdByte (rdByte st).2).2 := by
  obtain ⟨l, rfl, r, hr⟩ := rdByte_split h (by omega)
  have hw := rdW_two d hr
  rw [hr]
  obtain ⟨⟨i, s⟩, hp⟩ : ∃ p, p = rdByte (some r) := ⟨_, rfl⟩
  rw [← hp] at hw ⊢
  cases s with
  | none => intro l' u r' e hu; cases e; rw [hw] at hu; cases hu
  | some r' => exact ⟨l, rfl, hw⟩
theorem rel_three (d : Nat) (least : Int) {st : Option (List UInt8)} (h : (rdByte st).1 = 3) : Rel (d + 1) least st (.mk 3 (rdInt (rdByte st).2).1 eS [] []) (rdInt (rdByte st).2).2 := by
  obtain ⟨l, rfl, r, hr⟩ := rdByte_split h (by omega)
  have hw := rdW_three d hr
  rw [hr]
  obtain ⟨⟨i, s⟩, hp⟩ : ∃ p, p = rdInt (some r) := ⟨_, rfl⟩
  rw [← hp] at hw ⊢
  cases s with
  | none => intro l' u r' e hu; cases e; rw [hw] at hu; cases hu
  | some r' => exact ⟨l, rfl, hw⟩
theorem rel_text (d k : Nat) (hk : k = 4 ∨ k = 5) (least : Int) {st : Option (List UInt8)} (h : (rdByte st).1 = k) : Rel (d + 1) least st (.mk k 0 (bsOf (rdText 4096 (rdByte st).2).1) [] []) (rdText 4096 (rdByte st).2).2 := by
  obtain ⟨l, rfl, r, hr⟩ := rdByte_split h (by omega)
  have hw := rdW_text d k hk hr
  rw [hr]
  obtain ⟨⟨i, s⟩, hp⟩ : ∃ p, p = rdText 4096 (some r) := ⟨_, rfl⟩
  rw [← hp] at hw ⊢
  cases s with
  | none => intro l' u r' e hu; cases e; rw [hw] at hu; cases hu
  | some r' => exact ⟨l, rfl, hw⟩
theorem rel_other (d : Nat) (least : Int) {st : Option (List UInt8)} {k : Nat} (h : (rdByte st).1 = k) (h2 : k ≠ 2) (h3 : k ≠ 3) (h4 : k ≠ 4) (h5 : k ≠ 5) (h6 : k ≠ 6) (h7 : k ≠ 7) : Rel (d + 1) least st (.mk k 0 eS [] []) (rdByte st).2 := by
  rcases st with _ | l
  · intro l' u r' e; cases e
  · obtain ⟨⟨i, s⟩, hp⟩ : ∃ p, p = rdByte (some l) := ⟨_, rfl⟩
    rw [← hp] at h ⊢
    simp only at h
    subst h
    cases s with
    | none =>
      intro l' u r' e hu
      cases e
      unfold rdW at hu
      rw [← hp] at hu
      cases hu
    | some r => exact ⟨l, rfl, rdW_other d i h2 h3 h4 h5 h6 h7 hp.symm⟩
theorem mayT_items {k i : Int} {s : ByteArray} {l : List VT} {ns : List ByteArray} (h : mayL l = false) : mayT (.mk k i s l ns) = false := by
  rw [mayT_eq]; simp only [VT.items]; rw [h, Bool.and_false]
theorem rel_items (d k : Nat) (hk : k = 6 ∨ k = 7) (least : Int) {st st' : Option (List UInt8)} {ts : List VT} {ns : List ByteArray} (h : (rdByte st).1 = k)
    (hi : RelI (decide (k = 7)) d least (rdCount 4096 (rdByte st).2).1 (rdCount 4096 (rdByte st).2).2 ts ns st') : Rel (d + 1) least st (.mk k 0 eS ts ns) st' := by
  obtain ⟨l, rfl, r, hr⟩ := rdByte_split h (by omega)
  have hw := rdW_items d k hk hr
  rw [hr] at hi
  obtain ⟨⟨n, s⟩, hp⟩ : ∃ p, p = rdCount 4096 (some r) := ⟨_, rfl⟩
  simp only at hi
  rw [← hp] at hw hi
  cases st' with
  | none =>
    intro l' u r' e hu
    cases e
    rw [hw] at hu
    cases s with
    | none => cases hu
    | some r2 =>
      simp only at hu
      cases hq : rdItems (rdW d) (decide (k = 7)) n r2 with
      | none => rw [hq] at hu; cases hu
      | some p =>
        obtain ⟨us, ms, r3⟩ := p
        rw [hq] at hu
        simp only [Option.some.injEq, Prod.mk.injEq] at hu
        obtain ⟨rfl, rfl⟩ := hu
        rcases hi r2 us ms r3 rfl hq with h1 | h1
        · exact .inl (mayT_items h1)
        · exact .inr h1
  | some r' =>
    obtain ⟨l2, h1, h2⟩ := hi
    simp only at h1
    subst h1
    refine ⟨l, rfl, ?_⟩
    rw [hw]
    simp only
    rw [h2]
theorem lva_of_row {w : World} {B : Nat} {S : Nat → Prop} {v : Value} {ts : List VT} (h : RowV w B S v ts) (hS : ∀ b, S b → B ≤ b ∧ b < w.heap.size) : ∃ A c, v = .slice A ts.length c ∧ LVA w (New B w) A ts := by
  obtain ⟨xs, h1, h2⟩ := h
  rcases h1.2 with ⟨rfl, h3⟩ | ⟨g, cap, cur, rfl, hg, hh, r⟩
  · exact ⟨none, 0, by rw [h3], fun hp => absurd hp (by omega)⟩
  · refine ⟨_, _, rfl, fun hp => ⟨g, 0, rfl, ⟨hg, (Array.getElem?_eq_some_iff.1 hh).1⟩, LVs.intro fun j hj => ?_⟩⟩
    obtain ⟨c0, c1, c2, c3, c4, e, hx⟩ := h2 j hj
    have hc : ∀ i (u : Value), [c0, c1, c2, c3, c4][i]? = some u → w.cell? ⟨g, 0 + j * 5 + i, none⟩ = some u := by
      intro i u hu
      have h' : w.ownsRow B 25 5 (.slice (some ⟨g, 0, none⟩) ts.length cap) ts.length xs := h1
      have hi : i < 5 := by have := (List.getElem?_eq_some_iff.1 hu).1; simpa using this
      have := h'.cells (g := g) rfl (j * 5 + i) u (by
        rw [← e, List.getElem?_take, if_pos hi, List.getElem?_drop] at hu
        exact hu)
      rw [addr_at, Nat.zero_add] at this
      rw [Nat.zero_add]
      exact this
    exact ⟨c0, c1, c2, c3, c4, hc 0 c0 rfl, hc 1 c1 rfl, hc 2 c2 rfl, hc 3 c3 rfl, hc 4 c4 rfl, hx.imp hS⟩
end Go.Proofs.YtpcdngpppjdgcaaGreat
