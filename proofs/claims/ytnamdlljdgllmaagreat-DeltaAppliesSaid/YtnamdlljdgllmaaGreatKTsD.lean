/- What put does just behind an array's last item. -/
import Derived.Test.YtnamdlljdgllmaaGreatKTsB
import Derived.Test.YtnamdlljdgllmaaGreatKRegR
namespace Go.Proofs.YtnamdlljdgllmaaGreat
open Lib (hid)
set_option linter.unusedVariables false
set_option linter.unusedSimpArgs false
open Go.RowKit
set_option maxHeartbeats 8000000 in
set_option maxRecDepth 100000 in
theorem tput_arr (S F : Nat → Prop) (t u : VT) (g o : Nat) (P : Int) (hP : P < 0) (hk : t.kind = 6) (hsm : smallT t) (s : ByteArray) (r : List ByteArray) (hnx : nextT t s r = true) (R : Option Addr) (c : Nat) (w w1 : World) (B : Option Addr) (k : Nat) (B' : Option Addr) (k' : Nat) (h : OAt w F t g o) (hb1 : Below w.heap.size w w1)
    (hp : StrsAt w S R (s :: r)) (hrn : r.length + 1 ≤ 9223372036854775807) (hS : ∀ b, S b → b < w.heap.size)
    (hu : OV w1 (Iv w.heap.size w1.heap.size) u (.agg #[.int .i64 u.kind, .int .i64 u.num, .string u.text, .slice B u.items.length k, .slice B' u.names.length k'])) :
    Calls Tryz.prog 131 #[.agg #[.pointer (some ⟨g, o, none⟩), .int .i64 P, .slice R (r.length + 1) c], .agg #[.int .i64 u.kind, .int .i64 u.num, .string u.text, .slice B u.items.length k, .slice B' u.names.length k']] w1 (DidAt F g o w (0, addI t u)) := by
  have hneg : decide (0 ≤ P) = false := decide_eq_false (by omega)
  have hgl0 := h.lt
  have hFlt : ∀ b, F b → b < w.heap.size := by
    obtain ⟨_, _, _, _, _, _, _, _, _, _, _, _, _, _, hlt⟩ := h
    exact hlt
  have h1 := h.keep hb1
  have hgl := h1.lt
  obtain ⟨A1, c1, A1', c1', hat⟩ := h1.at
  have hc0 := hat.c0
  have hlens := hsm.lens
  have hz1 := hb1.size
  have hza : (w1.alloc (.cells #[.pointer (some ⟨g, o, none⟩), .int .i64 P, .slice R (r.length + 1) c] 131)).heap.size = w1.heap.size + 1 := by simp
  have hz0 : ((w1.alloc (.cells #[.pointer (some ⟨g, o, none⟩), .int .i64 P, .slice R (r.length + 1) c] 131)).alloc (.cells #[.int .i64 u.kind, .int .i64 u.num, .string u.text, .slice B u.items.length k, .slice B' u.names.length k'] 29)).heap.size = w1.heap.size + 2 := by simp
  have hb0 : Below w1.heap.size w1 ((w1.alloc (.cells #[.pointer (some ⟨g, o, none⟩), .int .i64 P, .slice R (r.length + 1) c] 131)).alloc (.cells #[.int .i64 u.kind, .int .i64 u.num, .string u.text, .slice B u.items.length k, .slice B' u.names.length k'] 29)) := (below_box _).alloc (by simp) _
  have hs : ((w1.alloc (.cells #[.pointer (some ⟨g, o, none⟩), .int .i64 P, .slice R (r.length + 1) c] 131)).alloc (.cells #[.int .i64 u.kind, .int .i64 u.num, .string u.text, .slice B u.items.length k, .slice B' u.names.length k'] 29)).heap[w1.heap.size]? = some (.cells #[.pointer (some ⟨g, o, none⟩), .int .i64 P, .slice R (r.length + 1) c] 131 (0, 0)) := (Below.heap_alloc (w1.alloc (.cells #[.pointer (some ⟨g, o, none⟩), .int .i64 P, .slice R (r.length + 1) c] 131)) _ w1.heap.size (by simp)).trans (heap_alloc_new w1 _)
  have hx : Box ((w1.alloc (.cells #[.pointer (some ⟨g, o, none⟩), .int .i64 P, .slice R (r.length + 1) c] 131)).alloc (.cells #[.int .i64 u.kind, .int .i64 u.num, .string u.text, .slice B u.items.length k, .slice B' u.names.length k'] 29)) (w1.heap.size + 1) (.int .i64 u.kind) (.int .i64 u.num) (.string u.text) (.slice B u.items.length k) (.slice B' u.names.length k') := by
    have := Box.new (w := (w1.alloc (.cells #[.pointer (some ⟨g, o, none⟩), .int .i64 P, .slice R (r.length + 1) c] 131))) (.int .i64 u.kind) (.int .i64 u.num) (.string u.text) (.slice B u.items.length k) (.slice B' u.names.length k')
    rw [hza] at this
    exact this
  have hp1 := hp.keep (w' := (w1.alloc (.cells #[.pointer (some ⟨g, o, none⟩), .int .i64 P, .slice R (r.length + 1) c] 131)).alloc (.cells #[.int .i64 u.kind, .int .i64 u.num, .string u.text, .slice B u.items.length k, .slice B' u.names.length k'] 29)) fun q hq => (hb0.block q (by have := hS q hq; omega)).trans (hb1.block q (hS q hq))
  have hat1 := hat.keep (w' := (w1.alloc (.cells #[.pointer (some ⟨g, o, none⟩), .int .i64 P, .slice R (r.length + 1) c] 131)).alloc (.cells #[.int .i64 u.kind, .int .i64 u.num, .string u.text, .slice B u.items.length k, .slice B' u.names.length k'] 29)) (hb0.block g hgl) (fun q hq => hb0.block q (by have := hFlt q hq; omega))
  have HN := hid (tnext_any F S t g o A1 c1 A1' c1' P R c s r _ hat1 (by omega) hp1 (fun q hq => by have := hS q hq; omega) hrn)
  have HH := hid h
  have HU := hid hu
  have HB1 := hid hb1
  have HB0 := hid hb0
  have HSP := hid hs
  have HXB := hid hx
  have HFL := hid (And.intro hS hFlt)
  have HQ := hid hnx
  obtain ⟨kk, hkk⟩ : ∃ kk, kk = t.kind := ⟨_, rfl⟩
  rw [← hkk] at hc0 hk
  subst hk
  have s0 := Go.Joins.cell_of_block hs 0
  have s1 := Go.Joins.cell_of_block hs 1
  have s2 := Go.Joins.cell_of_block hs 2
  clear h h1 hat hb0 hs hp1 hat1 hkk hp hu hb1 hx hS hFlt hnx
  go_enter Tryz.func131, Tryz.ntmps131
  go_wp2_with fail
  refine HN.out.mono ?_
  rintro e w2 ⟨rfl, hb2⟩
  have hbw2 : Below w.heap.size w w2 := HB1.out.trans ((toStart HB0.out hb2).mono hz1)
  have hst : ∀ w4 : World, Below w2.heap.size w2 w4 → OAt w4 F t g o ∧ Mut F g o w w4 ∧ w4.heap[w1.heap.size]? = some (.cells #[.pointer (some ⟨g, o, none⟩), .int .i64 P, .slice R (r.length + 1) c] 131 (0, 0)) ∧ Box w4 (w1.heap.size + 1) (.int .i64 u.kind) (.int .i64 u.num) (.string u.text) (.slice B u.items.length k) (.slice B' u.names.length k') ∧ OV w4 (Iv w.heap.size w1.heap.size) u (.agg #[.int .i64 u.kind, .int .i64 u.num, .string u.text, .slice B u.items.length k, .slice B' u.names.length k']) := by
    intro w4 hb4
    have hb24 := hbw2.trans (hb4.mono hbw2.size)
    have hb04 := hb2.trans (hb4.mono hb2.size)
    exact ⟨HH.out.keep hb24, Mut.below hb24 hgl0, (hb04.block _ (by omega)).trans HSP.out, (hb04.block _ (by omega)).trans HXB.out, HU.out.keep fun q hq => (hb04.block q (by have := hq.2; omega)).trans (HB0.out.block q hq.2)⟩
  have HST := hid hst
  have hz2 : w1.heap.size + 2 ≤ w2.heap.size := by have := hb2.size; omega
  have hq' := HQ.out
  rw [hq']
  clear hst hb2 hbw2 s0 s1 s2 HN HU HB0 HSP HXB HQ hq' HH
  go_wp2_with fail
  refine wp_region_OT Always (fun _ => trivial) (fun _ _ _ _ _ => trivial) [] (.step 0 (.fork 1 (.step 2 (.step 3 (.tail []))) 2 (.step 1 (.step 3 (.tail []))))) (by kernel_rfl) (by kernel_rfl) (fun _ d _ _ _ h => by cases d <;> exact h) ?_
  refine ot_step rfl (fun K hK => ?_)
  go_simp
  refine hK _ _ (.inr trivial) ?_
  clear hK K
  refine ot_fork rfl rfl (fun K hK => ?_) (fun K hK => ?_)
  rotate_left
  have _two : True := trivial
  rotate_right
  all_goals
    go_simp
    refine hK _ _ (.inr trivial) ?_
    clear hK K
    refine ot_step rfl (fun K hK => ?_)
    go_simp
    refine hK _ _ (.inr trivial) ?_
    clear hK K
    refine ot_step rfl (fun K hK => ?_)
    go_simp
    refine hK _ _ (.inr trivial) ?_
    clear hK K
    refine ot_end ?_
    first
      | have _g := _two
        have hb4 : Below w2.heap.size w2 (w2.drew.alloc (.cells #[.bool true] 4)) := ((Below.refl _ w2).drew).alloc (Nat.le_refl _) _
        have hz4 : (w2.drew.alloc (.cells #[.bool true] 4)).heap.size = w2.heap.size + 1 := by simp
        change Exit.then _ _ _ _ (w2.drew.alloc (.cells #[.bool true] 4))
        generalize w2.drew.alloc (.cells #[.bool true] 4) = w4 at *
      | have hb4 : Below w2.heap.size w2 (w2.drew.alloc (.cells #[.bool false] 4)) := ((Below.refl _ w2).drew).alloc (Nat.le_refl _) _
        have hz4 : (w2.drew.alloc (.cells #[.bool false] 4)).heap.size = w2.heap.size + 1 := by simp
        change Exit.then _ _ _ _ (w2.drew.alloc (.cells #[.bool false] 4))
        generalize w2.drew.alloc (.cells #[.bool false] 4) = w4 at *
    have hst4 := HST.out w4 hb4
    clear hb4 HST
    go_wp2_with fail
    have hat5 := hst4.1.keep (w' := w4.drew) ((Below.refl _ _).drew)
    have hm5 : Mut F g o w w4.drew := hst4.2.1
    have hu5 := hst4.2.2.2.2.keep (w := w4) (w' := w4.drew) fun _ _ => rfl
    have hs5 : w4.drew.heap[w1.heap.size]? = _ := hst4.2.2.1
    have hx5 : Box w4.drew (w1.heap.size + 1) _ _ _ _ _ := hst4.2.2.2.1
    have hz5 : w4.drew.heap.size = w2.heap.size + 1 := hz4
    clear hst4
    generalize hw5 : w4.drew = w5 at *
    obtain ⟨AV, cV, xs, hc3, hrowV, hAV, hnext⟩ := hat5.addItem
    have hgV : g ≠ blkOr AV w5.heap.size := by
      cases hA : AV with
      | none => show g ≠ w5.heap.size; omega
      | some a => exact fun e => (hAV a hA).2.2 e.symm
    have hspV : ∀ q, w.heap.size ≤ q → q < w1.heap.size + 2 → q ≠ blkOr AV w5.heap.size := by
      intro q hq1 hq2
      cases hA : AV with
      | none => show _ ≠ w5.heap.size; omega
      | some a => have := HFL.out.2 _ (hAV a hA).1; show _ ≠ a.block; omega
    have hGV1 : ∀ a, AV = some a → blkOr AV w5.heap.size = a.block := fun a h => blkOr_some a h
    generalize blkOr AV w5.heap.size = GV at *
    first
      | have _g := _two
        refine wp_region_OT (Keep2 GV GV) (Keep2.refl _ _) (Keep2.trans _ _) [11] (.pure [0, 1, 2, 3, 4, 5, 6] (.step 7 (.step 8 (.step 9 (.step 10 (.step 11 (.tail []))))))) (by kernel_rfl) (by kernel_rfl) (fun _ d _ _ _ h => by cases d <;> exact h) ?_
      | refine wp_region_OT (Keep2 GV GV) (Keep2.refl _ _) (Keep2.trans _ _) [12] (.pure [0, 1, 2, 3, 4, 5, 6, 7] (.step 8 (.step 9 (.step 10 (.step 11 (.step 12 (.tail []))))))) (by kernel_rfl) (by kernel_rfl) (fun _ d _ _ _ h => by cases d <;> exact h) ?_
    rw [hw5]
    clear hw5
    have s0 : ∀ p : LaterR (Keep2 GV GV) w5, p.u.cell? ⟨w1.heap.size, 0, none⟩ = some (.pointer (some ⟨g, o, none⟩)) := fun p => (World.cell?_of_block (a := ⟨w1.heap.size, 0, none⟩) (p.h.2 w1.heap.size (by omega) (hspV _ (by omega) (by omega)) (hspV _ (by omega) (by omega)))).trans (Go.Joins.cell_of_block hs5 0)
    have q3 : ∀ p : LaterR (Keep2 GV GV) w5, p.u.cell? ⟨g, o + 3, none⟩ = some (.slice AV t.items.length cV) := fun p => (World.cell?_of_block (a := ⟨g, o + 3, none⟩) (p.h.2 g (by omega) hgV hgV)).trans hc3
    have kx : ∀ (p : LaterR (Keep2 GV GV) w5) (i : Nat), p.u.cell? ⟨w1.heap.size + 1, i, none⟩ = w5.cell? ⟨w1.heap.size + 1, i, none⟩ := fun p i => World.cell?_of_block (a := ⟨w1.heap.size + 1, i, none⟩) (p.h.2 (w1.heap.size + 1) (by omega) (hspV _ (by omega) (by omega)) (hspV _ (by omega) (by omega)))
    have y0 := fun p : LaterR (Keep2 GV GV) w5 => (kx p 0).trans hx5.c0
    have y1 := fun p : LaterR (Keep2 GV GV) w5 => (kx p 1).trans hx5.c1
    have y2 := fun p : LaterR (Keep2 GV GV) w5 => (kx p 2).trans hx5.c2
    have y3 := fun p : LaterR (Keep2 GV GV) w5 => (kx p 3).trans hx5.c3
    have y4 := fun p : LaterR (Keep2 GV GV) w5 => (kx p 4).trans hx5.c4
    have HRV := hid hrowV
    have HAV := hid hAV
    have HNX := hid hnext
    have HC3 := hid hc3
    have HGV := hid (And.intro hGV1 (And.intro hgV hspV))
    have HOW := hid (And.intro hm5 hat5)
    have HUU := hid hu5
    clear hrowV hAV hnext hc3 hGV1 hgV hspV hm5 hat5 hu5 hs5 hx5 kx
    refine ot_pure ?_
    simp only [atR]
    first
      | have _g := _two
        show wpQuiet _ _ _ _ [_, _, _, _, _, _, _] _
      | show wpQuiet _ _ _ _ [_, _, _, _, _, _, _, _] _
    try simp only [acR, Act.put]
    repeat (go_big_quiet_step (fail))
    refine wpQuiet_nil ?_
    clear s0 q3 y0 y1 y2 y3 y4
    refine ot_step rfl (fun K hK => ?_)
    go_simp
    refine hK _ _ (.inr ⟨by simp, fun q hq _ _ => Below.heap_alloc _ _ _ hq⟩) ?_
    clear hK K
    first
      | have _g := _two
        have hc1 := heap_alloc_new w5 (.cells #[.int .i64 0, .int .i64 0, .string ⟨#[]⟩, .slice none 0 0, .slice none 0 0] 29)
        have hbc : Below w5.heap.size w5 (w5.alloc (.cells #[.int .i64 0, .int .i64 0, .string ⟨#[]⟩, .slice none 0 0, .slice none 0 0] 29)) := below_box _
        have hc3 : (w5.alloc (.cells #[.int .i64 0, .int .i64 0, .string ⟨#[]⟩, .slice none 0 0, .slice none 0 0] 29)).heap.size = w5.heap.size + 1 := by simp
        generalize w5.alloc (.cells #[.int .i64 0, .int .i64 0, .string ⟨#[]⟩, .slice none 0 0, .slice none 0 0] 29) = wc at *
      | have hc1 := heap_alloc_new w5 (.cells #[.int .i64 u.kind, .int .i64 u.num, .string u.text, .slice B u.items.length k, .slice B' u.names.length k'] 29)
        have hbc : Below w5.heap.size w5 (w5.alloc (.cells #[.int .i64 u.kind, .int .i64 u.num, .string u.text, .slice B u.items.length k, .slice B' u.names.length k'] 29)) := below_box _
        have hc3 : (w5.alloc (.cells #[.int .i64 u.kind, .int .i64 u.num, .string u.text, .slice B u.items.length k, .slice B' u.names.length k'] 29)).heap.size = w5.heap.size + 1 := by simp
        generalize w5.alloc (.cells #[.int .i64 u.kind, .int .i64 u.num, .string u.text, .slice B u.items.length k, .slice B' u.names.length k'] 29) = wc at *
    obtain ⟨z, hz⟩ : ∃ z, z = w5.heap.size := ⟨_, rfl⟩
    rw [← hz] at hc1
    have HZ := hid hz
    rw [hz5] at hz
    try rw [← hz]
    clear hz
    have hgl6 : g < w5.heap.size := by omega
    have hvc := HUU.out.keep (w' := wc) fun q hq => hbc.block q (by have := hq.2; omega)
    have HVC := hid (And.intro hvc hbc)
    have hown1 := row_keep (w' := wc) HRV.out fun a ha => hbc.block _ (HAV.out a ha).2.1
    have hzwc := hbc.size
    have hxl : xs.length = t.items.length * 5 := HRV.out.1
    refine ot_act rfl rfl (fun K hK => ?_)
    obtain ⟨i0, hi, hi0, hi1, hi2⟩ := info_parts Tryz.infoVal
    first
      | have _g := _two
        refine wp_append_moved _ _ _ 27 rfl 0 29 i0 _ 5 80 Tryz.underlying27 hi hi0 hi1 hi2 rfl (by decide) (.slice AV t.items.length cV) t.items.length xs rfl hown1 ⟨z, 0, none⟩ 1 1 [.int .i64 0, .int .i64 0, .string ⟨#[]⟩, .slice none 0 0, .slice none 0 0] rfl rfl ?_ ?_ (by unfold maxLen; omega) (by omega) (by omega) ?_
      | refine wp_append_moved _ _ _ 27 rfl 0 29 i0 _ 5 80 Tryz.underlying27 hi hi0 hi1 hi2 rfl (by decide) (.slice AV t.items.length cV) t.items.length xs rfl hown1 ⟨z, 0, none⟩ 1 1 [.int .i64 u.kind, .int .i64 u.num, .string u.text, .slice B u.items.length k, .slice B' u.names.length k'] rfl rfl ?_ ?_ (by unfold maxLen; omega) (by omega) (by omega) ?_
    · intro j x hj
      rw [add_at, Nat.zero_add]
      exact (Go.Joins.cell_of_block hc1 j).trans (by simpa using hj)
    · intro x hx
      simp only [List.mem_cons, List.not_mem_nil, or_false] at hx
      rcases hx with rfl | rfl | rfl | rfl | rfl <;> rfl
    intro v2 w7 hown2 hg2 hmv
    obtain ⟨p2, cap2, rfl⟩ : ∃ p cap, v2 = .slice (some ⟨p, 0, none⟩) (t.items.length + 1) cap := by
      rcases hown2.2 with ⟨-, h0⟩ | ⟨p, cap, cur, h1, h2, -⟩
      · omega
      · exact ⟨p, cap, h1⟩
    have hpw : AV = some ⟨p2, 0, none⟩ ∨ wc.heap.size ≤ p2 := by
      rcases hmv with h | ⟨q, h1, h2⟩
      · left
        cases hA : AV with
        | none => rw [hA] at h; simp [Value.ownBlock] at h
        | some a =>
          rw [hA] at h
          simp only [Value.ownBlock, Option.some.injEq] at h
          rw [row_at HRV.out a hA, ← h]
      · right
        simp only [Value.ownBlock, Option.some.injEq] at h2
        omega
    have hoN : ∀ q, q < wc.heap.size → (∀ a, AV = some a → a.block ≠ q) → w7.heap[q]? = wc.heap[q]? := fun q hq hne => hg2.block q (by omega) (fun e => by
      cases hA : AV with
      | none => rw [hA] at e; simp [Value.ownBlock] at e
      | some a => rw [hA] at e; simp only [Value.ownBlock, Option.some.injEq] at e; exact hne a hA e.symm)
    have hz7 : wc.heap.size ≤ w7.heap.size := hg2.size
    refine hK _ _ (.inr ⟨hg2.size, fun q hq hne _ => hg2.block q hq (fun e => by
      cases hA : AV with
      | none => rw [hA] at e; simp [Value.ownBlock] at e
      | some a => rw [hA] at e; simp only [Value.ownBlock, Option.some.injEq] at e; exact hne (e.trans (HGV.out.1 a hA).symm))⟩) ?_
    clear hK K
    simp only [acR, Act.put]
    have hw7 : w7.os = w5.os ∧ w7.tape = w5.tape ∧ w7.output = w5.output := ⟨hg2.os.trans hbc.os, hg2.tape.trans hbc.tape, hg2.output.trans hbc.output⟩
    obtain ⟨Cg, tyg, hCg⟩ : ∃ C ty, w5.heap[g]? = some (.cells C ty (0, 0)) := by
      obtain ⟨C, ty, _, _, _, _, hg, _⟩ := HOW.out.2
      exact ⟨C, ty, hg⟩
    have hgk := (hoN g (by omega) (fun a ha => (HAV.out a ha).2.2)).trans (hbc.block g (by omega))
    have hg2' := hgk.trans hCg
    have hd3 : w7.cell? ⟨g, o + 3, none⟩ = some (.slice AV t.items.length cV) := (World.cell?_of_block (a := ⟨g, o + 3, none⟩) hgk).trans HC3.out
    have hf3 := Go.Joins.unfrozen_of_block hg2' (o + 3)
    have HW7 := hid (And.intro hown2 (And.intro hpw (And.intro hoN hw7)))
    have HCG := hid (And.intro hCg hg2')
    clear hc1 hown1 hown2 hg2 hmv hoN hw7 hCg hg2' hgk hbc hvc
    refine ot_step rfl (fun K hK => ?_)
    go_simp
    refine hK _ _ (.inr (Keep2.refl _ _ _)) ?_
    clear hK K
    refine ot_step rfl (fun K hK => ?_)
    go_simp
    refine hK _ _ (.inr (Keep2.refl _ _ _)) ?_
    clear hK K
    refine ot_step rfl (fun K hK => ?_)
    go_simp
    refine hK _ _ (.inl (by decide)) ?_
    clear hK K hd3 hf3
    refine ot_end ?_
    have hpg : p2 ≠ g := by
      rcases hpw with h | h
      · exact (HAV.out _ h).2.2
      · omega
    have hgW : (w7.setCell ⟨g, o + 3, none⟩ (.slice (some ⟨p2, 0, none⟩) (t.items.length + 1) cap2)).heap[g]? = some (.cells (Cg.setIfInBounds (o + 3) (.slice (some ⟨p2, 0, none⟩) (t.items.length + 1) cap2)) tyg (0, 0)) := Go.Joins.block_setCell (i := o + 3) HCG.out.2 _
    have hoW : ∀ q, q ≠ g → (w7.setCell ⟨g, o + 3, none⟩ (.slice (some ⟨p2, 0, none⟩) (t.items.length + 1) cap2)).heap[q]? = w7.heap[q]? := fun q hq => heap_setCell_other _ ⟨g, o + 3, none⟩ q _ hq
    have hzW : (w7.setCell ⟨g, o + 3, none⟩ (.slice (some ⟨p2, 0, none⟩) (t.items.length + 1) cap2)).heap.size = w7.heap.size := by simp
    have hrW : (w7.setCell ⟨g, o + 3, none⟩ (.slice (some ⟨p2, 0, none⟩) (t.items.length + 1) cap2)).os = w7.os ∧ (w7.setCell ⟨g, o + 3, none⟩ (.slice (some ⟨p2, 0, none⟩) (t.items.length + 1) cap2)).tape = w7.tape ∧ (w7.setCell ⟨g, o + 3, none⟩ (.slice (some ⟨p2, 0, none⟩) (t.items.length + 1) cap2)).output = w7.output := ⟨rfl, rfl, rfl⟩
    generalize w7.setCell ⟨g, o + 3, none⟩ (.slice (some ⟨p2, 0, none⟩) (t.items.length + 1) cap2) = w8 at *
    have hown8 := row_keep (w' := w8) HW7.out.1 fun a ha => by cases ha; exact hoW p2 hpg
    first
      | have _g := _two
        have hcell := fun i (hi : i < (t.items.length + 1) * 5) => World.ownsRow.cellAt hown8 i hi
        have q0 : w8.cell? ⟨p2, t.items.length * 5, none⟩ = some (.int .i64 0) := (hcell _ (by omega)).trans (by rw [← hxl, List.getElem?_append_right (Nat.le_refl _)]; simp)
        have q1 : w8.cell? ⟨p2, t.items.length * 5 + 1, none⟩ = some (.int .i64 0) := (hcell _ (by omega)).trans (by rw [← hxl, List.getElem?_append_right (by omega)]; simp)
        have q2 : w8.cell? ⟨p2, t.items.length * 5 + 2, none⟩ = some (.string ⟨#[]⟩) := (hcell _ (by omega)).trans (by rw [← hxl, List.getElem?_append_right (by omega)]; simp)
        have q3 : w8.cell? ⟨p2, t.items.length * 5 + 3, none⟩ = some (.slice none 0 0) := (hcell _ (by omega)).trans (by rw [← hxl, List.getElem?_append_right (by omega)]; simp)
        have q4 : w8.cell? ⟨p2, t.items.length * 5 + 4, none⟩ = some (.slice none 0 0) := (hcell _ (by omega)).trans (by rw [← hxl, List.getElem?_append_right (by omega)]; simp)
        have hfz := fun i => World.ownsRow.frozenAt hown8 i
        have h9o := five_other w8 p2 (t.items.length * 5) (.int .i64 u.kind) (.int .i64 u.num) (.string u.text) (.slice B u.items.length k) (.slice B' u.names.length k')
        have h9z := five_size w8 p2 (t.items.length * 5) (.int .i64 u.kind) (.int .i64 u.num) (.string u.text) (.slice B u.items.length k) (.slice B' u.names.length k')
        have h9r := five_rest w8 p2 (t.items.length * 5) (.int .i64 u.kind) (.int .i64 u.num) (.string u.text) (.slice B u.items.length k) (.slice B' u.names.length k')
        have h9row := store5row (.int .i64 u.kind) (.int .i64 u.num) (.string u.text) (.slice B u.items.length k) (.slice B' u.names.length k') hown8 hxl
        obtain ⟨W9, hW9⟩ : ∃ W, five w8 p2 (t.items.length * 5) (.int .i64 u.kind) (.int .i64 u.num) (.string u.text) (.slice B u.items.length k) (.slice B' u.names.length k') = W := ⟨_, rfl⟩
        rw [hW9] at h9o h9z h9r h9row
      | obtain ⟨W9, hW9⟩ : ∃ W, w8 = W := ⟨_, rfl⟩
        have h9o : ∀ q, q ≠ p2 → W9.heap[q]? = w8.heap[q]? := fun _ _ => by rw [hW9]
        have h9z : W9.heap.size = w8.heap.size := by rw [hW9]
        have h9r : W9.os = w8.os ∧ W9.tape = w8.tape ∧ W9.output = w8.output := by rw [hW9]; exact ⟨rfl, rfl, rfl⟩
        have h9row := hown8
        rw [hW9] at h9row
    have hfin : DidAt F g o w (0, addI t u) (.returned (.int .i64 0)) W9 := by
      obtain ⟨hown2, -, hoN, e1', e2', e3'⟩ := HW7.out
      obtain ⟨hvc, hbc⟩ := HVC.out
      obtain ⟨hm5, hat5⟩ := HOW.out
      have hnF4 : ∀ q, Iv w.heap.size w1.heap.size q → ¬ F q ∧ q ≠ g ∧ w.heap.size ≤ q := fun q hq => ⟨fun e => by have := HFL.out.2 q e; have := hq.1; omega, by have := hq.1; omega, hq.1⟩
      have hnA : ∀ q, Iv w.heap.size w1.heap.size q → ∀ a, AV = some a → a.block ≠ q := fun q hq a ha e => (hnF4 q hq).1 (e ▸ (HAV.out a ha).1)
      have hpv : ∀ q, Iv w.heap.size w1.heap.size q → q ≠ p2 := by
        intro q hq e
        rcases hpw with h | h
        · exact hnA q hq _ h e.symm
        · have := hq.2; omega
      obtain ⟨F6, k1, k2, k3⟩ := HNX.out w.heap.size W9 p2 cap2 u _ _ _ _ _ (Iv w.heap.size w1.heap.size) (by omega) (by omega) (fun C ty hC => by
          have e := HCG.out.1.symm.trans hC
          injection e with e
          injection e with e1 e2
          subst e1 e2
          exact (h9o g hpg.symm).trans hgW) h9row (hpw.imp id fun h => by omega) (fun q hq hqg hqa => (h9o q (fun e => by
            rcases hpw with h | h
            · exact hqa _ h e.symm
            · omega)).trans ((hoW q hqg).trans ((hoN q (by omega) hqa).trans (hbc.block q hq))))
          (hvc.keep fun q hq => (h9o q (hpv q hq)).trans ((hoW q (hnF4 q hq).2.1).trans (hoN q (by have := hq.2; omega) (hnA q hq))))
          (fun q hq => ⟨(hnF4 q hq).2.2, by have := hq.2; omega, hpv q hq, (hnF4 q hq).1, (hnF4 q hq).2.1⟩) (by omega) (h9r.1.trans (hrW.1.trans e1')) (h9r.2.1.trans (hrW.2.1.trans e2')) (h9r.2.2.trans (hrW.2.2.trans e3'))
      exact ⟨rfl, F6, k1, k2, hm5.trans (fun _ => .inl) k3⟩
    have HFIN := hid hfin
    clear hfin hgW hoW hzW hrW hown8 h9o h9z h9r h9row
    subst hW9
    have hlt1 : (t.items.length : Int) < (t.items.length : Int) + 1 := by omega
    clear HW7 HCG HVC HNX HOW HGV HAV HRV HC3
    go_wp2_with fail
    go_ret
    exact HFIN.out
theorem enters_setc : Enters 130 := fun _ _ => by simp [callFunc, go_sem, Tryz.func130, Tryz.f130]
def setFin (x : VT) (t : VT) : List ByteArray → Int × VT
  | [] => (0, t)
  | s :: r => if 0 ≤ placeT t s then (0, setT t (placeT t s).toNat x) else if t.kind = 7 then (0, addI (addN t s) (nestT r x)) else if t.kind = 6 ∧ nextT t s r = true then (0, addI t x) else (40, t)
theorem setFin_cons (x t : VT) (s : ByteArray) (r : List ByteArray) : setFin x t (s :: r) = if 0 ≤ placeT t s then ((0 : Int), setT t (placeT t s).toNat x) else if t.kind = 7 then ((0 : Int), addI (addN t s) (nestT r x)) else if t.kind = 6 ∧ nextT t s r = true then ((0 : Int), addI t x) else ((40 : Int), t) := rfl
theorem tput_any (S F : Nat → Prop) (t u : VT) (g o : Nat) (A : Option Addr) (c : Nat) (s : ByteArray) (r : List ByteArray) (w w1 : World) (B : Option Addr) (k : Nat) (B' : Option Addr) (k' : Nat) (h : OAt w F t g o) (hm : mayT t = true) (hsm : smallT t) (hb1 : Below w.heap.size w w1)
    (hp : StrsAt w S A (s :: r)) (hn : r.length + 1 ≤ c) (h63 : c ≤ 9223372036854775807) (hrn : r.length + 1 ≤ 9223372036854775807) (hS : ∀ b, S b → b < w.heap.size) (hSF : ∀ b, S b → ¬ F b ∧ b ≠ g) (hend : placeT t s < 0 ∨ r = [])
    (hu : OV w1 (Iv w.heap.size w1.heap.size) u (.agg #[.int .i64 u.kind, .int .i64 u.num, .string u.text, .slice B u.items.length k, .slice B' u.names.length k'])) :
    Calls Tryz.prog 131 #[.agg #[.pointer (some ⟨g, o, none⟩), .int .i64 (placeT t s), .slice A (r.length + 1) c], .agg #[.int .i64 u.kind, .int .i64 u.num, .string u.text, .slice B u.items.length k, .slice B' u.names.length k']] w1 (DidAt F g o w (setFin u t (s :: r))) := by
  have hge := placeT_ge t s
  rw [setFin_cons]
  by_cases h0 : 0 ≤ placeT t s
  · rw [if_pos h0]
    have hj := placeT_lt (may_nl hm) h0
    have := tput_item F t u g o (placeT t s).toNat hj (.slice A (r.length + 1) c) w w1 B k B' k' h hb1 hu
    rw [show (((placeT t s).toNat : Nat) : Int) = placeT t s by omega] at this
    exact this
  rw [if_neg h0]
  by_cases h7 : t.kind = 7
  · rw [if_pos h7]
    exact tput_doc S F t u g o _ (by omega) h7 hsm A c s r w w1 B k B' k' h hb1 hp hn h63 hrn hS hSF hu
  rw [if_neg h7]
  by_cases h6 : t.kind = 6 ∧ nextT t s r = true
  · rw [if_pos h6]
    exact tput_arr S F t u g o _ (by omega) h6.1 hsm s r h6.2 A c w w1 B k B' k' h hb1 hp hrn hS hu
  · rw [if_neg h6]
    exact tput_err S F t _ g o _ (by omega) s r h7 (fun e => by
      cases hx : nextT t s r with
      | false => rfl
      | true => exact absurd ⟨e, hx⟩ h6) A c w w1 B k B' k' u h hb1 hp hrn hS rfl
set_option maxHeartbeats 4000000 in
set_option maxRecDepth 100000 in
theorem setc_any (S Sx : Nat → Prop) (x : VT) (X : Option Addr) (kx : Nat) (X' : Option Addr) (kx' : Nat) (bx : Nat) (t : VT) (g o : Nat) (A : Option Addr) (c : Nat) (s : ByteArray) (r : List ByteArray) (F : Nat → Prop) (w : World) (h : OAt w F t g o) (hm : mayT t = true) (hsm : smallT t)
    (hp : StrsAt w S A (s :: r)) (hn : r.length + 1 ≤ c) (h63 : c ≤ 9223372036854775807) (hrn : r.length + 1 ≤ 9223372036854775807) (hS : ∀ b, S b → b < w.heap.size) (hSF : ∀ b, S b → ¬ F b ∧ b ≠ g) (hend : placeT t s < 0 ∨ r = [])
    (hSx : ∀ b, Sx b → b < w.heap.size) (hx : LV w Sx x (.agg #[.int .i64 x.kind, .int .i64 x.num, .string x.text, .slice X x.items.length kx, .slice X' x.names.length kx'])) (hbx : Box w bx (.int .i64 x.kind) (.int .i64 x.num) (.string x.text) (.slice X x.items.length kx) (.slice X' x.names.length kx')) :
    Calls Tryz.prog 130 #[.agg #[.pointer (some ⟨g, o, none⟩), .int .i64 (placeT t s), .slice A (r.length + 1) c], .pointer (some ⟨bx, 0, none⟩)] w (DidAt F g o w (setFin x t (s :: r))) := by
  obtain ⟨P, hP⟩ : ∃ P, P = placeT t s := ⟨_, rfl⟩
  have hgl := h.lt
  have hbl := hbx.lt
  have hz0 : (w.alloc (.cells #[.pointer (some ⟨g, o, none⟩), .int .i64 P, .slice A (r.length + 1) c] 131)).drew.heap.size = w.heap.size + 1 := by simp
  have hb0 : Below w.heap.size w (w.alloc (.cells #[.pointer (some ⟨g, o, none⟩), .int .i64 P, .slice A (r.length + 1) c] 131)).drew := (below_box _).drew
  have hs : (w.alloc (.cells #[.pointer (some ⟨g, o, none⟩), .int .i64 P, .slice A (r.length + 1) c] 131)).drew.heap[w.heap.size]? = some (.cells #[.pointer (some ⟨g, o, none⟩), .int .i64 P, .slice A (r.length + 1) c] 131 (0, 0)) := heap_alloc_new w _
  have hput : ∀ (w0 w1 : World) (B : Option Addr) (k : Nat) (B' : Option Addr) (k' : Nat), Below w.heap.size w w0 → Below w0.heap.size w0 w1 → OV w1 (Iv w0.heap.size w1.heap.size) x (.agg #[.int .i64 x.kind, .int .i64 x.num, .string x.text, .slice B x.items.length k, .slice B' x.names.length k']) →
      Calls Tryz.prog 131 #[.agg #[.pointer (some ⟨g, o, none⟩), .int .i64 P, .slice A (r.length + 1) c], .agg #[.int .i64 x.kind, .int .i64 x.num, .string x.text, .slice B x.items.length k, .slice B' x.names.length k']] w1 (DidAt F g o w (setFin x t (s :: r))) := by
    intro w0 w1 B k B' k' hbw hb1 hu
    rw [hP]
    refine (tput_any S F t x g o A c s r w0 w1 B k B' k' (h.keep hbw) hm hsm hb1 (hp.keep fun b hb => hbw.block b (hS b hb)) hn h63 hrn (fun b hb => Nat.lt_of_lt_of_le (hS b hb) hbw.size) hSF hend hu).mono ?_
    exact fun e w' hd => hd.from hbw hgl
  have HPUT := hid hput
  have HB0 := hid hb0
  have HXV := hid (And.intro hSx (And.intro hx hbx))
  have HS := hid hs
  rw [← hP]
  generalize setFin x t (s :: r) = res at *
  clear hput hb0 hx hbx hs hSx h hp hS hSF hend hP
  go_enter Tryz.func130, Tryz.ntmps130
  go_wp2_with fail
  refine wp_region_OT (Keep2 (w.heap.size + 5) (w.heap.size + 5)) (Keep2.refl _ _) (Keep2.trans _ _) [3, 4] (.pure [0] (.step 1 (.step 2 (.step 3 (.step 4 (.tail [])))))) (by kernel_rfl) (by kernel_rfl) (fun _ d _ _ _ h => by cases d <;> exact h) ?_
  generalize (w.alloc (.cells #[.pointer (some ⟨g, o, none⟩), .int .i64 P, .slice A (r.length + 1) c] 131)).drew = w0 at *
  have kf : ∀ (p : LaterR (Keep2 (w.heap.size + 5) (w.heap.size + 5)) w0) (i : Nat), p.u.cell? ⟨w.heap.size, i, none⟩ = w0.cell? ⟨w.heap.size, i, none⟩ := fun p i => World.cell?_of_block (a := ⟨w.heap.size, i, none⟩) (p.h.2 w.heap.size (by omega) (by omega) (by omega))
  have s0 := fun p : LaterR (Keep2 (w.heap.size + 5) (w.heap.size + 5)) w0 => (kf p 0).trans (Go.Joins.cell_of_block HS.out 0)
  have s1 := fun p : LaterR (Keep2 (w.heap.size + 5) (w.heap.size + 5)) w0 => (kf p 1).trans (Go.Joins.cell_of_block HS.out 1)
  have s2 := fun p : LaterR (Keep2 (w.heap.size + 5) (w.heap.size + 5)) w0 => (kf p 2).trans (Go.Joins.cell_of_block HS.out 2)
  clear kf
  refine ot_pure ?_
  simp only [atR]
  show wpQuiet _ _ _ _ [_] _
  try simp only [acR, Act.put]
  repeat (go_big_quiet_step (fail))
  refine wpQuiet_nil ?_
  clear s0 s1 s2
  have hbx0 := HXV.out.2.2.below HB0.out hbl
  have y0 := hbx0.c0
  have y1 := hbx0.c1
  have y2 := hbx0.c2
  have y3 := hbx0.c3
  have y4 := hbx0.c4
  clear hbx0
  refine ot_step rfl (fun K hK => ?_)
  go_simp
  refine hK _ _ (.inr (Keep2.refl _ _ _)) ?_
  clear hK K y0 y1 y2 y3 y4
  refine ot_step rfl (fun K hK => ?_)
  go_simp
  refine (clone_own Sx x _ w0 (fun b hb => by have := HXV.out.1 b hb; omega) (HXV.out.2.1.keep fun b hb => HB0.out.block b (HXV.out.1 b hb))).mono ?_
  rintro e w1 ⟨v', rfl, hov, hb1⟩
  obtain ⟨B, k, B', k', ys, rfl, -⟩ := hov.shape
  refine hK _ _ (.inr (Keep2.of hb1)) ?_
  clear hK K
  have HC := hid (HPUT.out w0 w1 B k B' k' HB0.out hb1 hov)
  clear hov hb1 HPUT
  refine ot_step rfl (fun K hK => ?_)
  go_simp
  refine HC.out.mono ?_
  rintro e w2 hd
  have he := hd.1
  subst he
  refine hK _ _ (.inl (by decide)) ?_
  have HD := hid hd
  clear hK K hd HC
  refine ot_step rfl (fun K hK => ?_)
  go_simp
  refine hK _ _ (.inl (by decide)) ?_
  clear hK K
  refine ot_end ?_
  go_wp2_with fail
  go_ret
  exact HD.out
set_option maxHeartbeats 4000000 in
set_option maxRecDepth 100000 in
theorem tset_any (S : Nat → Prop) (t : VT) (v : Value) (A : Option Addr) (c : Nat) (p : List ByteArray) (x : VT) (vx : Value) (w : World) (hS : ∀ b, S b → b < w.heap.size) (h : LV w S t v) (hd : depthT t ≤ 4611686018427387903) (hsm : smallT t) (hp : StrsAt w S A p) (hn : p.length ≤ 140737488351232) (hpc : p.length ≤ c) (h63 : c ≤ 9223372036854775807)
    (hx : LV w S x vx) (hdx : depthT x ≤ 4611686018427387903) :
    Calls Tryz.prog 93 #[v, .slice A p.length c, vx] w (ChangeR (if mayT x = true then changeT (setFin x) t p else (20, nilT)) w) := by
  obtain ⟨A0, c0, A0', c0', rfl, -, -, -, v1, hb0⟩ := one_var hS h
  obtain ⟨X, kx, X', kx', rfl, -⟩ := hx.shape
  obtain ⟨RES, hRES⟩ : ∃ R, R = if mayT x = true then changeT (setFin x) t p else (20, nilT) := ⟨_, rfl⟩
  rw [← hRES]
  have HRES := hid hRES
  clear hRES
  have HX := hid v1.x
  have HB := hid hb0
  have HV := hid h
  have HP := hid hp
  have HD := hid hd
  have HXV := hid hx
  clear h v1 hb0 hd hp hx
  go_enter Tryz.func93, Tryz.ntmps93
  go_wp2_with fail
  generalize hE1 : w.alloc (.cells #[.int .i64 t.kind, .int .i64 t.num, .string t.text, .slice A0 t.items.length c0, .slice A0' t.names.length c0'] 29) = W1 at *
  have hz1 : W1.heap.size = w.heap.size + 1 := by rw [← hE1]; simp
  have hz2 : (W1.alloc (.cells #[.int .i64 x.kind, .int .i64 x.num, .string x.text, .slice X x.items.length kx, .slice X' x.names.length kx'] 29)).heap.size = w.heap.size + 2 := by simp [hz1]
  have hz3 : ((W1.alloc (.cells #[.int .i64 x.kind, .int .i64 x.num, .string x.text, .slice X x.items.length kx, .slice X' x.names.length kx'] 29)).alloc (.cells #[.int .i64 0, .int .i64 0, .string ⟨#[]⟩, .slice none 0 0, .slice none 0 0] 29)).heap.size = w.heap.size + 3 := by simp [hz1]
  have hB0 : Below w.heap.size w ((W1.alloc (.cells #[.int .i64 x.kind, .int .i64 x.num, .string x.text, .slice X x.items.length kx, .slice X' x.names.length kx'] 29)).alloc (.cells #[.int .i64 0, .int .i64 0, .string ⟨#[]⟩, .slice none 0 0, .slice none 0 0] 29)) := (HB.out.alloc (by omega) _).alloc (by omega) _
  have hX0 := (HX.out.alloc (.cells #[.int .i64 x.kind, .int .i64 x.num, .string x.text, .slice X x.items.length kx, .slice X' x.names.length kx'] 29)).alloc (.cells #[.int .i64 0, .int .i64 0, .string ⟨#[]⟩, .slice none 0 0, .slice none 0 0] 29)
  have hN1 : Box (W1.alloc (.cells #[.int .i64 x.kind, .int .i64 x.num, .string x.text, .slice X x.items.length kx, .slice X' x.names.length kx'] 29)) (w.heap.size + 1) (.int .i64 x.kind) (.int .i64 x.num) (.string x.text) (.slice X x.items.length kx) (.slice X' x.names.length kx') := by
    have h := Box.new (w := W1) (.int .i64 x.kind) (.int .i64 x.num) (.string x.text) (.slice X x.items.length kx) (.slice X' x.names.length kx')
    rw [hz1] at h
    exact h
  have hN0 := hN1.alloc (.cells #[.int .i64 0, .int .i64 0, .string ⟨#[]⟩, .slice none 0 0, .slice none 0 0] 29)
  have hR0 : Box ((W1.alloc (.cells #[.int .i64 x.kind, .int .i64 x.num, .string x.text, .slice X x.items.length kx, .slice X' x.names.length kx'] 29)).alloc (.cells #[.int .i64 0, .int .i64 0, .string ⟨#[]⟩, .slice none 0 0, .slice none 0 0] 29)) (w.heap.size + 2) (.int .i64 0) (.int .i64 0) (.string ⟨#[]⟩) (.slice none 0 0) (.slice none 0 0) := by
    have h := Box.new (w := W1.alloc (.cells #[.int .i64 x.kind, .int .i64 x.num, .string x.text, .slice X x.items.length kx, .slice X' x.names.length kx'] 29)) (.int .i64 0) (.int .i64 0) (.string ⟨#[]⟩) (.slice none 0 0) (.slice none 0 0)
    rw [hz2] at h
    exact h
  clear hE1 hN1
  generalize (W1.alloc (.cells #[.int .i64 x.kind, .int .i64 x.num, .string x.text, .slice X x.items.length kx, .slice X' x.names.length kx'] 29)).alloc (.cells #[.int .i64 0, .int .i64 0, .string ⟨#[]⟩, .slice none 0 0, .slice none 0 0] 29) = w2 at *
  have HB0 := hid hB0
  have HR0 := hid hR0
  have HX0 := hid hX0
  have HN0 := hid hN0
  have n0 := hN0.c0
  have n1 := hN0.c1
  have n2 := hN0.c2
  have n3 := hN0.c3
  have n4 := hN0.c4
  have HM := hid (may_any S x _ w2 (fun b hb => by have := hS b hb; omega) (HXV.out.keep fun b hb => hB0.block b (hS b hb)) hdx)
  clear hB0 hR0 hX0 hN0 HB HX
  try rw [hz1]
  go_wp2_with fail
  refine HM.out.mono ?_
  rintro e w3 ⟨rfl, hb3⟩
  have HB3 := hid (HB0.out.trans (hb3.mono (show w.heap.size ≤ w2.heap.size by omega)))
  have HX3 := hid (HX0.out.call hb3)
  have HR3 := hid (HR0.out.call hb3)
  have HN3 := hid (HN0.out.call hb3)
  have hzz3 := hb3.size
  clear hb3 HM HB0 HX0 HR0 HN0 n0 n1 n2 n3 n4
  have rf := fun i => HR3.out.free i
  have r0 := HR3.out.c0
  have r1 := HR3.out.c1
  have r2 := HR3.out.c2
  have r3 := HR3.out.c3
  have r4 := HR3.out.c4
  cases hmx : mayT x with
  | false =>
    have HEND := hid (change_endq (res := (20, nilT)) (w := w) 2 HB3.out (nil_lv w3 (Iv (w.heap.size + 2 + 1) w3.heap.size)) rfl)
    have HBOX := hid (five_box (c0 := .int .i64 0) (c1 := .int .i64 0) (c2 := .string ⟨#[]⟩) (c3 := .slice none 0 0) (c4 := .slice none 0 0) HR3.out)
    have hr := HRES.out
    rw [hmx, if_neg (by simp)] at hr
    subst hr
    go_wp2_with fail
    refine bodyPost_ret (results_cell_two rfl _ _ (w.heap.size + 2) 29 _ (0, 0) rfl HBOX.out (by kernel_rfl)) rfl ?_
    exact HEND.out
  | true =>
  have hr := HRES.out
  rw [hmx, if_pos rfl] at hr
  subst hr
  have q0 := HX3.out.c0
  have q1 := HX3.out.c1
  have q2 := HX3.out.c2
  have q3 := HX3.out.c3
  have q4 := HX3.out.c4
  have HC := hid (tchange_any 130 #[.pointer (some ⟨w.heap.size + 1, 0, none⟩)] (setFin x) S (fun w' => Below w.heap.size w w' ∧ Box w' (w.heap.size + 1) (.int .i64 x.kind) (.int .i64 x.num) (.string x.text) (.slice X x.items.length kx) (.slice X' x.names.length kx')) smallT smallT.item enters_setc (fun w1 w2 hj hb => ⟨hj.1.trans (hb.mono hj.1.size), hj.2.call hb⟩)
    (fun w1 t g o A c s r F hj ho hm hq hst hc h63' hS1 hSF hend => setc_any S S x X kx X' kx' (w.heap.size + 1) t g o A c s r F w1 ho hm hq hst hc h63' (by omega) hS1 hSF hend (fun b hb => hS1 b hb) (HXV.out.keep fun b hb => hj.1.block b (hS b hb)) hj.2) t _ A c p w3 ⟨HB3.out, HN3.out⟩ hsm (fun b hb => by have := hS b hb; omega) (HV.out.keep fun b hb => HB3.out.block b (hS b hb)) HD.out (HP.out.keep fun b hb => HB3.out.block b (hS b hb)) hn hpc h63)
  clear r0 r1 r2 r3 r4 rf
  go_wp2_with fail
  try rw [hz1]
  refine HC.out.mono ?_
  rintro e w5 ⟨v', rfl, hv, hb5⟩
  obtain ⟨B, k, B', k', rfl, -⟩ := hv.shape
  have HB5 := hid (HB3.out.trans (hb5.mono (show w.heap.size ≤ w3.heap.size by omega)))
  have HR5 := hid (HR3.out.call hb5)
  have HV5 := hid (hv.imp (S' := Iv (w.heap.size + 2 + 1) w5.heap.size) fun b hb => ⟨by have := hb.1; omega, hb.2⟩)
  have rf := fun i => HR5.out.free i
  have r0 := HR5.out.c0
  have r1 := HR5.out.c1
  have r2 := HR5.out.c2
  have r3 := HR5.out.c3
  have r4 := HR5.out.c4
  generalize hres : changeT (setFin x) t p = res at *
  obtain ⟨xx, u⟩ := res
  simp only at *
  have HEND := hid (change_endq (res := (xx, u)) 2 HB5.out HV5.out rfl)
  have HBOX := hid (five_box (c0 := .int .i64 u.kind) (c1 := .int .i64 u.num) (c2 := .string u.text) (c3 := .slice B u.items.length k) (c4 := .slice B' u.names.length k') HR5.out)
  clear hv hb5 HC HR3 HB3 HX3 HN3 HV5 HB5 hz2 hres q0 q1 q2 q3 q4 hz1
  go_wp2_with fail
  refine bodyPost_ret (results_cell_two rfl _ _ (w.heap.size + 2) 29 _ (0, 0) rfl HBOX.out (by kernel_rfl)) rfl ?_
  exact HEND.out
theorem wpList_append_names {w : World} {ops : Array Oper} {rest : List Oper} {o : Oper} {a : Act} {Q : Exit → Act → World → Prop} (hgd : o.guard = none) (s x : Operand)
    (ho : o.op = .call { callee := .builtin .append, args := #[s, x], argTypes := #[23, 23] }) (g : Nat) (hs : a.eval s = .slice (some ⟨g, 0, none⟩) 0 0) (hg : w.heap[g]? = some (.cells #[] 9 (0, 0)))
    (S : Nat → Prop) (A : Option Addr) (c : Nat) (ns : List ByteArray) (hx : a.eval x = .slice A ns.length c) (hst : StrsAt w S A ns) (hl : ns.length ≤ 8796093021952)
    (h : ∀ A' c' w', ONS w' (Iv g w'.heap.size) A' c' ns → Below g w w' → wpList Tryz.prog ops Q rest (a.put o.dst (.slice A' ns.length c')) w') : wpList Tryz.prog ops Q (o :: rest) a w := by
  have hglt := (Array.getElem?_eq_some_iff.1 hg).1
  have hown : w.ownsRow g 9 1 (.slice (some ⟨g, 0, none⟩) 0 0) 0 [] := ⟨rfl, .inr ⟨g, 0, #[], rfl, Nat.le_refl _, hg, Nat.le_refl _, Nat.zero_le _, rfl, rfl⟩⟩
  obtain ⟨i0, hi, hz0, hz1, hz2⟩ := info_parts Tryz.infoStr
  rcases ns with _ | ⟨n0, r⟩
  · refine wpList_plain hgd fun K hK => ?_
    have hrun : (Builtin.append_ #[23, 23] o.type #[.slice (some ⟨g, 0, none⟩) 0 0, .slice A 0 c]).run Tryz.prog w = .ok (.slice (some ⟨g, 0, none⟩) 0 0) w := by
      cases A <;> simp [Builtin.append_, run_underlying Tryz.underlying23, sizeOf, typeInfo, hi, Builtin.lenOf, Builtin.firstCells, storeCells, loadCells, loadCellsFrom]
    unfold Oper.wp execOp
    simp only [ho, resolve, invoke, builtin, Sem.run_bind, Sem.run_pure, Result.andThen_ok, List.map_toArray, List.map_cons, List.map_nil, hs, hx]
    have hrun' := hrun
    simp only [List.length_nil]
    rw [hrun']
    exact hK _ _ (h (some ⟨g, 0, none⟩) 0 w ⟨⟨rfl, .inr ⟨g, 0, #[], rfl, Nat.zero_le _, hg, Nat.le_refl _, Nat.zero_le _, rfl, rfl⟩⟩, fun a ha => by cases ha; exact ⟨Nat.le_refl _, hglt⟩, fun _ h => absurd h (by simp)⟩ (Below.refl _ _))
  · obtain ⟨b, off, rfl, hb, hc⟩ := hst (by simp)
    generalize hns : n0 :: r = ns at *
    have hnw : ∀ j u, (ns.map Value.string)[j]? = some u → w.cell? ((⟨b, off, none⟩ : Addr).add j) = some u := by
      intro j u hj
      have hjl : j < ns.length := by have := (List.getElem?_eq_some_iff.1 hj).1; simpa using this
      rw [addr_at, (hc j hjl).1]
      simpa [List.getElem?_map, List.getElem?_eq_getElem hjl] using hj
    refine wpList_append_own _ hgd s x 23 ho g 9 i0 (.string ⟨#[]⟩) 1 16 Tryz.underlying23 hi hz0 hz1 hz2 rfl (by decide) (.slice (some ⟨g, 0, none⟩) 0 0) 0 [] hs hown ⟨b, off, none⟩ ns.length c (ns.map Value.string) hx (by simp) hnw ?_ (by unfold maxLen; omega) (by omega) (by omega) ?_
    · intro u hu; obtain ⟨_, _, rfl⟩ := List.mem_map.1 hu; rfl
    · intro v' w' hown' hgr _
      have hn0 : 0 + ns.length = ns.length := Nat.zero_add _
      rw [hn0, List.nil_append] at hown'
      obtain ⟨A', c', rfl, hst'⟩ := ons_of_row hown' (fun s hs => by obtain ⟨i, hi, rfl⟩ := List.mem_iff_getElem.1 hs; exact (hc i hi).2)
      exact h A' c' w' hst' (below_of_grown (B := g) hgr (by omega) (fun k hk => by simp only [Value.ownBlock, Option.some.injEq] at hk; omega))
def RCloneO (n : Nat) : Prop := ∀ (S : Nat → Prop) (t : VT) (v : Value) (w : World), depthT t ≤ n → (∀ b, S b → b < w.heap.size) → LV w S t v →
  Calls Tryz.prog 22 #[v] w fun e w' => ∃ v', e = .returned v' ∧ OV w' (Iv w.heap.size w'.heap.size) t v' ∧ Below w.heap.size w w'
end Go.Proofs.YtnamdlljdgllmaaGreat
