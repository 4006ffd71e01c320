/- The document's Clone: an owned value; the walk. -/
import Derived.Test.YtnamdlljdgllmaaGreatKTsD
import Derived.Test.YtnamdlljdgllmaaGreatKRegR
namespace Go.Proofs.YtnamdlljdgllmaaGreat
open Lib (hid)
set_option linter.unusedVariables false
set_option linter.unusedSimpArgs false
open Go.RowKit
theorem OAt.imp {w : World} {F F' : Nat → Prop} {t : VT} {g o : Nat} (h : OAt w F t g o) (hF : ∀ b, F b → F' b) (hg : ¬ F' g) (hlt : ∀ b, F' b → b < w.heap.size) : OAt w F' t g o := by
  obtain ⟨C, ty, A, c, A', c', h0, h1, h2, h3, h4, h5, h6, -, -⟩ := h
  exact ⟨C, ty, A, c, A', c', h0, h1, h2, h3, h4, h5, h6.imp hF, hg, hlt⟩
theorem oat_start {w : World} {g : Nat} {k i : Int} {s : ByteArray} {A' : Option Addr} {c' : Nat} {ns : List ByteArray} {F : Nat → Prop} (hb : Box w g (.int .i64 k) (.int .i64 i) (.string s) (.slice none 0 0) (.slice A' ns.length c')) (h : ONS w F A' c' ns) (h1 : Rng k) (h2 : Rng i) (h3 : s.size ≤ 140737488351232) (hl : ns.length ≤ 8796093021952) (hg : ¬ F g) (hlt : ∀ b, F b → b < w.heap.size) :
    OAt w F (.mk k i s [] ns) g 0 :=
  ⟨_, _, none, 0, A', c', hb, rfl, rfl, rfl, rfl, rfl, OV.mk h1 h2 h3 (Nat.zero_le _) hl h.2.2 h.1 (World.ownsRow_nil _ _ _ _) h.2.1 (fun _ h => by cases h) (fun _ _ h => by cases h) (ovs_nil _ _), hg, hlt⟩
theorem take_one (l : List VT) (j : Nat) (h : j < l.length) : l.take j ++ [l[j]] = l.take (j + 1) := by rw [List.take_succ_eq_append_getElem h]
set_option maxHeartbeats 4000000 in
set_option maxRecDepth 100000 in
theorem rclone_step {n : Nat} (hcl : RCloneO n) : RCloneO (n + 1) := by
  intro S t v w hd hS h
  have HLEN := hid h.lens
  obtain ⟨A, c, A', c', rfl, k1, k2, k3, k4, k5, k6, k7⟩ := h.shape
  clear h
  cases t with
  | mk k i s l ns =>
  simp only [VT.kind, VT.num, VT.text, VT.items, VT.names] at *
  have HK := hid (And.intro k1 (And.intro k2 k3))
  have hdl : depthL l ≤ n := by rw [depthT_mk] at hd; omega
  have HDL := hid hdl
  have K7 := hid k7
  have HS := hid hS
  have K6 := hid k6
  clear k1 k2 k3 k4 k5 k6 k7 hdl hd
  obtain ⟨W3, hW3⟩ : ∃ W3, W3 = (((w.alloc (.cells #[.int .i64 k, .int .i64 i, .string s, .slice A l.length c, .slice A' ns.length c'] 29)).alloc (.cells #[.int .i64 0, .int .i64 0, .string ⟨#[]⟩, .slice none 0 0, .slice none 0 0] 29)).alloc (.cells #[.int .i64 k, .int .i64 i, .string s, .slice A l.length c, .slice A' ns.length c'] 29)).alloc (.cells #[] 9) := ⟨_, rfl⟩
  have hb0 : Below w.heap.size w W3 := by
    rw [hW3]
    exact (((below_box _).alloc (by simp) _).alloc (by simp; omega) _).alloc (by simp; omega) _
  have hz3 : W3.heap.size = w.heap.size + 4 := by rw [hW3]; simp
  have hX : Box W3 w.heap.size (.int .i64 k) (.int .i64 i) (.string s) (.slice A l.length c) (.slice A' ns.length c') := by
    rw [hW3]
    exact (((Box.new _ _ _ _ _).alloc _).alloc _).alloc _
  have hY : Box W3 (w.heap.size + 1) (.int .i64 0) (.int .i64 0) (.string ⟨#[]⟩) (.slice none 0 0) (.slice none 0 0) := by
    have := Box.new (w := (w.alloc (.cells #[.int .i64 k, .int .i64 i, .string s, .slice A l.length c, .slice A' ns.length c'] 29))) (.int .i64 0) (.int .i64 0) (.string ⟨#[]⟩) (.slice none 0 0) (.slice none 0 0)
    rw [hW3]
    have := (this.alloc (.cells #[.int .i64 k, .int .i64 i, .string s, .slice A l.length c, .slice A' ns.length c'] 29)).alloc (.cells #[] 9)
    simpa using this
  have hZ : Box W3 (w.heap.size + 2) (.int .i64 k) (.int .i64 i) (.string s) (.slice A l.length c) (.slice A' ns.length c') := by
    have := Box.new (w := ((w.alloc (.cells #[.int .i64 k, .int .i64 i, .string s, .slice A l.length c, .slice A' ns.length c'] 29)).alloc (.cells #[.int .i64 0, .int .i64 0, .string ⟨#[]⟩, .slice none 0 0, .slice none 0 0] 29))) (.int .i64 k) (.int .i64 i) (.string s) (.slice A l.length c) (.slice A' ns.length c')
    rw [hW3]
    have := this.alloc (.cells #[] 9)
    simpa using this
  have hE : W3.heap[w.heap.size + 3]? = some (.cells #[] 9 (0, 0)) := by
    have := heap_alloc_new (((w.alloc (.cells #[.int .i64 k, .int .i64 i, .string s, .slice A l.length c, .slice A' ns.length c'] 29)).alloc (.cells #[.int .i64 0, .int .i64 0, .string ⟨#[]⟩, .slice none 0 0, .slice none 0 0] 29)).alloc (.cells #[.int .i64 k, .int .i64 i, .string s, .slice A l.length c, .slice A' ns.length c'] 29)) (.cells #[] 9)
    rw [hW3]
    simpa using this
  have k6 := K6.out.keep (w' := W3) fun b hb => hb0.block b (hS b hb)
  have HAP := hid (And.intro hE k6)
  have HBX := hid (And.intro hX (And.intro hY hZ))
  have HB0 := hid hb0
  have HZ3 := hid hz3
  have HW3 := hid hW3
  clear hX hY hZ hE k6 hb0 hz3 hW3 K6
  go_enter Tryz.func22, Tryz.ntmps22
  go_wp2_with (at_builtin; go_must (rw [← HW3.out]; refine wpList_append_names rfl _ _ rfl (w.heap.size + 3) rfl HAP.out.1 S A' c' ns rfl HAP.out.2 HLEN.out.2 ?_))
  intro A3 c3 w4 hst hb4
  obtain ⟨h, hh⟩ : ∃ h, h = w.heap.size := ⟨_, rfl⟩
  have hX4 := HBX.out.1.below hb4 (by omega)
  have hY4 := HBX.out.2.1.below hb4 (by omega)
  have hZ4 := HBX.out.2.2.below hb4 (by omega)
  have HB4 : Hid (Below w.heap.size w w4) := hid (HB0.out.trans (hb4.mono (by omega)))
  have hz4 : w.heap.size + 4 ≤ w4.heap.size := by have := hb4.size; have := HZ3.out; omega
  have HST := hid hst
  clear hst hb4 HBX HAP HB0 HZ3 HW3
  rw [← hh] at hX4 hY4 hZ4 HST hz4 ⊢
  have HH := hid hh
  clear hh
  have x3 := hX4.c3
  have z3 := hZ4.c3
  have z4 := hZ4.c4
  have zf3 := hZ4.free 3
  have zf4 := hZ4.free 4
  obtain ⟨W5, hW5⟩ : ∃ W5, W5 = (w4.setCell ⟨h + 2, 4, none⟩ (.slice A3 ns.length c3)).setCell ⟨h + 2, 3, none⟩ (.slice none 0 0) := ⟨_, rfl⟩
  have hX5 : Box W5 h (.int .i64 k) (.int .i64 i) (.string s) (.slice A l.length c) (.slice A' ns.length c') := by rw [hW5]; exact (hX4.far (p := ⟨h + 2, 4, none⟩) (by simp) _).far (p := ⟨h + 2, 3, none⟩) (by simp) _
  have hY5 : Box W5 (h + 1) (.int .i64 0) (.int .i64 0) (.string ⟨#[]⟩) (.slice none 0 0) (.slice none 0 0) := by rw [hW5]; exact (hY4.far (p := ⟨h + 2, 4, none⟩) (by simp) _).far (p := ⟨h + 2, 3, none⟩) (by simp) _
  have hZ5 : Box W5 (h + 2) (.int .i64 k) (.int .i64 i) (.string s) (.slice none 0 0) (.slice A3 ns.length c3) := by rw [hW5]; exact (hZ4.set4 _).set3 _
  have hz5 : W5.heap.size = w4.heap.size := by rw [hW5]; simp
  have hk5 : ∀ b, b ≠ h + 2 → W5.heap[b]? = w4.heap[b]? := fun b hb => by rw [hW5]; exact (Below.heap_setCell _ ⟨h + 2, 3, none⟩ _ b hb).trans (Below.heap_setCell _ ⟨h + 2, 4, none⟩ _ b hb)
  have HB5 : Hid (Below w.heap.size w W5) := hid (by rw [hW5]; exact (HB4.out.setCell (by have := HH.out; simp; omega) _).setCell (by have := HH.out; simp; omega) _)
  have HO5 : Hid (OAt W5 (Iv (h + 3) W5.heap.size) (.mk k i s [] ns) (h + 2) 0) := hid (by
    refine oat_start hZ5 ((HST.out.keep (w' := W5) fun b hb => hk5 b (by have := hb.1; omega)).imp fun b hb => ⟨hb.1, by rw [hz5]; exact hb.2⟩) HK.out.1 HK.out.2.1 HK.out.2.2 HLEN.out.2 (fun e => by have := e.1; omega) fun b hb => hb.2)
  have HXY := hid (And.intro hX5 hY5)
  have EW := hid hW5
  clear hW5 hX4 hY4 hZ4 hX5 hY5 hZ5 hz5 hk5 HB4 HST
  go_wp2_with fail
  rw [← EW.out]
  clear z3 z4 zf3 zf4 x3 EW
  have hxl := HXY.out.1.lt
  go_loopw [4] (fun i0 wr => ∃ (j : Nat) (T : VT), i0 = .int .i64 j ∧ j ≤ l.length ∧ Hid (T = .mk k i s (l.take j) ns ∧ OAt wr (Iv (h + 3) wr.heap.size) T (h + 2) 0 ∧ Below w.heap.size w wr ∧ Box wr h (.int .i64 k) (.int .i64 i) (.string s) (.slice A l.length c) (.slice A' ns.length c') ∧ Box wr (h + 1) (.int .i64 0) (.int .i64 0) (.string ⟨#[]⟩) (.slice none 0 0) (.slice none 0 0))) (fun i0 _ => l.length - (intOf i0).toNat)
  case atStart => exact ⟨0, _, rfl, Nat.zero_le _, hid ⟨rfl, by simpa using HO5.out, HB5.out, HXY.out.1, HXY.out.2⟩⟩
  case round =>
    obtain ⟨j, T, rfl, hj, HI⟩ := hrel
    have x3 := HI.out.2.2.2.1.c3
    by_cases hlt : j < l.length
    · clear HXY HO5 HB5
      go_wp2_with fail
      have hdr : Below wr.heap.size wr wr.drew := (Below.refl _ _).drew
      have HI2 : Hid (T = .mk k i s (l.take j) ns ∧ OAt wr.drew (Iv (h + 3) wr.drew.heap.size) T (h + 2) 0 ∧ Below w.heap.size w wr.drew ∧ Box wr.drew h (.int .i64 k) (.int .i64 i) (.string s) (.slice A l.length c) (.slice A' ns.length c') ∧ Box wr.drew (h + 1) (.int .i64 0) (.int .i64 0) (.string ⟨#[]⟩) (.slice none 0 0) (.slice none 0 0)) :=
        hid ⟨HI.out.1, HI.out.2.1.keep hdr, HI.out.2.2.1.trans (hdr.mono HI.out.2.2.1.size), HI.out.2.2.2.1.call hdr, HI.out.2.2.2.2.call hdr⟩
      clear HI x3 hdr
      have HI := HI2
      clear HI2
      generalize hwd : wr.drew = wd at *
      have x3 := HI.out.2.2.2.1.c3
      have hjT : T.items.length = j := by rw [HI.out.1]; show (l.take j).length = j; rw [List.length_take]; omega
      have hTl : T.items.length < 1759218604390 := by have := HLEN.out.1; omega
      have hwh : w.heap.size = h := HH.out.symm
      obtain ⟨b, off, rfl, hb, hls⟩ := K7.out (by omega)
      obtain ⟨d0, d1, d2, d3, d4, h0, h1, h2, h3, h4, hx⟩ := hls.at j hlt
      obtain ⟨A2, e2, A6, e6, hag, -⟩ := hx.shape
      injection hag with hag; injection hag with hag
      injection hag with y0 hag; injection hag with y1 hag; injection hag with y2 hag; injection hag with y3 hag; injection hag with y4 hag
      subst y0 y1 y2 y3 y4
      have hbw := HI.out.2.2.1
      have hbS := HS.out b hb
      have IH := hid (hcl S l[j] _ wd (Nat.le_trans (depthL_le (List.getElem_mem hlt)) HDL.out) (sub_below HS.out hbw) (hx.below HS.out hbw))
      have hw : ∀ o, wd.cell? ⟨b, o, none⟩ = w.cell? ⟨b, o, none⟩ := fun o => hbw.cell (p := ⟨b, o, none⟩) hbS
      rw [← hw] at h0 h1 h2 h3 h4
      obtain ⟨AV, cV, xs, hc3, hrowV, hAV, hnext⟩ := HI.out.2.1.addItem
      rw [hjT] at hc3 hrowV hnext hTl
      clear hjT
      have hgl := HI.out.2.1.lt
      have hGV : h + 3 ≤ blkOr AV wd.heap.size := by
        cases hA : AV with
        | none => show h + 3 ≤ wd.heap.size; omega
        | some a => exact (hAV a hA).1.1
      have hGV1 : ∀ a, AV = some a → blkOr AV wd.heap.size = a.block := fun a h => blkOr_some a h
      generalize blkOr AV wd.heap.size = GV at *
      refine wp_region_OT (Keep2 GV GV) (Keep2.refl _ _) (Keep2.trans _ _) [11] (.pure [0, 1, 2, 3, 4, 5, 6] (.step 7 (.step 8 (.step 9 (.step 10 (.step 11 (.tail []))))))) (by kernel_rfl) (by kernel_rfl) (fun _ d _ _ _ h => by cases d <;> exact h) ?_
      rw [hwd]
      clear hwd
      have kq : ∀ (p : LaterR (Keep2 GV GV) wd) (q o : Nat), q < h + 3 → p.u.cell? ⟨q, o, none⟩ = wd.cell? ⟨q, o, none⟩ := fun p q o hq => World.cell?_of_block (a := ⟨q, o, none⟩) (p.h.2 q (by omega) (by omega) (by omega))
      have q3 : ∀ p : LaterR (Keep2 GV GV) wd, p.u.cell? ⟨h + 1 + 1, 3, none⟩ = some (.slice AV j cV) := fun p => (kq p (h + 2) 3 (by omega)).trans hc3
      have x3' := fun p : LaterR (Keep2 GV GV) wd => (kq p h 3 (by omega)).trans x3
      have m0 := fun p : LaterR (Keep2 GV GV) wd => (kq p b _ (by omega)).trans h0
      have m1 := fun p : LaterR (Keep2 GV GV) wd => (kq p b _ (by omega)).trans h1
      have m2 := fun p : LaterR (Keep2 GV GV) wd => (kq p b _ (by omega)).trans h2
      have m3 := fun p : LaterR (Keep2 GV GV) wd => (kq p b _ (by omega)).trans h3
      have m4 := fun p : LaterR (Keep2 GV GV) wd => (kq p b _ (by omega)).trans h4
      have HRV := hid hrowV
      have HAV := hid hAV
      have HNX := hid hnext
      have HC3 := hid hc3
      have HGV := hid (And.intro hGV1 hGV)
      have hjl : (j : Int) < (l.length : Int) := by omega
      clear hrowV hAV hnext hc3 hGV1 hGV kq h0 h1 h2 h3 h4 hx hw x3 hbw
      refine ot_pure ?_
      simp only [atR]
      show wpQuiet _ _ _ _ [_, _, _, _, _, _, _] _
      try simp only [acR, Act.put]
      repeat (go_big_quiet_step (fail))
      refine wpQuiet_nil ?_
      clear q3 x3' m0 m1 m2 m3 m4
      refine ot_step rfl (fun K hK => ?_)
      go_simp
      refine IH.out.mono ?_
      rintro e w3 ⟨v', rfl, hv, hb3⟩
      obtain ⟨A4, e4, A5, e5, xs4, rfl, -⟩ := hv.shape
      refine hK _ _ (.inr (Keep2.of hb3)) ?_
      clear hK K IH
      refine ot_step rfl (fun K hK => ?_)
      go_simp
      refine hK _ _ (.inr ⟨by simp, fun q hq _ _ => Below.heap_alloc _ _ _ hq⟩) ?_
      clear hK K
      have hc1 := heap_alloc_new w3 (.cells #[.int .i64 l[j].kind, .int .i64 l[j].num, .string l[j].text, .slice A4 l[j].items.length e4, .slice A5 l[j].names.length e5] 29)
      have hbc3 : Below w3.heap.size w3 (w3.alloc (.cells #[.int .i64 l[j].kind, .int .i64 l[j].num, .string l[j].text, .slice A4 l[j].items.length e4, .slice A5 l[j].names.length e5] 29)) := below_box _
      have hzc : (w3.alloc (.cells #[.int .i64 l[j].kind, .int .i64 l[j].num, .string l[j].text, .slice A4 l[j].items.length e4, .slice A5 l[j].names.length e5] 29)).heap.size = w3.heap.size + 1 := by simp
      generalize w3.alloc (.cells #[.int .i64 l[j].kind, .int .i64 l[j].num, .string l[j].text, .slice A4 l[j].items.length e4, .slice A5 l[j].names.length e5] 29) = wc at *
      have hz3 := hb3.size
      have hbc : Below wd.heap.size wd wc := hb3.trans (hbc3.mono hz3)
      have hvc := hv.keep (w' := wc) fun q hq => hbc3.block q hq.2
      have HVC := hid (And.intro hvc hbc)
      have hown1 := row_keep (w' := wc) HRV.out fun a ha => hbc.block _ (HAV.out a ha).2.1
      have hxl : xs.length = j * 5 := HRV.out.1
      refine ot_act rfl rfl (fun K hK => ?_)
      obtain ⟨i0, hi, hi0, hi1, hi2⟩ := info_parts Tryz.infoVal
      refine wp_append_moved _ _ _ 27 rfl 0 29 i0 _ 5 80 Tryz.underlying27 hi hi0 hi1 hi2 rfl (by decide) (.slice AV j cV) j xs rfl hown1 ⟨w3.heap.size, 0, none⟩ 1 1 [.int .i64 l[j].kind, .int .i64 l[j].num, .string l[j].text, .slice A4 l[j].items.length e4, .slice A5 l[j].names.length e5] rfl rfl ?_ ?_ (by unfold maxLen; omega) (by omega) (by omega) ?_
      · intro j' x hj'
        rw [add_at, Nat.zero_add]
        exact (Go.Joins.cell_of_block hc1 j').trans (by simpa using hj')
      · intro x hx
        simp only [List.mem_cons, List.not_mem_nil, or_false] at hx
        rcases hx with rfl | rfl | rfl | rfl | rfl <;> rfl
      intro v2 w7 hown2 hg2 hmv
      obtain ⟨p2, cap2, rfl⟩ : ∃ p cap, v2 = .slice (some ⟨p, 0, none⟩) (j + 1) cap := by
        rcases hown2.2 with ⟨-, h0⟩ | ⟨p, cap, cur, h1, h2, -⟩
        · omega
        · exact ⟨p, cap, h1⟩
      have hpw : AV = some ⟨p2, 0, none⟩ ∨ wc.heap.size ≤ p2 := by
        rcases hmv with h | ⟨q, h1, h2⟩
        · left
          cases hA : AV with
          | none => rw [hA] at h; simp [Value.ownBlock] at h
          | some a =>
            rw [hA] at h
            simp only [Value.ownBlock, Option.some.injEq] at h
            rw [row_at HRV.out a hA, ← h]
        · right
          simp only [Value.ownBlock, Option.some.injEq] at h2
          omega
      have hoN : ∀ q, q < wc.heap.size → (∀ a, AV = some a → a.block ≠ q) → w7.heap[q]? = wc.heap[q]? := fun q hq hne => hg2.block q (by omega) (fun e => by
        cases hA : AV with
        | none => rw [hA] at e; simp [Value.ownBlock] at e
        | some a => rw [hA] at e; simp only [Value.ownBlock, Option.some.injEq] at e; exact hne a hA e.symm)
      have hz7 : wc.heap.size ≤ w7.heap.size := hg2.size
      refine hK _ _ (.inr ⟨hg2.size, fun q hq hne _ => hg2.block q hq (fun e => by
        cases hA : AV with
        | none => rw [hA] at e; simp [Value.ownBlock] at e
        | some a => rw [hA] at e; simp only [Value.ownBlock, Option.some.injEq] at e; exact hne (e.trans (HGV.out.1 a hA).symm))⟩) ?_
      clear hK K
      simp only [acR, Act.put]
      have hw7 : w7.os = wd.os ∧ w7.tape = wd.tape ∧ w7.output = wd.output := ⟨hg2.os.trans hbc.os, hg2.tape.trans hbc.tape, hg2.output.trans hbc.output⟩
      obtain ⟨Cg, tyg, hCg⟩ : ∃ C ty, wd.heap[h + 2]? = some (.cells C ty (0, 0)) := by
        obtain ⟨C, ty, _, _, _, _, hg, _⟩ := HI.out.2.1
        exact ⟨C, ty, hg⟩
      have hFge : ∀ a, AV = some a → h + 3 ≤ a.block := fun a ha => (HAV.out a ha).1.1
      have hgk := (hoN (h + 2) (by omega) (fun a ha => by have := hFge a ha; omega)).trans (hbc.block (h + 2) (by omega))
      have hg2' := hgk.trans hCg
      have hd3 : w7.cell? ⟨h + 2, 3, none⟩ = some (.slice AV j cV) := (World.cell?_of_block (a := ⟨h + 2, 3, none⟩) hgk).trans HC3.out
      have hf3 := Go.Joins.unfrozen_of_block hg2' 3
      have HW7 := hid (And.intro hown2 (And.intro hpw (And.intro hoN hw7)))
      have HCG := hid (And.intro hCg hg2')
      clear hc1 hown1 hown2 hg2 hmv hoN hw7 hCg hg2' hgk hbc hvc hv hb3 hbc3
      refine ot_step rfl (fun K hK => ?_)
      go_simp
      refine hK _ _ (.inr (Keep2.refl _ _ _)) ?_
      clear hK K
      refine ot_step rfl (fun K hK => ?_)
      go_simp
      refine hK _ _ (.inl (by decide)) ?_
      clear hK K hd3 hf3
      refine ot_end ?_
      have hpg : h + 3 ≤ p2 := by
        rcases hpw with h' | h'
        · exact hFge _ h'
        · omega
      have hgW : (w7.setCell ⟨h + 2, 3, none⟩ (.slice (some ⟨p2, 0, none⟩) (j + 1) cap2)).heap[h + 2]? = some (.cells (Cg.setIfInBounds 3 (.slice (some ⟨p2, 0, none⟩) (j + 1) cap2)) tyg (0, 0)) := Go.Joins.block_setCell (i := 3) HCG.out.2 _
      have hoW : ∀ q, q ≠ h + 2 → (w7.setCell ⟨h + 2, 3, none⟩ (.slice (some ⟨p2, 0, none⟩) (j + 1) cap2)).heap[q]? = w7.heap[q]? := fun q hq => heap_setCell_other _ ⟨h + 2, 3, none⟩ q _ hq
      have hzW : (w7.setCell ⟨h + 2, 3, none⟩ (.slice (some ⟨p2, 0, none⟩) (j + 1) cap2)).heap.size = w7.heap.size := by simp
      have hrW : (w7.setCell ⟨h + 2, 3, none⟩ (.slice (some ⟨p2, 0, none⟩) (j + 1) cap2)).os = w7.os ∧ (w7.setCell ⟨h + 2, 3, none⟩ (.slice (some ⟨p2, 0, none⟩) (j + 1) cap2)).tape = w7.tape ∧ (w7.setCell ⟨h + 2, 3, none⟩ (.slice (some ⟨p2, 0, none⟩) (j + 1) cap2)).output = w7.output := ⟨rfl, rfl, rfl⟩
      try change Exit.then _ _ _ _ (w7.setCell ⟨h + 2, 3, none⟩ (.slice (some ⟨p2, 0, none⟩) (j + 1) cap2))
      generalize w7.setCell ⟨h + 2, 3, none⟩ (.slice (some ⟨p2, 0, none⟩) (j + 1) cap2) = w8 at *
      have hown8 := row_keep (w' := w8) HW7.out.1 fun a ha => by cases ha; exact hoW p2 (by omega)
      have HF : Hid (addI T l[j] = .mk k i s (l.take (j + 1)) ns ∧ OAt w8 (Iv (h + 3) w8.heap.size) (addI T l[j]) (h + 2) 0 ∧ Below w.heap.size w w8 ∧ Box w8 h (.int .i64 k) (.int .i64 i) (.string s) (.slice (some ⟨b, off, none⟩) l.length c) (.slice A' ns.length c') ∧ Box w8 (h + 1) (.int .i64 0) (.int .i64 0) (.string ⟨#[]⟩) (.slice none 0 0) (.slice none 0 0)) := hid (by
        obtain ⟨hown2, -, hoN, e1', e2', e3'⟩ := HW7.out
        obtain ⟨hvc, hbc⟩ := HVC.out
        have hlow : ∀ q, q < h + 2 → w8.heap[q]? = wd.heap[q]? := fun q hq => (hoW q (by omega)).trans ((hoN q (by omega) (fun a ha => by have := hFge a ha; omega)).trans (hbc.block q (by omega)))
        have hnA : ∀ q, Iv wd.heap.size w3.heap.size q → ∀ a, AV = some a → a.block ≠ q := fun q hq a ha e => by have := (HAV.out a ha).2.1; have := hq.1; omega
        have hpv : ∀ q, Iv wd.heap.size w3.heap.size q → q ≠ p2 := by
          intro q hq e
          rcases hpw with h' | h'
          · exact hnA q hq _ h' e.symm
          · have := hq.2; omega
        obtain ⟨F6, q1, q2, q3⟩ := HNX.out wd.heap.size w8 p2 cap2 l[j] _ _ _ _ _ (Iv wd.heap.size w3.heap.size) (Nat.le_refl _) hTl (fun C ty hC => by
            have e := HCG.out.1.symm.trans hC
            injection e with e
            injection e with e1 e2
            subst e1 e2
            exact hgW) hown8 (hpw.imp id fun h' => by omega) (fun q hq hqg hqa => (hoW q hqg).trans ((hoN q (by omega) hqa).trans (hbc.block q hq)))
            (hvc.keep fun q hq => (hoW q (by have := hq.1; omega)).trans (hoN q (by have := hq.2; omega) (hnA q hq)))
            (fun q hq => ⟨hq.1, by have := hq.2; omega, hpv q hq, fun e => by have := e.2; have := hq.1; omega, by have := hq.1; omega⟩) (by omega) (hrW.1.trans e1') (hrW.2.1.trans e2') (hrW.2.2.trans e3')
        have hF6 : ∀ q, F6 q → q < w8.heap.size := by
          obtain ⟨_, _, _, _, _, _, _, _, _, _, _, _, _, _, hlt⟩ := q2
          exact hlt
        refine ⟨?_, q2.imp (fun q hq => ⟨(q1 q hq).elim (fun e => e.1) (fun e => by omega), hF6 q hq⟩) (fun e => by have := e.1; omega) (fun q hq => hq.2), ?_, (hlow h (by omega)).trans HI.out.2.2.2.1, (hlow (h + 1) (by omega)).trans HI.out.2.2.2.2⟩
        · rw [HI.out.1]
          show VT.mk k i s (l.take j ++ [l[j]]) ns = _
          rw [take_one]
        · exact ⟨(hrW.1.trans e1').trans HI.out.2.2.1.os, (hrW.2.1.trans e2').trans HI.out.2.2.1.tape, (hrW.2.2.trans e3').trans HI.out.2.2.1.output, by have := HI.out.2.2.1.size; omega, fun q hq => (hlow q (by omega)).trans (HI.out.2.2.1.block q hq)⟩)
      clear hgW hoW hzW hrW hown8 HW7 HCG HVC HNX HAV HRV HC3 HGV hFge
      go_wp2_with fail
      go_roundw
      case rel => exact ⟨j + 1, _, by go_num, by omega, HF.out⟩
      case measure => simp [intOf]; omega
    · obtain ⟨C, ty, A7, c7, A8, c8, hg, g0, g1, g2, g3, g4, hov, -, -⟩ := HI.out.2.1
      obtain rfl : j = l.length := by omega
      have hT := HI.out.1
      rw [List.take_length] at hT
      subst hT
      have y0 : wr.cell? ⟨h + 2, 0, none⟩ = some (.int .i64 k) := (Go.Joins.cell_of_block hg 0).trans g0
      have y1 : wr.cell? ⟨h + 2, 1, none⟩ = some (.int .i64 i) := (Go.Joins.cell_of_block hg 1).trans g1
      have y2 : wr.cell? ⟨h + 2, 2, none⟩ = some (.string s) := (Go.Joins.cell_of_block hg 2).trans g2
      have y3 : wr.cell? ⟨h + 2, 3, none⟩ = some (.slice A7 l.length c7) := (Go.Joins.cell_of_block hg 3).trans g3
      have y4 : wr.cell? ⟨h + 2, 4, none⟩ = some (.slice A8 ns.length c8) := (Go.Joins.cell_of_block hg 4).trans g4
      have hY := HI.out.2.2.2.2
      have z0 := hY.c0
      have z1 := hY.c1
      have z2 := hY.c2
      have z3 := hY.c3
      have z4 := hY.c4
      have zf0 := hY.free 0
      have zf1 := hY.free 1
      have zf2 := hY.free 2
      have zf3 := hY.free 3
      have zf4 := hY.free 4
      have HY := hid hY
      have HOV := hid hov
      clear hg g0 g1 g2 g3 g4 hov hY
      go_wp2_with fail
      (try simp only [Exit.inBlock, Exit.then])
      have FIN := ((((HY.out.set0 (.int .i64 k)).set1 (.int .i64 i)).set2 (.string s)).set3 (.slice A7 l.length c7)).set4 (.slice A8 ns.length c8)
      have hk : ∀ b, h + 2 ≤ b → (set5 wr (h + 1) 0 (.int .i64 k) (.int .i64 i) (.string s) (.slice A7 l.length c7) (.slice A8 ns.length c8)).heap[b]? = wr.heap[b]? := fun b hb => set5_block _ _ _ _ _ (by omega)
      have hbw := set5_below (p := 0) (.int .i64 k) (.int .i64 i) (.string s) (.slice A7 l.length c7) (.slice A8 ns.length c8) HI.out.2.2.1 (G := h + 1) (by have := HH.out; omega)
      refine bodyPost_ret (results_cell_row rfl _ _ (h + 1) 29 _ (0, 0) _ rfl FIN Tryz.underlying29 rfl (by kernel_rfl)) rfl ?_
      have hh := HH.out
      have hsz := set5_size wr (h + 1) 0 (.int .i64 k) (.int .i64 i) (.string s) (.slice A7 l.length c7) (.slice A8 ns.length c8)
      exact ⟨_, rfl, (HOV.out.keep fun b hb => hk b (by have := hb.1; omega)).imp fun b hb => ⟨by have := hb.1; omega, Nat.lt_of_lt_of_le hb.2 (Nat.le_of_eq hsz.symm)⟩, hbw⟩
theorem rclone_ok : ∀ n, RCloneO n
  | 0 => fun S t v w hd _ _ => by cases t; rw [depthT_mk] at hd; omega
  | n + 1 => rclone_step (rclone_ok n)
theorem rclone_any (S : Nat → Prop) (t : VT) (v : Value) (w : World) (hS : ∀ b, S b → b < w.heap.size) (h : LV w S t v) :
    Calls Tryz.prog 22 #[v] w fun e w' => ∃ v', e = .returned v' ∧ OV w' (Iv w.heap.size w'.heap.size) t v' ∧ Below w.heap.size w w' := rclone_ok (depthT t) S t v w (Nat.le_refl _) hS h
structure TopV (w : World) (S : Nat → Prop) (A : Option Addr) (c : Nat) (A' : Option Addr) (c' : Nat) (l : List VT) (ns : List ByteArray) (xs : List Value) : Prop where
  rn : w.ownsRow 0 9 1 (.slice A' ns.length c') ns.length (ns.map Value.string)
  ri : w.ownsRow 0 29 5 (.slice A l.length c) l.length xs
  na : ∀ a, A = some a → ¬ S a.block ∧ a.block < w.heap.size
  nb : ∀ a, A' = some a → ¬ S a.block ∧ a.block < w.heap.size
  ne : ∀ a a', A = some a → A' = some a' → a.block ≠ a'.block
  lt : ∀ b, S b → b < w.heap.size
  it : ∀ j (hj : j < l.length), ∃ c0 c1 c2 c3 c4, xs[j * 5]? = some c0 ∧ xs[j * 5 + 1]? = some c1 ∧ xs[j * 5 + 2]? = some c2 ∧ xs[j * 5 + 3]? = some c3 ∧ xs[j * 5 + 4]? = some c4 ∧ LV w S l[j] (.agg #[c0, c1, c2, c3, c4])
theorem row_lt {w : World} {e : TypeId} {sz n c : Nat} {A : Option Addr} {xs : List Value} (h : w.ownsRow 0 e sz (.slice A n c) n xs) : ∀ a, A = some a → a.block < w.heap.size := by
  intro a ha
  rcases h.2 with ⟨h2, -⟩ | ⟨g, cap, cur, hv, -, hh, -⟩
  · injection h2 with e1; rw [ha] at e1; cases e1
  · injection hv with e1; rw [ha] at e1; injection e1 with e1; rw [e1]
    exact (Array.getElem?_eq_some_iff.1 hh).1
theorem TopV.of {w : World} {F : Nat → Prop} {t : VT} {A A' : Option Addr} {c c' : Nat} (h : OV w F t (.agg #[.int .i64 t.kind, .int .i64 t.num, .string t.text, .slice A t.items.length c, .slice A' t.names.length c'])) (hF : ∀ b, F b → b < w.heap.size) :
    ∃ xs, TopV w (Out F A A') A c A' c' t.items t.names xs := by
  obtain ⟨A1, c1, A1', c1', xs, hag, k1, k2, k3, k4, k5, k6⟩ := h.shape
  injection hag with hag; injection hag with hag
  injection hag with y0 hag; injection hag with y1 hag; injection hag with y2 hag; injection hag with y3 hag; injection hag with y4 hag
  injection y3 with e1 _ e3
  injection y4 with e4 _ e6
  subst e1 e3 e4 e6
  refine ⟨xs, k1, k2, fun a ha => ⟨fun hb => hb.2.1 a ha rfl, row_lt k2 a ha⟩, fun a ha => ⟨fun hb => hb.2.2 a ha rfl, row_lt k1 a ha⟩, k5, fun b hb => hF b hb.1, fun j hj => ?_⟩
  obtain ⟨Fs, -, m2, m3⟩ := k6.at
  obtain ⟨c0, c1, c2, c3, c4, e0, e1, e2, e3, e4, e5⟩ := m3 j hj
  exact ⟨c0, c1, c2, c3, c4, e0, e1, e2, e3, e4, (OV.lv e5).imp (m2 j)⟩
theorem TopV.imp {w : World} {S S' : Nat → Prop} {A A' : Option Addr} {c c' : Nat} {l : List VT} {ns : List ByteArray} {xs : List Value} (h : TopV w S A c A' c' l ns xs) (hS : ∀ b, S b → S' b) (h1 : ∀ a, A = some a → ¬ S' a.block) (h2 : ∀ a, A' = some a → ¬ S' a.block) (hl : ∀ b, S' b → b < w.heap.size) : TopV w S' A c A' c' l ns xs :=
  ⟨h.rn, h.ri, fun a ha => ⟨h1 a ha, (h.na a ha).2⟩, fun a ha => ⟨h2 a ha, (h.nb a ha).2⟩, h.ne, hl, fun j hj => by
    obtain ⟨c0, c1, c2, c3, c4, e0, e1, e2, e3, e4, e5⟩ := h.it j hj
    exact ⟨c0, c1, c2, c3, c4, e0, e1, e2, e3, e4, e5.imp hS⟩⟩
theorem TopV.keep {w w' : World} {S : Nat → Prop} {A A' : Option Addr} {c c' : Nat} {l : List VT} {ns : List ByteArray} {xs : List Value} (h : TopV w S A c A' c' l ns xs) (hs : w.heap.size ≤ w'.heap.size) (hk : ∀ b, S b → w'.heap[b]? = w.heap[b]?) (h1 : ∀ a, A = some a → w'.heap[a.block]? = w.heap[a.block]?) (h2 : ∀ a, A' = some a → w'.heap[a.block]? = w.heap[a.block]?) : TopV w' S A c A' c' l ns xs :=
  ⟨row_keep h.rn h2, row_keep h.ri h1, fun a ha => ⟨(h.na a ha).1, by have := (h.na a ha).2; omega⟩, fun a ha => ⟨(h.nb a ha).1, by have := (h.nb a ha).2; omega⟩, h.ne, fun b hb => by have := h.lt b hb; omega, fun j hj => by
    obtain ⟨c0, c1, c2, c3, c4, e0, e1, e2, e3, e4, e5⟩ := h.it j hj
    exact ⟨c0, c1, c2, c3, c4, e0, e1, e2, e3, e4, e5.keep hk⟩⟩
theorem TopV.lvU {U : Nat → Prop} {w : World} {S : Nat → Prop} {A A' : Option Addr} {c c' : Nat} {k i : Int} {s : ByteArray} {l : List VT} {ns : List ByteArray} {xs : List Value} (h : TopV w S A c A' c' l ns xs) (h1 : Rng k) (h2 : Rng i) (h3 : s.size ≤ 140737488351232) (h4 : l.length ≤ 1759218604390) (h5 : ns.length ≤ 8796093021952) (h6 : ∀ x ∈ ns, x.size ≤ 140737488351232) (hU : ∀ b, S b → U b) (hA : ∀ a, A = some a → U a.block) (hA' : ∀ a, A' = some a → U a.block) :
    LV w U (.mk k i s l ns) (.agg #[.int .i64 k, .int .i64 i, .string s, .slice A l.length c, .slice A' ns.length c']) := by
  refine LV.mk h1 h2 h3 h4 h5 (fun hp => ?_) (fun hp => ?_)
  · rcases h.rn.2 with ⟨-, h'⟩ | ⟨g, cap, cur, hv, -⟩
    · omega
    · injection hv with e1 e2 e3
      subst e1
      refine ⟨g, 0, rfl, hA' _ rfl, fun j hj => ⟨?_, h6 _ (List.getElem_mem hj)⟩⟩
      have := h.rn.cells (g := g) rfl j (.string ns[j]) (by simp [List.getElem?_map, List.getElem?_eq_getElem hj])
      rw [addr_at] at this
      exact this
  · rcases h.ri.2 with ⟨-, h'⟩ | ⟨g, cap, cur, hv, -⟩
    · omega
    · injection hv with e1 e2 e3
      subst e1
      refine ⟨g, 0, rfl, hA _ rfl, LVs.intro fun j hj => ?_⟩
      obtain ⟨c0, c1, c2, c3, c4, e0, e1, e2, e3, e4, e5⟩ := h.it j hj
      have hc : ∀ i v, xs[i]? = some v → w.cell? ⟨g, 0 + i, none⟩ = some v := fun i v hi => by
        have := h.ri.cells (g := g) rfl i v hi
        rw [addr_at] at this
        exact this
      exact ⟨c0, c1, c2, c3, c4, hc _ _ e0, hc _ _ e1, hc _ _ e2, hc _ _ e3, hc _ _ e4, e5.imp hU⟩
theorem getElem_append5 (xs : List Value) (c0 c1 c2 c3 c4 : Value) (n : Nat) (hn : xs.length = n * 5) (j : Nat) (hj : j < n * 5) : (xs ++ [c0, c1, c2, c3, c4])[j]? = xs[j]? := List.getElem?_append_left (by omega)
theorem TopV.push {w W : World} {S : Nat → Prop} {A A' : Option Addr} {c c' p cap : Nat} {l : List VT} {ns : List ByteArray} {xs : List Value} {x : VT} {c0 c1 c2 c3 c4 : Value} (h : TopV w S A c A' c' l ns xs) (hx : LV w S x (.agg #[c0, c1, c2, c3, c4])) (hs : w.heap.size ≤ W.heap.size)
    (hrow : W.ownsRow 0 29 5 (.slice (some ⟨p, 0, none⟩) (l.length + 1) cap) (l.length + 1) (xs ++ [c0, c1, c2, c3, c4])) (hp : A = some ⟨p, 0, none⟩ ∨ w.heap.size ≤ p) (hk : ∀ b, b < w.heap.size → (∀ a, A = some a → a.block ≠ b) → W.heap[b]? = w.heap[b]?) :
    TopV W S (some ⟨p, 0, none⟩) cap A' c' (l ++ [x]) ns (xs ++ [c0, c1, c2, c3, c4]) := by
  have hpS : ¬ S p := hp.elim (fun e => (h.na _ e).1) fun e hb => by have := h.lt _ hb; omega
  have hln : (l ++ [x]).length = l.length + 1 := by simp
  have hkS : ∀ b, S b → W.heap[b]? = w.heap[b]? := fun b hb => hk b (h.lt b hb) fun a ha e => (h.na a ha).1 (e ▸ hb)
  refine ⟨row_keep h.rn fun a ha => hk _ (h.nb a ha).2 fun a' ha' => h.ne a' a ha' ha, by rw [hln]; exact hrow, fun a ha => by cases ha; exact ⟨hpS, row_lt hrow _ rfl⟩, fun a ha => ⟨(h.nb a ha).1, by have := (h.nb a ha).2; omega⟩, fun a a' ha ha' => ?_, fun b hb => by have := h.lt b hb; omega, fun j hj => ?_⟩
  · cases ha
    rcases hp with e | e
    · exact h.ne _ a' e ha'
    · have := (h.nb a' ha').2
      show p ≠ a'.block
      omega
  · have hxl := h.ri.1
    rw [hln] at hj
    by_cases e : j = l.length
    · subst e
      refine ⟨c0, c1, c2, c3, c4, ?_, ?_, ?_, ?_, ?_, ?_⟩
      · rw [List.getElem?_append_right (by omega), hxl, Nat.sub_self]; rfl
      · rw [List.getElem?_append_right (by omega), hxl, Nat.add_sub_cancel_left]; rfl
      · rw [List.getElem?_append_right (by omega), hxl, Nat.add_sub_cancel_left]; rfl
      · rw [List.getElem?_append_right (by omega), hxl, Nat.add_sub_cancel_left]; rfl
      · rw [List.getElem?_append_right (by omega), hxl, Nat.add_sub_cancel_left]; rfl
      · rw [List.getElem_append_right (Nat.le_refl _)]
        simpa using hx.keep hkS
    · have hj' : j < l.length := by omega
      obtain ⟨d0, d1, d2, d3, d4, e0, e1, e2, e3, e4, e5⟩ := h.it j hj'
      refine ⟨d0, d1, d2, d3, d4, ?_, ?_, ?_, ?_, ?_, ?_⟩
      · rw [getElem_append5 _ _ _ _ _ _ _ hxl _ (by omega)]; exact e0
      · rw [getElem_append5 _ _ _ _ _ _ _ hxl _ (by omega)]; exact e1
      · rw [getElem_append5 _ _ _ _ _ _ _ hxl _ (by omega)]; exact e2
      · rw [getElem_append5 _ _ _ _ _ _ _ hxl _ (by omega)]; exact e3
      · rw [getElem_append5 _ _ _ _ _ _ _ hxl _ (by omega)]; exact e4
      · rw [List.getElem_append_left hj']
        exact e5.keep hkS
theorem TopV.name {w W : World} {S : Nat → Prop} {A A' : Option Addr} {c c' p cap : Nat} {l : List VT} {ns : List ByteArray} {xs : List Value} {x : ByteArray} (h : TopV w S A c A' c' l ns xs) (hs : w.heap.size ≤ W.heap.size)
    (hrow : W.ownsRow 0 9 1 (.slice (some ⟨p, 0, none⟩) (ns.length + 1) cap) (ns.length + 1) (ns.map Value.string ++ [.string x])) (hp : A' = some ⟨p, 0, none⟩ ∨ w.heap.size ≤ p) (hk : ∀ b, b < w.heap.size → (∀ a, A' = some a → a.block ≠ b) → W.heap[b]? = w.heap[b]?) :
    TopV W S A c (some ⟨p, 0, none⟩) cap l (ns ++ [x]) xs := by
  have hpS : ¬ S p := hp.elim (fun e => (h.nb _ e).1) fun e hb => by have := h.lt _ hb; omega
  have hln : (ns ++ [x]).length = ns.length + 1 := by simp
  have hkS : ∀ b, S b → W.heap[b]? = w.heap[b]? := fun b hb => hk b (h.lt b hb) fun a ha e => (h.nb a ha).1 (e ▸ hb)
  refine ⟨by rw [hln, List.map_append]; exact hrow, row_keep h.ri fun a ha => hk _ (h.na a ha).2 fun a' ha' e => h.ne a a' ha ha' e.symm, fun a ha => ⟨(h.na a ha).1, by have := (h.na a ha).2; omega⟩, fun a ha => by cases ha; exact ⟨hpS, row_lt hrow _ rfl⟩, fun a a' ha ha' => ?_, fun b hb => by have := h.lt b hb; omega, fun j hj => ?_⟩
  · cases ha'
    rcases hp with e | e
    · exact h.ne a _ ha e
    · have := (h.na a ha).2
      show a.block ≠ p
      omega
  · obtain ⟨d0, d1, d2, d3, d4, e0, e1, e2, e3, e4, e5⟩ := h.it j hj
    exact ⟨d0, d1, d2, d3, d4, e0, e1, e2, e3, e4, e5.keep hkS⟩
theorem TopV.put {w : World} {S : Nat → Prop} {A' : Option Addr} {q c c' : Nat} {l : List VT} {ns : List ByteArray} {xs : List Value} {x : VT} {c0 c1 c2 c3 c4 : Value} (h : TopV w S (some ⟨q, 0, none⟩) c A' c' l ns xs) (hx : LV w S x (.agg #[c0, c1, c2, c3, c4])) {j : Nat} (hj : j < l.length) :
    TopV (five w q (j * 5) c0 c1 c2 c3 c4) S (some ⟨q, 0, none⟩) c A' c' (l.set j x) ns (((((xs.set (j * 5) c0).set (j * 5 + 1) c1).set (j * 5 + 2) c2).set (j * 5 + 3) c3).set (j * 5 + 4) c4) := by
  have hk := five_other w q (j * 5) c0 c1 c2 c3 c4
  have hz := five_size w q (j * 5) c0 c1 c2 c3 c4
  have hqS : ¬ S q := (h.na _ rfl).1
  have hkS : ∀ b, S b → (five w q (j * 5) c0 c1 c2 c3 c4).heap[b]? = w.heap[b]? := fun b hb => hk b fun e => hqS (e ▸ hb)
  have hrow : (five w q (j * 5) c0 c1 c2 c3 c4).ownsRow 0 29 5 (.slice (some ⟨q, 0, none⟩) l.length c) l.length (((((xs.set (j * 5) c0).set (j * 5 + 1) c1).set (j * 5 + 2) c2).set (j * 5 + 3) c3).set (j * 5 + 4) c4) := by
    have h0 := (World.ownsRow.stored h.ri (j * 5) c0).1
    have h1 := (World.ownsRow.stored h0 (j * 5 + 1) c1).1
    have h2 := (World.ownsRow.stored h1 (j * 5 + 2) c2).1
    have h3 := (World.ownsRow.stored h2 (j * 5 + 3) c3).1
    exact (World.ownsRow.stored h3 (j * 5 + 4) c4).1
  have hln : (l.set j x).length = l.length := List.length_set
  have hxl := h.ri.1
  refine ⟨row_keep h.rn fun a ha => hk _ fun e => h.ne _ a rfl ha e.symm, by rw [hln]; exact hrow, fun a ha => ⟨(h.na a ha).1, by rw [hz]; exact (h.na a ha).2⟩, fun a ha => ⟨(h.nb a ha).1, by rw [hz]; exact (h.nb a ha).2⟩, h.ne, fun b hb => by rw [hz]; exact h.lt b hb, fun m hm => ?_⟩
  rw [hln] at hm
  by_cases e : m = j
  · subst e
    refine ⟨c0, c1, c2, c3, c4, ?_, ?_, ?_, ?_, ?_, ?_⟩
    · rw [List.getElem?_set_ne (by omega), List.getElem?_set_ne (by omega), List.getElem?_set_ne (by omega), List.getElem?_set_ne (by omega), List.getElem?_set_self (by omega)]
    · rw [List.getElem?_set_ne (by omega), List.getElem?_set_ne (by omega), List.getElem?_set_ne (by omega), List.getElem?_set_self (by simp only [List.length_set]; omega)]
    · rw [List.getElem?_set_ne (by omega), List.getElem?_set_ne (by omega), List.getElem?_set_self (by simp only [List.length_set]; omega)]
    · rw [List.getElem?_set_ne (by omega), List.getElem?_set_self (by simp only [List.length_set]; omega)]
    · rw [List.getElem?_set_self (by simp only [List.length_set]; omega)]
    · rw [List.getElem_set_self]
      exact hx.keep hkS
  · obtain ⟨d0, d1, d2, d3, d4, e0, e1, e2, e3, e4, e5⟩ := h.it m hm
    have hne : ∀ a b, a < 5 → b < 5 → j * 5 + a ≠ m * 5 + b := fun a b ha hb => by omega
    refine ⟨d0, d1, d2, d3, d4, ?_, ?_, ?_, ?_, ?_, ?_⟩
    · rw [List.getElem?_set_ne (by omega), List.getElem?_set_ne (by omega), List.getElem?_set_ne (by omega), List.getElem?_set_ne (by omega), List.getElem?_set_ne (by omega)]; exact e0
    · rw [List.getElem?_set_ne (by omega), List.getElem?_set_ne (by omega), List.getElem?_set_ne (by omega), List.getElem?_set_ne (by omega), List.getElem?_set_ne (by omega)]; exact e1
    · rw [List.getElem?_set_ne (by omega), List.getElem?_set_ne (by omega), List.getElem?_set_ne (by omega), List.getElem?_set_ne (by omega), List.getElem?_set_ne (by omega)]; exact e2
    · rw [List.getElem?_set_ne (by omega), List.getElem?_set_ne (by omega), List.getElem?_set_ne (by omega), List.getElem?_set_ne (by omega), List.getElem?_set_ne (by omega)]; exact e3
    · rw [List.getElem?_set_ne (by omega), List.getElem?_set_ne (by omega), List.getElem?_set_ne (by omega), List.getElem?_set_ne (by omega), List.getElem?_set_ne (by omega)]; exact e4
    · rw [List.getElem_set_ne (by omega)]
      exact e5.keep hkS
end Go.Proofs.YtnamdlljdgllmaaGreat
