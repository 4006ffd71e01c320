/- The document's Clone: an owned value. -/
import Derived.Test.YtlddhpjokiphfaaKTsE
import Derived.Test.YtlddhpjokiphfaaKOpen
namespace Go.Proofs.Ytlddhpjokiphfaa
set_option linter.unusedVariables false
set_option linter.unusedSimpArgs false
open Go.RowKit
/-- Names appended to an empty row. -/
theorem wpList_append_names {w : World} {ops : Array Oper} {rest : List Oper} {o : Oper} {a : Act} {Q : Exit → Act → World → Prop} (hgd : o.guard = none) (s x : Operand)
    (ho : o.op = .call { callee := .builtin .append, args := #[s, x], argTypes := #[23, 23] }) (g : Nat) (hs : a.eval s = .slice (some ⟨g, 0, none⟩) 0 0) (hg : w.heap[g]? = some (.cells #[] 9 (0, 0)))
    (S : Nat → Prop) (A : Option Addr) (c : Nat) (ns : List ByteArray) (hx : a.eval x = .slice A ns.length c) (hst : StrsAt w S A ns) (hl : ns.length ≤ 8796093021952)
    (h : ∀ A' c' w', ONS w' (Iv g w'.heap.size) A' c' ns → Below g w w' → wpList Try.prog ops Q rest (a.put o.dst (.slice A' ns.length c')) w') : wpList Try.prog ops Q (o :: rest) a w := by
  have hglt := (Array.getElem?_eq_some_iff.1 hg).1
  have hown : w.ownsRow g 9 1 (.slice (some ⟨g, 0, none⟩) 0 0) 0 [] := ⟨rfl, .inr ⟨g, 0, #[], rfl, Nat.le_refl _, hg, Nat.le_refl _, Nat.zero_le _, rfl, rfl⟩⟩
  obtain ⟨i0, hi, hz0, hz1, hz2⟩ := info_parts Try.infoStr
  rcases ns with _ | ⟨n0, r⟩
  · refine wpList_plain hgd fun K hK => ?_
    have hrun : (Builtin.append_ #[23, 23] o.type #[.slice (some ⟨g, 0, none⟩) 0 0, .slice A 0 c]).run Try.prog w = .ok (.slice (some ⟨g, 0, none⟩) 0 0) w := by
      cases A <;> simp [Builtin.append_, run_underlying Try.underlying23, sizeOf, typeInfo, hi, Builtin.lenOf, Builtin.firstCells, storeCells, loadCells, loadCellsFrom]
    unfold Oper.wp execOp
    simp only [ho, resolve, invoke, builtin, Sem.run_bind, Sem.run_pure, Result.andThen_ok, List.map_toArray, List.map_cons, List.map_nil, hs, hx]
    have hrun' := hrun
    simp only [List.length_nil]
    rw [hrun']
    exact hK _ _ (h (some ⟨g, 0, none⟩) 0 w ⟨⟨rfl, .inr ⟨g, 0, #[], rfl, Nat.zero_le _, hg, Nat.le_refl _, Nat.zero_le _, rfl, rfl⟩⟩, fun a ha => by cases ha; exact ⟨Nat.le_refl _, hglt⟩, fun _ h => absurd h (by simp)⟩ (Below.refl _ _))
  · obtain ⟨b, off, rfl, hb, hc⟩ := hst (by simp)
    generalize hns : n0 :: r = ns at *
    have hnw : ∀ j u, (ns.map Value.string)[j]? = some u → w.cell? ((⟨b, off, none⟩ : Addr).add j) = some u := by
      intro j u hj
      have hjl : j < ns.length := by have := (List.getElem?_eq_some_iff.1 hj).1; simpa using this
      rw [addr_at, (hc j hjl).1]
      simpa [List.getElem?_map, List.getElem?_eq_getElem hjl] using hj
    refine wpList_append_own _ hgd s x 23 ho g 9 i0 (.string ⟨#[]⟩) 1 16 Try.underlying23 hi hz0 hz1 hz2 rfl (by decide) (.slice (some ⟨g, 0, none⟩) 0 0) 0 [] hs hown ⟨b, off, none⟩ ns.length c (ns.map Value.string) hx (by simp) hnw ?_ (by unfold maxLen; omega) (by omega) (by omega) ?_
    · intro u hu; obtain ⟨_, _, rfl⟩ := List.mem_map.1 hu; rfl
    · intro v' w' hown' hgr _
      have hn0 : 0 + ns.length = ns.length := Nat.zero_add _
      rw [hn0, List.nil_append] at hown'
      obtain ⟨A', c', rfl, hst'⟩ := ons_of_row hown' (fun s hs => by obtain ⟨i, hi, rfl⟩ := List.mem_iff_getElem.1 hs; exact (hc i hi).2)
      exact h A' c' w' hst' (below_of_grown (B := g) hgr (by omega) (fun k hk => by simp only [Value.ownBlock, Option.some.injEq] at hk; omega))
def RCloneO (n : Nat) : Prop := ∀ (S : Nat → Prop) (t : VT) (v : Value) (w : World), depthT t ≤ n → (∀ b, S b → b < w.heap.size) → LV w S t v →
  Calls Try.prog 17 #[v] w fun e w' => ∃ v', e = .returned v' ∧ OV w' (Iv w.heap.size w'.heap.size) t v' ∧ Below w.heap.size w w'
end Go.Proofs.Ytlddhpjokiphfaa

/- The document's Clone: an owned value; the walk. -/
namespace Go.Proofs.Ytlddhpjokiphfaa
set_option linter.unusedVariables false
set_option linter.unusedSimpArgs false
open Go.RowKit
theorem OAt.imp {w : World} {F F' : Nat → Prop} {t : VT} {g o : Nat} (h : OAt w F t g o) (hF : ∀ b, F b → F' b) (hg : ¬ F' g) (hlt : ∀ b, F' b → b < w.heap.size) : OAt w F' t g o := by
  obtain ⟨C, ty, A, c, A', c', h0, h1, h2, h3, h4, h5, h6, -, -⟩ := h
  exact ⟨C, ty, A, c, A', c', h0, h1, h2, h3, h4, h5, h6.imp hF, hg, hlt⟩
/-- A box is an owned value without items. -/
theorem oat_start {w : World} {g : Nat} {k i : Int} {s : ByteArray} {A' : Option Addr} {c' : Nat} {ns : List ByteArray} {F : Nat → Prop} (hb : Box w g (.int .i64 k) (.int .i64 i) (.string s) (.slice none 0 0) (.slice A' ns.length c')) (h : ONS w F A' c' ns) (h1 : Rng k) (h2 : Rng i) (h3 : s.size ≤ 140737488351232) (hl : ns.length ≤ 8796093021952) (hg : ¬ F g) (hlt : ∀ b, F b → b < w.heap.size) :
    OAt w F (.mk k i s [] ns) g 0 :=
  ⟨_, _, none, 0, A', c', hb, rfl, rfl, rfl, rfl, rfl, OV.mk h1 h2 h3 (Nat.zero_le _) hl h.2.2 h.1 (World.ownsRow_nil _ _ _ _) h.2.1 (fun _ h => by cases h) (fun _ _ h => by cases h) (ovs_nil _ _), hg, hlt⟩
theorem take_one (l : List VT) (j : Nat) (h : j < l.length) : l.take j ++ [l[j]] = l.take (j + 1) := by rw [List.take_succ_eq_append_getElem h]
set_option maxHeartbeats 4000000 in
set_option maxRecDepth 100000 in
theorem rclone_step {n : Nat} (hcl : RCloneO n) : RCloneO (n + 1) := by
  intro S t v w hd hS h
  have HLEN := Lib.hid h.lens
  obtain ⟨A, c, A', c', rfl, k1, k2, k3, k4, k5, k6, k7⟩ := h.shape
  clear h
  cases t with
  | mk k i s l ns =>
  simp only [VT.kind, VT.num, VT.text, VT.items, VT.names] at *
  have HK := Lib.hid (And.intro k1 (And.intro k2 k3))
  have hdl : depthL l ≤ n := by rw [depthT_mk] at hd; omega
  have HDL := Lib.hid hdl
  have K7 := Lib.hid k7
  have HS := Lib.hid hS
  have K6 := Lib.hid k6
  clear k1 k2 k3 k4 k5 k6 k7 hdl hd
  obtain ⟨W3, hW3⟩ : ∃ W3, W3 = (((w.alloc (.cells #[.int .i64 k, .int .i64 i, .string s, .slice A l.length c, .slice A' ns.length c'] 25)).alloc (.cells #[.int .i64 0, .int .i64 0, .string ⟨#[]⟩, .slice none 0 0, .slice none 0 0] 25)).alloc (.cells #[.int .i64 k, .int .i64 i, .string s, .slice A l.length c, .slice A' ns.length c'] 25)).alloc (.cells #[] 9) := ⟨_, rfl⟩
  have hb0 : Below w.heap.size w W3 := by
    rw [hW3]
    exact (((below_box _).alloc (by simp) _).alloc (by simp; omega) _).alloc (by simp; omega) _
  have hz3 : W3.heap.size = w.heap.size + 4 := by rw [hW3]; simp
  have hX : Box W3 w.heap.size (.int .i64 k) (.int .i64 i) (.string s) (.slice A l.length c) (.slice A' ns.length c') := by
    rw [hW3]
    exact (((Box.new _ _ _ _ _).alloc _).alloc _).alloc _
  have hY : Box W3 (w.heap.size + 1) (.int .i64 0) (.int .i64 0) (.string ⟨#[]⟩) (.slice none 0 0) (.slice none 0 0) := by
    have := Box.new (w := (w.alloc (.cells #[.int .i64 k, .int .i64 i, .string s, .slice A l.length c, .slice A' ns.length c'] 25))) (.int .i64 0) (.int .i64 0) (.string ⟨#[]⟩) (.slice none 0 0) (.slice none 0 0)
    rw [hW3]
    have := (this.alloc (.cells #[.int .i64 k, .int .i64 i, .string s, .slice A l.length c, .slice A' ns.length c'] 25)).alloc (.cells #[] 9)
    simpa using this
  have hZ : Box W3 (w.heap.size + 2) (.int .i64 k) (.int .i64 i) (.string s) (.slice A l.length c) (.slice A' ns.length c') := by
    have := Box.new (w := ((w.alloc (.cells #[.int .i64 k, .int .i64 i, .string s, .slice A l.length c, .slice A' ns.length c'] 25)).alloc (.cells #[.int .i64 0, .int .i64 0, .string ⟨#[]⟩, .slice none 0 0, .slice none 0 0] 25))) (.int .i64 k) (.int .i64 i) (.string s) (.slice A l.length c) (.slice A' ns.length c')
    rw [hW3]
    have := this.alloc (.cells #[] 9)
    simpa using this
  have hE : W3.heap[w.heap.size + 3]? = some (.cells #[] 9 (0, 0)) := by
    have := heap_alloc_new (((w.alloc (.cells #[.int .i64 k, .int .i64 i, .string s, .slice A l.length c, .slice A' ns.length c'] 25)).alloc (.cells #[.int .i64 0, .int .i64 0, .string ⟨#[]⟩, .slice none 0 0, .slice none 0 0] 25)).alloc (.cells #[.int .i64 k, .int .i64 i, .string s, .slice A l.length c, .slice A' ns.length c'] 25)) (.cells #[] 9)
    rw [hW3]
    simpa using this
  have k6 := K6.out.keep (w' := W3) fun b hb => hb0.block b (hS b hb)
  have HAP := Lib.hid (And.intro hE k6)
  have HBX := Lib.hid (And.intro hX (And.intro hY hZ))
  have HB0 := Lib.hid hb0
  have HZ3 := Lib.hid hz3
  have HW3 := Lib.hid hW3
  clear hX hY hZ hE k6 hb0 hz3 hW3 K6
  go_enter Try.func17, Try.ntmps17
  go_wp2_with (at_builtin; go_must (rw [← HW3.out]; refine wpList_append_names rfl _ _ rfl (w.heap.size + 3) rfl HAP.out.1 S A' c' ns rfl HAP.out.2 HLEN.out.2 ?_))
  intro A3 c3 w4 hst hb4
  obtain ⟨h, hh⟩ : ∃ h, h = w.heap.size := ⟨_, rfl⟩
  have hX4 := HBX.out.1.below hb4 (by omega)
  have hY4 := HBX.out.2.1.below hb4 (by omega)
  have hZ4 := HBX.out.2.2.below hb4 (by omega)
  have HB4 : Hid (Below w.heap.size w w4) := Lib.hid (HB0.out.trans (hb4.mono (by omega)))
  have hz4 : w.heap.size + 4 ≤ w4.heap.size := by have := hb4.size; have := HZ3.out; omega
  have HST := Lib.hid hst
  clear hst hb4 HBX HAP HB0 HZ3 HW3
  rw [← hh] at hX4 hY4 hZ4 HST hz4 ⊢
  have HH := Lib.hid hh
  clear hh
  have x3 := hX4.c3
  have z3 := hZ4.c3
  have z4 := hZ4.c4
  have zf3 := hZ4.free 3
  have zf4 := hZ4.free 4
  obtain ⟨W5, hW5⟩ : ∃ W5, W5 = (w4.setCell ⟨h + 2, 4, none⟩ (.slice A3 ns.length c3)).setCell ⟨h + 2, 3, none⟩ (.slice none 0 0) := ⟨_, rfl⟩
  have hX5 : Box W5 h (.int .i64 k) (.int .i64 i) (.string s) (.slice A l.length c) (.slice A' ns.length c') := by rw [hW5]; exact (hX4.far (p := ⟨h + 2, 4, none⟩) (by simp) _).far (p := ⟨h + 2, 3, none⟩) (by simp) _
  have hY5 : Box W5 (h + 1) (.int .i64 0) (.int .i64 0) (.string ⟨#[]⟩) (.slice none 0 0) (.slice none 0 0) := by rw [hW5]; exact (hY4.far (p := ⟨h + 2, 4, none⟩) (by simp) _).far (p := ⟨h + 2, 3, none⟩) (by simp) _
  have hZ5 : Box W5 (h + 2) (.int .i64 k) (.int .i64 i) (.string s) (.slice none 0 0) (.slice A3 ns.length c3) := by rw [hW5]; exact (hZ4.set4 _).set3 _
  have hz5 : W5.heap.size = w4.heap.size := by rw [hW5]; simp
  have hk5 : ∀ b, b ≠ h + 2 → W5.heap[b]? = w4.heap[b]? := fun b hb => by rw [hW5]; exact (Below.heap_setCell _ ⟨h + 2, 3, none⟩ _ b hb).trans (Below.heap_setCell _ ⟨h + 2, 4, none⟩ _ b hb)
  have HB5 : Hid (Below w.heap.size w W5) := Lib.hid (by rw [hW5]; exact (HB4.out.setCell (by have := HH.out; simp; omega) _).setCell (by have := HH.out; simp; omega) _)
  have HO5 : Hid (OAt W5 (Iv (h + 3) W5.heap.size) (.mk k i s [] ns) (h + 2) 0) := Lib.hid (by
    refine oat_start hZ5 ((HST.out.keep (w' := W5) fun b hb => hk5 b (by have := hb.1; omega)).imp fun b hb => ⟨hb.1, by rw [hz5]; exact hb.2⟩) HK.out.1 HK.out.2.1 HK.out.2.2 HLEN.out.2 (fun e => by have := e.1; omega) fun b hb => hb.2)
  have HXY := Lib.hid (And.intro hX5 hY5)
  have EW := Lib.hid hW5
  clear hW5 hX4 hY4 hZ4 hX5 hY5 hZ5 hz5 hk5 HB4 HST
  go_wp2_with fail
  rw [← EW.out]
  clear z3 z4 zf3 zf4 x3 EW
  have hxl := HXY.out.1.lt
  go_loopw [4] (fun i0 wr => ∃ (j : Nat) (T : VT), i0 = .int .i64 j ∧ j ≤ l.length ∧ Hid (T = .mk k i s (l.take j) ns ∧ OAt wr (Iv (h + 3) wr.heap.size) T (h + 2) 0 ∧ Below w.heap.size w wr ∧ Box wr h (.int .i64 k) (.int .i64 i) (.string s) (.slice A l.length c) (.slice A' ns.length c') ∧ Box wr (h + 1) (.int .i64 0) (.int .i64 0) (.string ⟨#[]⟩) (.slice none 0 0) (.slice none 0 0))) (fun i0 _ => l.length - (intOf i0).toNat)
  case atStart => exact ⟨0, _, rfl, Nat.zero_le _, Lib.hid ⟨rfl, by simpa using HO5.out, HB5.out, HXY.out.1, HXY.out.2⟩⟩
  case round =>
    obtain ⟨j, T, rfl, hj, HI⟩ := hrel
    have x3 := HI.out.2.2.2.1.c3
    by_cases hlt : j < l.length
    · clear HXY HO5 HB5
      go_wp2_with fail
      have hdr : Below wr.heap.size wr wr.drew := (Below.refl _ _).drew
      have HI2 : Hid (T = .mk k i s (l.take j) ns ∧ OAt wr.drew (Iv (h + 3) wr.drew.heap.size) T (h + 2) 0 ∧ Below w.heap.size w wr.drew ∧ Box wr.drew h (.int .i64 k) (.int .i64 i) (.string s) (.slice A l.length c) (.slice A' ns.length c') ∧ Box wr.drew (h + 1) (.int .i64 0) (.int .i64 0) (.string ⟨#[]⟩) (.slice none 0 0) (.slice none 0 0)) :=
        Lib.hid ⟨HI.out.1, HI.out.2.1.keep hdr, HI.out.2.2.1.trans (hdr.mono HI.out.2.2.1.size), HI.out.2.2.2.1.call hdr, HI.out.2.2.2.2.call hdr⟩
      clear HI x3 hdr
      have HI := HI2
      clear HI2
      generalize hwd : wr.drew = wd at *
      have x3 := HI.out.2.2.2.1.c3
      have hjT : T.items.length = j := by rw [HI.out.1]; show (l.take j).length = j; rw [List.length_take]; omega
      have hTl : T.items.length < 1759218604390 := by have := HLEN.out.1; omega
      have hwh : w.heap.size = h := HH.out.symm
      obtain ⟨b, off, rfl, hb, hls⟩ := K7.out (by omega)
      obtain ⟨d0, d1, d2, d3, d4, h0, h1, h2, h3, h4, hx⟩ := hls.at j hlt
      obtain ⟨A2, e2, A6, e6, hag, -⟩ := hx.shape
      injection hag with hag; injection hag with hag
      injection hag with y0 hag; injection hag with y1 hag; injection hag with y2 hag; injection hag with y3 hag; injection hag with y4 hag
      subst y0 y1 y2 y3 y4
      have hbw := HI.out.2.2.1
      have hbS := HS.out b hb
      have IH := Lib.hid (hcl S l[j] _ wd (Nat.le_trans (depthL_le (List.getElem_mem hlt)) HDL.out) (sub_below HS.out hbw) (hx.below HS.out hbw))
      have hw : ∀ o, wd.cell? ⟨b, o, none⟩ = w.cell? ⟨b, o, none⟩ := fun o => hbw.cell (p := ⟨b, o, none⟩) hbS
      rw [← hw] at h0 h1 h2 h3 h4
      obtain ⟨AV, cV, xs, hc3, hrowV, hAV, hnext⟩ := HI.out.2.1.addItem
      rw [hjT] at hc3 hrowV hnext hTl
      clear hjT
      have hgl := HI.out.2.1.lt
      have hGV : h + 3 ≤ blkOr AV wd.heap.size := by
        cases hA : AV with
        | none => show h + 3 ≤ wd.heap.size; omega
        | some a => exact (hAV a hA).1.1
      have hGV1 : ∀ a, AV = some a → blkOr AV wd.heap.size = a.block := fun a h => blkOr_some a h
      generalize blkOr AV wd.heap.size = GV at *
      refine wp_region_OT (Keep2 GV GV) (Keep2.refl _ _) (Keep2.trans _ _) [11] (.pure [0, 1, 2, 3, 4, 5, 6] (.step 7 (.step 8 (.step 9 (.step 10 (.step 11 (.tail []))))))) (by kernel_rfl) (by kernel_rfl) (fun _ d _ _ _ h => by cases d <;> exact h) ?_
      rw [hwd]
      clear hwd
      have kq : ∀ (p : LaterR (Keep2 GV GV) wd) (q o : Nat), q < h + 3 → p.u.cell? ⟨q, o, none⟩ = wd.cell? ⟨q, o, none⟩ := fun p q o hq => World.cell?_of_block (a := ⟨q, o, none⟩) (p.h.2 q (by omega) (by omega) (by omega))
      have q3 : ∀ p : LaterR (Keep2 GV GV) wd, p.u.cell? ⟨h + 1 + 1, 3, none⟩ = some (.slice AV j cV) := fun p => (kq p (h + 2) 3 (by omega)).trans hc3
      have x3' := fun p : LaterR (Keep2 GV GV) wd => (kq p h 3 (by omega)).trans x3
      have m0 := fun p : LaterR (Keep2 GV GV) wd => (kq p b _ (by omega)).trans h0
      have m1 := fun p : LaterR (Keep2 GV GV) wd => (kq p b _ (by omega)).trans h1
      have m2 := fun p : LaterR (Keep2 GV GV) wd => (kq p b _ (by omega)).trans h2
      have m3 := fun p : LaterR (Keep2 GV GV) wd => (kq p b _ (by omega)).trans h3
      have m4 := fun p : LaterR (Keep2 GV GV) wd => (kq p b _ (by omega)).trans h4
      have HRV := Lib.hid hrowV
      have HAV := Lib.hid hAV
      have HNX := Lib.hid hnext
      have HC3 := Lib.hid hc3
      have HGV := Lib.hid (And.intro hGV1 hGV)
      have hjl : (j : Int) < (l.length : Int) := by omega
      clear hrowV hAV hnext hc3 hGV1 hGV kq h0 h1 h2 h3 h4 hx hw x3 hbw
      refine ot_pure ?_
      simp only [atNats, List.filterMap_cons, List.filterMap_nil, List.getElem?_toArray, List.getElem?_cons_succ, List.getElem?_cons_zero]
      show wpQuiet _ _ _ _ [_, _, _, _, _, _, _] _
      try simp only [List.getElem_toArray, List.getElem_cons_succ, List.getElem_cons_zero, Act.put, List.setIfInBounds_toArray, List.set_cons_succ, List.set_cons_zero]
      repeat (go_big_quiet_step (fail))
      refine wpQuiet_nil ?_
      clear q3 x3' m0 m1 m2 m3 m4
      refine ot_step rfl (fun K hK => ?_)
      go_simp
      refine IH.out.mono ?_
      rintro e w3 ⟨v', rfl, hv, hb3⟩
      obtain ⟨A4, e4, A5, e5, xs4, rfl, -⟩ := hv.shape
      refine hK _ _ (.inr (Keep2.of hb3)) ?_
      clear hK K IH
      refine ot_step rfl (fun K hK => ?_)
      go_simp
      refine hK _ _ (.inr ⟨by simp, fun q hq _ _ => Below.heap_alloc _ _ _ hq⟩) ?_
      clear hK K
      have hc1 := heap_alloc_new w3 (.cells #[.int .i64 l[j].kind, .int .i64 l[j].num, .string l[j].text, .slice A4 l[j].items.length e4, .slice A5 l[j].names.length e5] 25)
      have hbc3 : Below w3.heap.size w3 (w3.alloc (.cells #[.int .i64 l[j].kind, .int .i64 l[j].num, .string l[j].text, .slice A4 l[j].items.length e4, .slice A5 l[j].names.length e5] 25)) := below_box _
      have hzc : (w3.alloc (.cells #[.int .i64 l[j].kind, .int .i64 l[j].num, .string l[j].text, .slice A4 l[j].items.length e4, .slice A5 l[j].names.length e5] 25)).heap.size = w3.heap.size + 1 := by simp
      generalize w3.alloc (.cells #[.int .i64 l[j].kind, .int .i64 l[j].num, .string l[j].text, .slice A4 l[j].items.length e4, .slice A5 l[j].names.length e5] 25) = wc at *
      have hz3 := hb3.size
      have hbc : Below wd.heap.size wd wc := hb3.trans (hbc3.mono hz3)
      have hvc := hv.keep (w' := wc) fun q hq => hbc3.block q hq.2
      have HVC := Lib.hid (And.intro hvc hbc)
      have hown1 := row_keep (w' := wc) HRV.out fun a ha => hbc.block _ (HAV.out a ha).2.1
      have hxl : xs.length = j * 5 := HRV.out.1
      refine ot_act rfl rfl (fun K hK => ?_)
      obtain ⟨i0, hi, hi0, hi1, hi2⟩ := info_parts Try.infoVal
      refine wp_append_moved _ _ _ 22 rfl 0 25 i0 _ 5 80 Try.underlying22 hi hi0 hi1 hi2 rfl (by decide) (.slice AV j cV) j xs rfl hown1 ⟨w3.heap.size, 0, none⟩ 1 1 [.int .i64 l[j].kind, .int .i64 l[j].num, .string l[j].text, .slice A4 l[j].items.length e4, .slice A5 l[j].names.length e5] rfl rfl ?_ ?_ (by unfold maxLen; omega) (by omega) (by omega) ?_
      · intro j' x hj'
        rw [add_at, Nat.zero_add]
        exact (Go.Joins.cell_of_block hc1 j').trans (by simpa using hj')
      · intro x hx
        simp only [List.mem_cons, List.not_mem_nil, or_false] at hx
        rcases hx with rfl | rfl | rfl | rfl | rfl <;> rfl
      intro v2 w7 hown2 hg2 hmv
      obtain ⟨p2, cap2, rfl⟩ : ∃ p cap, v2 = .slice (some ⟨p, 0, none⟩) (j + 1) cap := by
        rcases hown2.2 with ⟨-, h0⟩ | ⟨p, cap, cur, h1, h2, -⟩
        · omega
        · exact ⟨p, cap, h1⟩
      have hpw : AV = some ⟨p2, 0, none⟩ ∨ wc.heap.size ≤ p2 := by
        rcases hmv with h | ⟨q, h1, h2⟩
        · left
          cases hA : AV with
          | none => rw [hA] at h; simp [Value.ownBlock] at h
          | some a =>
            rw [hA] at h
            simp only [Value.ownBlock, Option.some.injEq] at h
            rw [row_at HRV.out a hA, ← h]
        · right
          simp only [Value.ownBlock, Option.some.injEq] at h2
          omega
      have hoN : ∀ q, q < wc.heap.size → (∀ a, AV = some a → a.block ≠ q) → w7.heap[q]? = wc.heap[q]? := fun q hq hne => hg2.block q (by omega) (fun e => by
        cases hA : AV with
        | none => rw [hA] at e; simp [Value.ownBlock] at e
        | some a => rw [hA] at e; simp only [Value.ownBlock, Option.some.injEq] at e; exact hne a hA e.symm)
      have hz7 : wc.heap.size ≤ w7.heap.size := hg2.size
      refine hK _ _ (.inr ⟨hg2.size, fun q hq hne _ => hg2.block q hq (fun e => by
        cases hA : AV with
        | none => rw [hA] at e; simp [Value.ownBlock] at e
        | some a => rw [hA] at e; simp only [Value.ownBlock, Option.some.injEq] at e; exact hne (e.trans (HGV.out.1 a hA).symm))⟩) ?_
      clear hK K
      simp only [List.getElem_toArray, List.getElem_cons_succ, List.getElem_cons_zero, Act.put, List.setIfInBounds_toArray, List.set_cons_succ, List.set_cons_zero]
      have hw7 : w7.os = wd.os ∧ w7.tape = wd.tape ∧ w7.output = wd.output := ⟨hg2.os.trans hbc.os, hg2.tape.trans hbc.tape, hg2.output.trans hbc.output⟩
      obtain ⟨Cg, tyg, hCg⟩ : ∃ C ty, wd.heap[h + 2]? = some (.cells C ty (0, 0)) := by
        obtain ⟨C, ty, _, _, _, _, hg, _⟩ := HI.out.2.1
        exact ⟨C, ty, hg⟩
      have hFge : ∀ a, AV = some a → h + 3 ≤ a.block := fun a ha => (HAV.out a ha).1.1
      have hgk := (hoN (h + 2) (by omega) (fun a ha => by have := hFge a ha; omega)).trans (hbc.block (h + 2) (by omega))
      have hg2' := hgk.trans hCg
      have hd3 : w7.cell? ⟨h + 2, 3, none⟩ = some (.slice AV j cV) := (World.cell?_of_block (a := ⟨h + 2, 3, none⟩) hgk).trans HC3.out
      have hf3 := Go.Joins.unfrozen_of_block hg2' 3
      have HW7 := Lib.hid (And.intro hown2 (And.intro hpw (And.intro hoN hw7)))
      have HCG := Lib.hid (And.intro hCg hg2')
      clear hc1 hown1 hown2 hg2 hmv hoN hw7 hCg hg2' hgk hbc hvc hv hb3 hbc3
      refine ot_step rfl (fun K hK => ?_)
      go_simp
      refine hK _ _ (.inr (Keep2.refl _ _ _)) ?_
      clear hK K
      refine ot_step rfl (fun K hK => ?_)
      go_simp
      refine hK _ _ (.inl (by decide)) ?_
      clear hK K hd3 hf3
      refine ot_end ?_
      have hpg : h + 3 ≤ p2 := by
        rcases hpw with h' | h'
        · exact hFge _ h'
        · omega
      have hgW : (w7.setCell ⟨h + 2, 3, none⟩ (.slice (some ⟨p2, 0, none⟩) (j + 1) cap2)).heap[h + 2]? = some (.cells (Cg.setIfInBounds 3 (.slice (some ⟨p2, 0, none⟩) (j + 1) cap2)) tyg (0, 0)) := Go.Joins.block_setCell (i := 3) HCG.out.2 _
      have hoW : ∀ q, q ≠ h + 2 → (w7.setCell ⟨h + 2, 3, none⟩ (.slice (some ⟨p2, 0, none⟩) (j + 1) cap2)).heap[q]? = w7.heap[q]? := fun q hq => heap_setCell_other _ ⟨h + 2, 3, none⟩ q _ hq
      have hzW : (w7.setCell ⟨h + 2, 3, none⟩ (.slice (some ⟨p2, 0, none⟩) (j + 1) cap2)).heap.size = w7.heap.size := by simp
      have hrW : (w7.setCell ⟨h + 2, 3, none⟩ (.slice (some ⟨p2, 0, none⟩) (j + 1) cap2)).os = w7.os ∧ (w7.setCell ⟨h + 2, 3, none⟩ (.slice (some ⟨p2, 0, none⟩) (j + 1) cap2)).tape = w7.tape ∧ (w7.setCell ⟨h + 2, 3, none⟩ (.slice (some ⟨p2, 0, none⟩) (j + 1) cap2)).output = w7.output := ⟨rfl, rfl, rfl⟩
      try change Exit.then _ _ _ _ (w7.setCell ⟨h + 2, 3, none⟩ (.slice (some ⟨p2, 0, none⟩) (j + 1) cap2))
      generalize w7.setCell ⟨h + 2, 3, none⟩ (.slice (some ⟨p2, 0, none⟩) (j + 1) cap2) = w8 at *
      have hown8 := row_keep (w' := w8) HW7.out.1 fun a ha => by cases ha; exact hoW p2 (by omega)
      have HF : Hid (addI T l[j] = .mk k i s (l.take (j + 1)) ns ∧ OAt w8 (Iv (h + 3) w8.heap.size) (addI T l[j]) (h + 2) 0 ∧ Below w.heap.size w w8 ∧ Box w8 h (.int .i64 k) (.int .i64 i) (.string s) (.slice (some ⟨b, off, none⟩) l.length c) (.slice A' ns.length c') ∧ Box w8 (h + 1) (.int .i64 0) (.int .i64 0) (.string ⟨#[]⟩) (.slice none 0 0) (.slice none 0 0)) := Lib.hid (by
        obtain ⟨hown2, -, hoN, e1', e2', e3'⟩ := HW7.out
        obtain ⟨hvc, hbc⟩ := HVC.out
        have hlow : ∀ q, q < h + 2 → w8.heap[q]? = wd.heap[q]? := fun q hq => (hoW q (by omega)).trans ((hoN q (by omega) (fun a ha => by have := hFge a ha; omega)).trans (hbc.block q (by omega)))
        have hnA : ∀ q, Iv wd.heap.size w3.heap.size q → ∀ a, AV = some a → a.block ≠ q := fun q hq a ha e => by have := (HAV.out a ha).2.1; have := hq.1; omega
        have hpv : ∀ q, Iv wd.heap.size w3.heap.size q → q ≠ p2 := by
          intro q hq e
          rcases hpw with h' | h'
          · exact hnA q hq _ h' e.symm
          · have := hq.2; omega
        obtain ⟨F6, q1, q2, q3⟩ := HNX.out wd.heap.size w8 p2 cap2 l[j] _ _ _ _ _ (Iv wd.heap.size w3.heap.size) (Nat.le_refl _) hTl (fun C ty hC => by
            have e := HCG.out.1.symm.trans hC
            injection e with e
            injection e with e1 e2
            subst e1 e2
            exact hgW) hown8 (hpw.imp id fun h' => by omega) (fun q hq hqg hqa => (hoW q hqg).trans ((hoN q (by omega) hqa).trans (hbc.block q hq)))
            (hvc.keep fun q hq => (hoW q (by have := hq.1; omega)).trans (hoN q (by have := hq.2; omega) (hnA q hq)))
            (fun q hq => ⟨hq.1, by have := hq.2; omega, hpv q hq, fun e => by have := e.2; have := hq.1; omega, by have := hq.1; omega⟩) (by omega) (hrW.1.trans e1') (hrW.2.1.trans e2') (hrW.2.2.trans e3')
        have hF6 : ∀ q, F6 q → q < w8.heap.size := by
          obtain ⟨_, _, _, _, _, _, _, _, _, _, _, _, _, _, hlt⟩ := q2
          exact hlt
        refine ⟨?_, q2.imp (fun q hq => ⟨(q1 q hq).elim (fun e => e.1) (fun e => by omega), hF6 q hq⟩) (fun e => by have := e.1; omega) (fun q hq => hq.2), ?_, (hlow h (by omega)).trans HI.out.2.2.2.1, (hlow (h + 1) (by omega)).trans HI.out.2.2.2.2⟩
        · rw [HI.out.1]
          show VT.mk k i s (l.take j ++ [l[j]]) ns = _
          rw [take_one]
        · exact ⟨(hrW.1.trans e1').trans HI.out.2.2.1.os, (hrW.2.1.trans e2').trans HI.out.2.2.1.tape, (hrW.2.2.trans e3').trans HI.out.2.2.1.output, by have := HI.out.2.2.1.size; omega, fun q hq => (hlow q (by omega)).trans (HI.out.2.2.1.block q hq)⟩)
      clear hgW hoW hzW hrW hown8 HW7 HCG HVC HNX HAV HRV HC3 HGV hFge
      go_wp2_with fail
      go_roundw
      case rel => exact ⟨j + 1, _, by go_num, by omega, HF.out⟩
      case measure => simp [intOf]; omega
    · obtain ⟨C, ty, A7, c7, A8, c8, hg, g0, g1, g2, g3, g4, hov, -, -⟩ := HI.out.2.1
      obtain rfl : j = l.length := by omega
      have hT := HI.out.1
      rw [List.take_length] at hT
      subst hT
      have y0 : wr.cell? ⟨h + 2, 0, none⟩ = some (.int .i64 k) := (Go.Joins.cell_of_block hg 0).trans g0
      have y1 : wr.cell? ⟨h + 2, 1, none⟩ = some (.int .i64 i) := (Go.Joins.cell_of_block hg 1).trans g1
      have y2 : wr.cell? ⟨h + 2, 2, none⟩ = some (.string s) := (Go.Joins.cell_of_block hg 2).trans g2
      have y3 : wr.cell? ⟨h + 2, 3, none⟩ = some (.slice A7 l.length c7) := (Go.Joins.cell_of_block hg 3).trans g3
      have y4 : wr.cell? ⟨h + 2, 4, none⟩ = some (.slice A8 ns.length c8) := (Go.Joins.cell_of_block hg 4).trans g4
      have hY := HI.out.2.2.2.2
      have z0 := hY.c0
      have z1 := hY.c1
      have z2 := hY.c2
      have z3 := hY.c3
      have z4 := hY.c4
      have zf0 := hY.free 0
      have zf1 := hY.free 1
      have zf2 := hY.free 2
      have zf3 := hY.free 3
      have zf4 := hY.free 4
      have HY := Lib.hid hY
      have HOV := Lib.hid hov
      clear hg g0 g1 g2 g3 g4 hov hY
      go_wp2_with fail
      (try simp only [Exit.inBlock, Exit.then])
      have FIN := ((((HY.out.set0 (.int .i64 k)).set1 (.int .i64 i)).set2 (.string s)).set3 (.slice A7 l.length c7)).set4 (.slice A8 ns.length c8)
      have hk : ∀ b, h + 2 ≤ b → (set5 wr (h + 1) 0 (.int .i64 k) (.int .i64 i) (.string s) (.slice A7 l.length c7) (.slice A8 ns.length c8)).heap[b]? = wr.heap[b]? := fun b hb => set5_block _ _ _ _ _ (by omega)
      have hbw := set5_below (p := 0) (.int .i64 k) (.int .i64 i) (.string s) (.slice A7 l.length c7) (.slice A8 ns.length c8) HI.out.2.2.1 (G := h + 1) (by have := HH.out; omega)
      refine bodyPost_ret (results_cell_row rfl _ _ (h + 1) 25 _ (0, 0) _ rfl FIN Try.underlying25 rfl (by kernel_rfl)) rfl ?_
      have hh := HH.out
      have hsz := set5_size wr (h + 1) 0 (.int .i64 k) (.int .i64 i) (.string s) (.slice A7 l.length c7) (.slice A8 ns.length c8)
      exact ⟨_, rfl, (HOV.out.keep fun b hb => hk b (by have := hb.1; omega)).imp fun b hb => ⟨by have := hb.1; omega, Nat.lt_of_lt_of_le hb.2 (Nat.le_of_eq hsz.symm)⟩, hbw⟩
theorem rclone_ok : ∀ n, RCloneO n
  | 0 => fun S t v w hd _ _ => by cases t; rw [depthT_mk] at hd; omega
  | n + 1 => rclone_step (rclone_ok n)
/-- The document's Clone yields an owned value in new blocks. -/
theorem rclone_any (S : Nat → Prop) (t : VT) (v : Value) (w : World) (hS : ∀ b, S b → b < w.heap.size) (h : LV w S t v) :
    Calls Try.prog 17 #[v] w fun e w' => ∃ v', e = .returned v' ∧ OV w' (Iv w.heap.size w'.heap.size) t v' ∧ Below w.heap.size w w' := rclone_ok (depthT t) S t v w (Nat.le_refl _) hS h
end Go.Proofs.Ytlddhpjokiphfaa
