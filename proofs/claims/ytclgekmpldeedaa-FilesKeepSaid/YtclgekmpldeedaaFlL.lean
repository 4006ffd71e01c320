/- Sync, whole. -/
import Derived.Test.YtclgekmpldeedaaFlK
namespace Go.Proofs.Ytclgekmpldeedaa
set_option linter.unusedVariables false
set_option linter.unusedSimpArgs false
open Go.RowKit Go.Maps
set_option maxRecDepth 100000
theorem enters_sync1 : EntersF 27 := fun _ _ => by simp [callFunc, go_sem, Try.func27, Try.f27]
theorem snc_ref {M : DiskM} {s : ByteArray} (h : refM M [s] ≠ 0) : M.snc s.data.toList = (refM M [s], M) := by
  unfold refM at h ⊢
  unfold DiskM.snc
  cases hg : M.gone
  · rw [hg] at h
    cases hb : badNm s.data.toList
    · exact absurd (by simp [hb]) h
    · simp [hb]
  · simp
section
variable {w : World} {Ft : Nat → Prop} {d m : Nat} {gs : List UInt8 → Option Nat} {rv : List UInt8 → Value} {D : DataW Unit} {M : DiskM}
set_option maxHeartbeats 2000000 in
theorem sync1_any (h : DiskAt w Ft d m gs rv D M) (hlt : ∀ b, Ft b → b < w.heap.size) {nm : List UInt8} {g : Nat} (hg : gs nm = some g) {f : FileM} (hf : M.fs nm = some f) (p : Nat) (hp : w.heap[p]? = some (.cells #[.pointer (some ⟨g, 0, none⟩)] 54 (0, 0))) :
    Calls Try.prog 27 #[.pointer (some ⟨p, 0, none⟩)] w (Retd (PutR w Ft d (M.put nm ⟨f.b, f.b.length⟩))) := by
  have hF := h.file nm g f hg hf
  obtain ⟨A2, c2, hrv⟩ := hF.own.rdY.shapeY
  have hF0 := hF.c0
  rw [hrv] at hF0
  obtain ⟨n2, hnn⟩ : ∃ x, x = f.b.length := ⟨_, rfl⟩
  have HN := Lib.hid hnn
  rw [← hnn] at hF0 hrv
  have hb2 := setCell_one hF.blk 1 (.int .i64 (n2 : Int))
  have hk2 : ∀ b, b ≠ g → (w.setCell ⟨g, 1, none⟩ (.int .i64 (n2 : Int))).heap[b]? = w.heap[b]? := fun b hb => heap_setCell_other _ ⟨g, 1, none⟩ b _ hb
  have hgd : d ≠ g := fun e => by have h1 := hF.tagg; rw [← e, h.tagd] at h1; exact absurd h1 (by decide)
  have hrg : ∀ k, (rv nm).ownBlock = some k → k ≠ g := fun k hk e => by have h1 := hF.own.tag hk; rw [e, hF.tagg] at h1; exact absurd h1 (by decide)
  have hfin := h.setFile hg (w' := w.setCell ⟨g, 1, none⟩ (.int .i64 (n2 : Int))) (v' := rv nm) (f' := ⟨f.b, f.b.length⟩) ⟨by rw [hb2, hnn]; rfl, hF.own.keepB fun k hk => hk2 k (hrg k hk), hF.ftg, hF.ftr, Nat.le_refl _, hF.most⟩ (fun k hk => hk) (fun b h1 _ => hk2 b h1)
  have HFIN : Hid (PutR w Ft d (M.put nm ⟨f.b, f.b.length⟩) (w.setCell ⟨g, 1, none⟩ (.int .i64 (n2 : Int)))) := Lib.hid ⟨hk2 d hgd, Ft, ⟨rfl, rfl, rfl, by simp, fun k _ hn => hk2 k (fun e => hn (e ▸ hF.ftg)), fun _ x => .inl x⟩, ⟨fun b hb => by have := hlt b hb; simpa using this, _, _, _, _, hfin⟩⟩
  have HFD : Hid (PutR w Ft d (M.put nm ⟨f.b, f.b.length⟩) (w.drew.setCell ⟨g, 1, none⟩ (.int .i64 (n2 : Int)))) := Lib.hid (by
    obtain ⟨h1, Ft', h2, h3, m', gs', rv', D', h4⟩ := HFIN.out
    exact ⟨h1, Ft', ⟨h2.os, h2.tape, h2.output, h2.size, h2.block, h2.ft⟩, h3, m', gs', rv', D', h4.keep fun _ _ => rfl⟩)
  have q1 := cell_row (row := none) (w := w.drew) (Go.Joins.cell_of_block (w := w.drew) hp 0) (by simp)
  have q2 := cell_row (row := none) (w := w.drew) (b := g) (o := 0) hF0 (by simp)
  have q3 : w.drew.cell? ⟨g, 1, none⟩ = some (.int .i64 (f.sure : Int)) := hF.c1
  have f3 : w.drew.frozen? ⟨g, 1, none⟩ = false := hF.uf 1
  clear h hlt hF hrv hnn hb2 hk2 hgd hrg hfin HFIN hF0 hp
  go_enter Try.func27, Try.ntmps27
  go_wp2_with fail
  refine wp_region_OT (RowR none) (RowR.refl _) (RowR.trans _) [8] (.pure [0, 1, 2, 3, 4, 5] (.free [6, 7] (.tail [8]))) (by kernel_rfl) (by kernel_rfl) (fun _ d _ _ _ h => by cases d <;> exact h) ?_
  generalize w.drew = w0 at *
  refine ot_pure ?_
  simp only [atNats, List.filterMap_cons, List.filterMap_nil, List.getElem?_toArray, List.getElem?_cons_succ, List.getElem?_cons_zero]
  show wpQuiet _ _ _ _ [_, _, _, _, _, _] _
  try simp only [List.getElem_toArray, List.getElem_cons_succ, List.getElem_cons_zero, Act.put, List.setIfInBounds_toArray, List.set_cons_succ, List.set_cons_zero] at *
  repeat (go_big_quiet_step (fail))
  refine wpQuiet_nil ?_
  clear q1 q2
  refine ot_free ?_
  simp only [atNats, List.filterMap_cons, List.filterMap_nil, List.getElem?_toArray, List.getElem?_cons_succ, List.getElem?_cons_zero]
  show wpQuiet _ _ _ _ [_, _] _
  try simp only [List.getElem_toArray, List.getElem_cons_succ, List.getElem_cons_zero, Act.put, List.setIfInBounds_toArray, List.set_cons_succ, List.set_cons_zero]
  repeat (go_big_quiet_step (fail))
  refine wpQuiet_nil ?_
  refine ot_last rfl (fun K hK => ?_)
  go_simp
  refine hK _ _ ?_
  clear hK K
  refine ot_end ?_
  go_wp2_with fail
  go_end0
  exact ⟨⟨_, rfl⟩, HFD.out⟩
set_option maxHeartbeats 4000000 in
theorem sync_any (h : DAt w Ft d M) (s : ByteArray) (hs : s.size ≤ 140737488351232) : Calls Try.prog 8 #[.pointer (some ⟨d, 0, none⟩), .string s] w (AppR w Ft d (M.snc s.data.toList)) := by
  have H := Lib.hid h
  obtain ⟨hlt, m, gs, rv, D, h⟩ := h
  have HD := Lib.hid h
  have HLT := Lib.hid hlt
  have HO := Lib.hid (open_any h hlt s hs)
  clear h hlt
  obtain ⟨R, hR⟩ : ∃ R, R = M.snc s.data.toList := ⟨_, rfl⟩
  have HR := Lib.hid hR
  rw [← hR]
  clear hR
  have hmf : ∀ (fn : Fn) (first cap : Array Value) (w : World), (Instr.makeFunc fn first cap).run Try.prog w = .ok (.func fn first cap) w := fun _ _ _ _ => rfl
  go_enter Try.func8, Try.ntmps8
  go_wp2_with fail
  refine HO.out.mono ?_
  rintro e w1 ⟨rfl, hb1⟩
  have H1 := Lib.hid (HD.out.below HLT.out hb1)
  have HB1 := Lib.hid hb1
  have HLT1 : Hid (∀ b, Ft b → b < w1.heap.size) := Lib.hid fun b hb => by have := HLT.out b hb; have := hb1.size; omega
  clear hb1
  by_cases hz : refM M [s] = 0
  · obtain ⟨hg, hbn, h24⟩ := refM_zero hz
    cases hgs : gs s.data.toList with
    | none =>
      have hov : openV M gs s = (.pointer none, 4) := by unfold openV; rw [if_pos hz, hgs]
      have hop : R = (4, M) := by
        rw [HR.out]; unfold DiskM.snc; rw [hg, hbn]
        have hok := HD.out.ok s.data.toList
        rw [hgs] at hok
        cases hf : M.fs s.data.toList with
        | none => rfl
        | some f => rw [hf] at hok; cases hok
      have HOP := Lib.hid hop
      have HB2 : Hid (Below w.heap.size w (w1.alloc (.cells #[.pointer none] 54))) := Lib.hid (HB1.out.alloc HB1.out.size _)
      rw [hov]
      clear hop hov hgs hz
      go_wp2_with fail
      go_ret
      rw [HOP.out]
      exact ⟨rfl, Ft, Gr.of_below HB2.out, H.out.below HB2.out⟩
    | some g =>
      obtain ⟨f, hf, hF⟩ := H1.out.ex hgs
      have hov : openV M gs s = (.pointer (some ⟨g, 0, none⟩), 0) := by unfold openV; rw [if_pos hz, hgs]
      have hop : R = if M.left = 0 then (90, M.off) else (0, (M.put s.data.toList ⟨f.b, f.b.length⟩).spent) := by rw [HR.out]; unfold DiskM.snc; rw [hg, hbn, hf]; rfl
      have HOP := Lib.hid hop
      rw [hov]
      obtain ⟨w2, hw2⟩ : ∃ W, W = w1.alloc (.cells #[.pointer (some ⟨g, 0, none⟩)] 54) := ⟨_, rfl⟩
      have HW2 := Lib.hid hw2
      have hp2 : w2.heap[w1.heap.size]? = some (.cells #[.pointer (some ⟨g, 0, none⟩)] 54 (0, 0)) := by rw [hw2]; exact heap_alloc_new w1 _
      have hb12 : Below w1.heap.size w1 w2 := by rw [hw2]; exact (Below.refl _ _).alloc (Nat.le_refl _) _
      have h2 := H1.out.below HLT1.out hb12
      have hz2 := hb12.size
      have HLT2 : Hid (∀ b, Ft b → b < w2.heap.size) := Lib.hid fun b hb => by have := HLT1.out b hb; omega
      have HG2 : Hid (Gr Ft w Ft w2) := Lib.hid ((Gr.of_below HB1.out).trans (Gr.of_below hb12))
      have hpd : w1.heap.size ≠ d := fun e => by have := h2.disk; rw [← e, hp2] at this; cases this
      have H2 := Lib.hid h2
      have HP2 := Lib.hid hp2
      have HF := Lib.hid hf
      have HGS := Lib.hid hgs
      clear hop hov hgs hz hw2 hp2 hb12 h2 hz2 hF hf
      go_wp2_with fail
      rw [← HW2.out]
      obtain ⟨p, hp⟩ : ∃ p, p = w1.heap.size := ⟨_, rfl⟩
      rw [← hp] at HP2 hpd ⊢
      by_cases hl : M.left = 0
      · refine (change_off0 H2.out hg hl _).mono ?_
        rintro e w3 ⟨rfl, h3, hg3, hz3⟩
        have hop1 : R = (90, M.off) := by rw [HOP.out, if_pos hl]
        have HE : Hid (AppR w Ft d R (.returned (.int .i64 90)) w3) := Lib.hid ⟨by rw [hop1], Ft, HG2.out.trans (Gr.of_grown hg3 H2.out.fd), by rw [hop1]; exact ⟨fun b hb => by rw [hz3]; exact HLT2.out b hb, _, _, _, _, h3⟩⟩
        clear hop1 h3 hg3 hz3
        go_wp2_with fail
        go_ret
        exact HE.out
      · refine (change_do H2.out hg hl 27 #[.pointer (some ⟨p, 0, none⟩)] enters_sync1 _ (fun w4 => ∃ w3, Gr Ft w2 Ft w3 ∧ PutR w3 Ft d (M.spent.put s.data.toList ⟨f.b, f.b.length⟩) w4) ?_).mono ?_
        · intro w3 h3 hg3 hz3
          refine (sync1_any h3 (fun b hb => by rw [hz3]; exact HLT2.out b hb) HGS.out (show M.spent.fs _ = _ from HF.out) p ((hg3.block p (Array.getElem?_eq_some_iff.1 HP2.out).1 (fun e => hpd (by injection e))).trans HP2.out)).mono ?_
          rintro e w4 ⟨hx, hpp⟩
          exact ⟨hx, w3, Gr.of_grown hg3 h3.fd, hpp⟩
        · rintro e w4 ⟨rfl, w3, hg3, -, Ft2, hg4, hd4⟩
          have hop1 : R = (0, (M.put s.data.toList ⟨f.b, f.b.length⟩).spent) := by rw [HOP.out, if_neg hl]
          have HE : Hid (AppR w Ft d R (.returned (.int .i64 0)) w4) := Lib.hid ⟨by rw [hop1], Ft2, (HG2.out.trans hg3).trans hg4, by rw [hop1]; exact hd4⟩
          clear hop1 hg3 hg4 hd4
          go_wp2_with fail
          go_ret
          exact HE.out
  · have hov : openV M gs s = (.pointer none, refM M [s]) := by unfold openV; rw [if_neg hz]
    have hop : R = (refM M [s], M) := by rw [HR.out, snc_ref hz]
    obtain ⟨r, hr⟩ : ∃ r, r = refM M [s] := ⟨_, rfl⟩
    rw [hov]
    rw [← hr] at hop hz ⊢
    have hd : (r == 0) = false := by simpa using hz
    have HOP := Lib.hid hop
    have HB2 : Hid (Below w.heap.size w (w1.alloc (.cells #[.pointer none] 54))) := Lib.hid (HB1.out.alloc HB1.out.size _)
    clear hop hov hr hz
    go_wp2_with fail
    go_ret
    rw [HOP.out]
    exact ⟨rfl, Ft, Gr.of_below HB2.out, H.out.below HB2.out⟩
end
end Go.Proofs.Ytclgekmpldeedaa
