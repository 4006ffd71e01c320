/- Cut, whole, within the file. -/
import Derived.Test.YtflkaladkbkbgaaGreatKFlL
namespace Go.Proofs.YtflkaladkbkbgaaGreat
set_option linter.unusedVariables false
set_option linter.unusedSimpArgs false
open Go.RowKit Go.Maps
set_option maxRecDepth 100000
theorem enters_cut1 : EntersF 100 := fun _ _ => by simp [callFunc, go_sem, Tryz.func100, Tryz.f100]
def DiskM.cut (M : DiskM) (nm : List UInt8) (n : Nat) : Int × DiskM :=
  if M.gone then (90, M) else if badNm nm then (1, M)
  else match M.fs nm with
    | none => (4, M)
    | some f => if M.left = 0 then (90, M.off) else (0, (M.put nm ⟨f.b.take n, min f.sure n⟩).spent)
theorem cut_ref {M : DiskM} {s : ByteArray} {n : Nat} (h : refM M [s] ≠ 0) : M.cut s.data.toList n = (refM M [s], M) := by
  unfold refM at h ⊢
  unfold DiskM.cut
  cases hg : M.gone
  · rw [hg] at h
    cases hb : badNm s.data.toList
    · exact absurd (by simp [hb]) h
    · simp [hb]
  · simp
section
variable {w : World} {Ft : Nat → Prop} {d m : Nat} {gs : List UInt8 → Option Nat} {rv : List UInt8 → Value} {D : DataW Unit} {M : DiskM}
set_option maxHeartbeats 2000000 in
theorem cut1_any (h : DiskAt w Ft d m gs rv D M) (hlt : ∀ b, Ft b → b < w.heap.size) {nm : List UInt8} {g : Nat} (hg : gs nm = some g) {f : FileM} (hf : M.fs nm = some f) (n : Nat) (hn : n ≤ f.b.length) (p q : Nat) (hp : w.heap[p]? = some (.cells #[.pointer (some ⟨g, 0, none⟩)] 69 (0, 0))) (hq : w.heap[q]? = some (.cells #[.int .i64 (n : Int)] 3 (0, 0))) :
    Calls Tryz.prog 100 #[.pointer (some ⟨p, 0, none⟩), .pointer (some ⟨q, 0, none⟩)] w (Retd (PutR w Ft d (M.put nm ⟨f.b.take n, min f.sure n⟩))) := by
  have hF := h.file nm g f hg hf
  have HC := Lib.hid (fcut_any hF n hn)
  have x0 := Go.Joins.cell_of_block hp 0
  have x1 := Go.Joins.cell_of_block hq 0
  have hgd : d ≠ g := fun e => by have h1 := hF.tagg; rw [← e, h.tagd] at h1; exact absurd h1 (by decide)
  have HFIN : Hid (∀ w', FileR w Ft g (rv nm) ⟨f.b.take n, min f.sure n⟩ w' → PutR w Ft d (M.put nm ⟨f.b.take n, min f.sure n⟩) w') := Lib.hid fun w' hR => by
    obtain ⟨v', h1, h2, h3, h4⟩ := hR
    have hk : ∀ b, b ≠ g → w'.heap[b]? = w.heap[b]? := fun b hb => by
      by_cases hbl : b < w.heap.size
      · exact h3.block b hbl (fun e => hb (by injection e))
      · rw [Array.getElem?_eq_none (by omega), Array.getElem?_eq_none (by omega)]
    have hfin := h.setFile hg h1 h2 (fun b h5 _ => hk b h5)
    exact ⟨hk d hgd, Ft, ⟨h3.os, h3.tape, h3.output, h3.size, fun k _ hn => hk k (fun e => hn (e ▸ hF.ftg)), fun _ x => .inl x⟩, ⟨fun b hb => by have := hlt b hb; omega, _, _, _, _, hfin⟩⟩
  clear h hlt hF hgd hp hq
  go_enter Tryz.func100, Tryz.ntmps100
  go_wp2_with fail
  refine HC.out.mono ?_
  rintro e w1 ⟨⟨x, rfl⟩, hR⟩
  have HR := Lib.hid (HFIN.out w1 hR)
  clear hR HC HFIN
  go_wp2_with fail
  go_end0
  exact ⟨⟨_, rfl⟩, HR.out⟩
set_option maxHeartbeats 4000000 in
theorem cut_any (h : DAt w Ft d M) (s : ByteArray) (hs : s.size ≤ 140737488351232) (n : Nat) (hn : ∀ f, M.fs s.data.toList = some f → n ≤ f.b.length) : Calls Tryz.prog 84 #[.pointer (some ⟨d, 0, none⟩), .string s, .int .i64 (n : Int)] w (AppR w Ft d (M.cut s.data.toList n)) := by
  have H := Lib.hid h
  obtain ⟨u, hu⟩ : ∃ W, W = w.alloc (.cells #[.int .i64 (n : Int)] 3) := ⟨_, rfl⟩
  have hbu : Below w.heap.size w u := by rw [hu]; exact (Below.refl _ _).alloc (Nat.le_refl _) _
  have hq0 : u.heap[w.heap.size]? = some (.cells #[.int .i64 (n : Int)] 3 (0, 0)) := by rw [hu]; exact heap_alloc_new w _
  have hzu : w.heap.size < u.heap.size := (Array.getElem?_eq_some_iff.1 hq0).1
  obtain ⟨hlt, m, gs, rv, D, h⟩ := h.below hbu
  have HD := Lib.hid h
  have HLT := Lib.hid hlt
  have HO := Lib.hid (open_any h hlt s hs)
  have HN := Lib.hid hn
  have HU := Lib.hid hu
  have HBU := Lib.hid hbu
  have HQ0 := Lib.hid hq0
  have HZU := Lib.hid hzu
  clear h hlt hn hu hbu hq0 hzu
  obtain ⟨R, hR⟩ : ∃ R, R = M.cut s.data.toList n := ⟨_, rfl⟩
  have HR := Lib.hid hR
  rw [← hR]
  clear hR
  have hmf : ∀ (fn : Fn) (first cap : Array Value) (w : World), (Instr.makeFunc fn first cap).run Tryz.prog w = .ok (.func fn first cap) w := fun _ _ _ _ => rfl
  go_enter Tryz.func84, Tryz.ntmps84
  go_wp2_with fail
  rw [← HU.out]
  refine HO.out.mono ?_
  rintro e w1 ⟨rfl, hb1⟩
  have H1 := Lib.hid (HD.out.below HLT.out hb1)
  have HB1 : Hid (Below w.heap.size w w1) := Lib.hid (HBU.out.trans (hb1.mono HBU.out.size))
  have HLT1 : Hid (∀ b, Ft b → b < w1.heap.size) := Lib.hid fun b hb => by have := HLT.out b hb; have := hb1.size; omega
  have hq1 := (hb1.block _ HZU.out).trans HQ0.out
  have HQ1 := Lib.hid hq1
  obtain ⟨q, hq⟩ : ∃ q, q = w.heap.size := ⟨_, rfl⟩
  have HQQ := Lib.hid hq
  rw [← hq] at HQ1 ⊢
  clear hb1 hq1 hq
  by_cases hz : refM M [s] = 0
  · obtain ⟨hg, hbn, h24⟩ := refM_zero hz
    cases hgs : gs s.data.toList with
    | none =>
      have hov : openV M gs s = (.pointer none, 4) := by unfold openV; rw [if_pos hz, hgs]
      have hop : R = (4, M) := by
        rw [HR.out]; unfold DiskM.cut; rw [hg, hbn]
        have hok := HD.out.ok s.data.toList
        rw [hgs] at hok
        cases hf : M.fs s.data.toList with
        | none => rfl
        | some f => rw [hf] at hok; cases hok
      have HOP := Lib.hid hop
      have HB2 : Hid (Below w.heap.size w (w1.alloc (.cells #[.pointer none] 69))) := Lib.hid (HB1.out.alloc HB1.out.size _)
      rw [hov]
      clear hop hov hgs hz
      go_wp2_with fail
      go_ret
      rw [HOP.out]
      exact ⟨rfl, Ft, Gr.of_below HB2.out, H.out.below HB2.out⟩
    | some g =>
      obtain ⟨f, hf, hF⟩ := H1.out.ex hgs
      have hnf := HN.out f hf
      have hov : openV M gs s = (.pointer (some ⟨g, 0, none⟩), 0) := by unfold openV; rw [if_pos hz, hgs]
      have hop : R = if M.left = 0 then (90, M.off) else (0, (M.put s.data.toList ⟨f.b.take n, min f.sure n⟩).spent) := by rw [HR.out]; unfold DiskM.cut; rw [hg, hbn, hf]; rfl
      have HOP := Lib.hid hop
      rw [hov]
      obtain ⟨w2, hw2⟩ : ∃ W, W = w1.alloc (.cells #[.pointer (some ⟨g, 0, none⟩)] 69) := ⟨_, rfl⟩
      have HW2 := Lib.hid hw2
      have hp2 : w2.heap[w1.heap.size]? = some (.cells #[.pointer (some ⟨g, 0, none⟩)] 69 (0, 0)) := by rw [hw2]; exact heap_alloc_new w1 _
      have hb12 : Below w1.heap.size w1 w2 := by rw [hw2]; exact (Below.refl _ _).alloc (Nat.le_refl _) _
      have hq2 : w2.heap[q]? = some (.cells #[.int .i64 (n : Int)] 3 (0, 0)) := (hb12.block q (Array.getElem?_eq_some_iff.1 HQ1.out).1).trans HQ1.out
      have h2 := H1.out.below HLT1.out hb12
      have hz2 := hb12.size
      have HLT2 : Hid (∀ b, Ft b → b < w2.heap.size) := Lib.hid fun b hb => by have := HLT1.out b hb; omega
      have HG2 : Hid (Gr Ft w Ft w2) := Lib.hid ((Gr.of_below HB1.out).trans (Gr.of_below hb12))
      have hpd : w1.heap.size ≠ d := fun e => by have := h2.disk; rw [← e, hp2] at this; cases this
      have hqd : q ≠ d := fun e => by have := h2.disk; rw [← e, hq2] at this; cases this
      have HPD := Lib.hid (And.intro hpd hqd)
      have H2 := Lib.hid h2
      have HP2 := Lib.hid hp2
      have HQ2 := Lib.hid hq2
      have HF := Lib.hid hf
      have HGS := Lib.hid hgs
      have HNF := Lib.hid hnf
      have hF2 := h2.file s.data.toList g f hgs hf
      have hF0 := hF2.c0
      obtain ⟨A2, c2, hrv⟩ := hF2.own.rdY.shapeY
      rw [hrv] at hF0
      obtain ⟨n2, hnn⟩ : ∃ x, x = f.b.length := ⟨_, rfl⟩
      rw [← hnn] at hF0 hnf
      obtain ⟨p, hp⟩ : ∃ p, p = w1.heap.size := ⟨_, rfl⟩
      rw [← hp] at hp2 HP2 HPD
      have HPP := Lib.hid hp
      have q1 := cell_row (row := none) (w := w2.drew) (Go.Joins.cell_of_block (w := w2.drew) hp2 0) (by simp)
      have q2 := cell_row (row := none) (w := w2.drew) (Go.Joins.cell_of_block (w := w2.drew) hq2 0) (by simp)
      have q3 := cell_row (row := none) (w := w2.drew) (b := g) (o := 0) hF0 (by simp)
      have d1 : decide ((n : Int) < 0) = false := decide_eq_false (by omega)
      have d2 : (n2 < n) = False := eq_false (by omega)
      clear hop hov hgs hz hw2 hp2 hb12 h2 hz2 hF hf hq2 hpd hqd hF2 hF0 hrv hnn hnf hp
      go_wp2_with fail
      rw [← HW2.out, ← HPP.out]
      have H3 : Hid (DiskAt w2.drew Ft d m gs rv D M) := Lib.hid (H2.out.keep fun _ _ => rfl)
      have HLT3 : Hid (∀ b, Ft b → b < w2.drew.heap.size) := HLT2
      have HP3 : Hid (w2.drew.heap[p]? = some (.cells #[.pointer (some ⟨g, 0, none⟩)] 69 (0, 0))) := HP2
      have HQ3 : Hid (w2.drew.heap[q]? = some (.cells #[.int .i64 (n : Int)] 3 (0, 0))) := HQ2
      have HG3 : Hid (Gr Ft w Ft w2.drew) := Lib.hid ⟨HG2.out.os, HG2.out.tape, HG2.out.output, HG2.out.size, HG2.out.block, HG2.out.ft⟩
      clear HPP HW2 H2 HLT2 HP2 HQ2 HG2
      refine wp_region_OT (RowR none) (RowR.refl _) (RowR.trans _) [] (.pure [0, 1, 2, 3, 4, 5, 6, 7, 8, 9, 10, 11] (.tail [])) (by kernel_rfl) (by kernel_rfl) (fun _ d _ _ _ h => by cases d <;> exact h) ?_
      generalize w2.drew = w3 at *
      refine ot_pure ?_
      simp only [atNats, List.filterMap_cons, List.filterMap_nil, List.getElem?_toArray, List.getElem?_cons_succ, List.getElem?_cons_zero]
      show wpQuiet _ _ _ _ [_, _, _, _, _, _, _, _, _, _, _, _] _
      try simp only [List.getElem_toArray, List.getElem_cons_succ, List.getElem_cons_zero, Act.put, List.setIfInBounds_toArray, List.set_cons_succ, List.set_cons_zero] at *
      repeat (go_big_quiet_step (fail))
      refine wpQuiet_nil ?_
      clear q1 q2 q3
      refine ot_end ?_
      go_wp2_with fail
      by_cases hl : M.left = 0
      · refine (change_off0 H3.out hg hl _).mono ?_
        rintro e w4 ⟨rfl, h4, hg4, hz4⟩
        have hop1 : R = (90, M.off) := by rw [HOP.out, if_pos hl]
        have HE : Hid (AppR w Ft d R (.returned (.int .i64 90)) w4) := Lib.hid ⟨by rw [hop1], Ft, HG3.out.trans (Gr.of_grown hg4 H3.out.fd), by rw [hop1]; exact ⟨fun b hb => by rw [hz4]; exact HLT3.out b hb, _, _, _, _, h4⟩⟩
        clear hop1 h4 hg4 hz4
        go_wp2_with fail
        go_ret
        exact HE.out
      · refine (change_do H3.out hg hl 100 #[.pointer (some ⟨p, 0, none⟩), .pointer (some ⟨q, 0, none⟩)] enters_cut1 _ (fun w5 => ∃ w4, Gr Ft w3 Ft w4 ∧ PutR w4 Ft d (M.spent.put s.data.toList ⟨f.b.take n, min f.sure n⟩) w5) ?_).mono ?_
        · intro w4 h4 hg4 hz4
          refine (cut1_any h4 (fun b hb => by rw [hz4]; exact HLT3.out b hb) HGS.out (show M.spent.fs _ = _ from HF.out) n HNF.out p q ((hg4.block p (Array.getElem?_eq_some_iff.1 HP3.out).1 (fun e => HPD.out.1 (by injection e))).trans HP3.out) ((hg4.block q (Array.getElem?_eq_some_iff.1 HQ3.out).1 (fun e => HPD.out.2 (by injection e))).trans HQ3.out)).mono ?_
          rintro e w5 ⟨hx, hpp⟩
          exact ⟨hx, w4, Gr.of_grown hg4 h4.fd, hpp⟩
        · rintro e w5 ⟨rfl, w4, hg4, -, Ft2, hg5, hd5⟩
          have hop1 : R = (0, (M.put s.data.toList ⟨f.b.take n, min f.sure n⟩).spent) := by rw [HOP.out, if_neg hl]
          have HE : Hid (AppR w Ft d R (.returned (.int .i64 0)) w5) := Lib.hid ⟨by rw [hop1], Ft2, (HG3.out.trans hg4).trans hg5, by rw [hop1]; exact hd5⟩
          clear hop1 hg4 hg5 hd5
          go_wp2_with fail
          go_ret
          exact HE.out
  · have hov : openV M gs s = (.pointer none, refM M [s]) := by unfold openV; rw [if_neg hz]
    have hop : R = (refM M [s], M) := by rw [HR.out, cut_ref hz]
    obtain ⟨r, hr⟩ : ∃ r, r = refM M [s] := ⟨_, rfl⟩
    rw [hov]
    rw [← hr] at hop hz ⊢
    have hd : (r == 0) = false := by simpa using hz
    have HOP := Lib.hid hop
    have HB2 : Hid (Below w.heap.size w (w1.alloc (.cells #[.pointer none] 69))) := Lib.hid (HB1.out.alloc HB1.out.size _)
    clear hop hov hr hz
    go_wp2_with fail
    go_ret
    rw [HOP.out]
    exact ⟨rfl, Ft, Gr.of_below HB2.out, H.out.below HB2.out⟩
end
end Go.Proofs.YtflkaladkbkbgaaGreat
