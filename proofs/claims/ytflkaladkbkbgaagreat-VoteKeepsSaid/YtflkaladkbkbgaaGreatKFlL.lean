/- Sync, whole. -/
import Derived.Test.YtflkaladkbkbgaaGreatKFlK
namespace Go.Proofs.YtflkaladkbkbgaaGreat
set_option linter.unusedVariables false
set_option linter.unusedSimpArgs false
open Go.RowKit Go.Maps
set_option maxRecDepth 100000
theorem enters_sync1 : EntersF 95 := fun _ _ => by simp [callFunc, go_sem, Tryz.func95, Tryz.f95]
theorem snc_ref {M : DiskM} {s : ByteArray} (h : refM M [s] ≠ 0) : M.snc s.data.toList = (refM M [s], M) := by
  unfold refM at h ⊢
  unfold DiskM.snc
  cases hg : M.gone
  · rw [hg] at h
    cases hb : badNm s.data.toList
    · exact absurd (by simp [hb]) h
    · simp [hb]
  · simp
section
variable {w : World} {Ft : Nat → Prop} {d m : Nat} {gs : List UInt8 → Option Nat} {rv : List UInt8 → Value} {D : DataW Unit} {M : DiskM}
set_option maxHeartbeats 2000000 in
theorem sync1_any (h : DiskAt w Ft d m gs rv D M) (hlt : ∀ b, Ft b → b < w.heap.size) {nm : List UInt8} {g : Nat} (hg : gs nm = some g) {f : FileM} (hf : M.fs nm = some f) (p : Nat) (hp : w.heap[p]? = some (.cells #[.pointer (some ⟨g, 0, none⟩)] 69 (0, 0))) :
    Calls Tryz.prog 95 #[.pointer (some ⟨p, 0, none⟩)] w (Retd (PutR w Ft d (M.put nm ⟨f.b, f.b.length⟩))) := by
  have hF := h.file nm g f hg hf
  obtain ⟨A2, c2, hrv⟩ := hF.own.rdY.shapeY
  have hF0 := hF.c0
  rw [hrv] at hF0
  obtain ⟨n2, hnn⟩ : ∃ x, x = f.b.length := ⟨_, rfl⟩
  have HN := Lib.hid hnn
  rw [← hnn] at hF0 hrv
  have hb2 := setCell_one hF.blk 1 (.int .i64 (n2 : Int))
  have hk2 : ∀ b, b ≠ g → (w.setCell ⟨g, 1, none⟩ (.int .i64 (n2 : Int))).heap[b]? = w.heap[b]? := fun b hb => heap_setCell_other _ ⟨g, 1, none⟩ b _ hb
  have hgd : d ≠ g := fun e => by have h1 := hF.tagg; rw [← e, h.tagd] at h1; exact absurd h1 (by decide)
  have hrg : ∀ k, (rv nm).ownBlock = some k → k ≠ g := fun k hk e => by have h1 := hF.own.tag hk; rw [e, hF.tagg] at h1; exact absurd h1 (by decide)
  have hfin := h.setFile hg (w' := w.setCell ⟨g, 1, none⟩ (.int .i64 (n2 : Int))) (v' := rv nm) (f' := ⟨f.b, f.b.length⟩) ⟨by rw [hb2, hnn]; rfl, hF.own.keepB fun k hk => hk2 k (hrg k hk), hF.ftg, hF.ftr, Nat.le_refl _, hF.most⟩ (fun k hk => hk) (fun b h1 _ => hk2 b h1)
  have HFIN : Hid (PutR w Ft d (M.put nm ⟨f.b, f.b.length⟩) (w.setCell ⟨g, 1, none⟩ (.int .i64 (n2 : Int)))) := Lib.hid ⟨hk2 d hgd, Ft, ⟨rfl, rfl, rfl, by simp, fun k _ hn => hk2 k (fun e => hn (e ▸ hF.ftg)), fun _ x => .inl x⟩, ⟨fun b hb => by have := hlt b hb; simpa using this, _, _, _, _, hfin⟩⟩
  have HFD : Hid (PutR w Ft d (M.put nm ⟨f.b, f.b.length⟩) (w.drew.setCell ⟨g, 1, none⟩ (.int .i64 (n2 : Int)))) := Lib.hid (by
    obtain ⟨h1, Ft', h2, h3, m', gs', rv', D', h4⟩ := HFIN.out
    exact ⟨h1, Ft', ⟨h2.os, h2.tape, h2.output, h2.size, h2.block, h2.ft⟩, h3, m', gs', rv', D', h4.keep fun _ _ => rfl⟩)
  have q1 := cell_row (row := none) (w := w.drew) (Go.Joins.cell_of_block (w := w.drew) hp 0) (by simp)
  have q2 := cell_row (row := none) (w := w.drew) (b := g) (o := 0) hF0 (by simp)
  have q3 : w.drew.cell? ⟨g, 1, none⟩ = some (.int .i64 (f.sure : Int)) := hF.c1
  have f3 : w.drew.frozen? ⟨g, 1, none⟩ = false := hF.uf 1
  clear h hlt hF hrv hnn hb2 hk2 hgd hrg hfin HFIN hF0 hp
  go_enter Tryz.func95, Tryz.ntmps95
  go_wp2_with fail
  refine wp_region_OT (RowR none) (RowR.refl _) (RowR.trans _) [8] (.pure [0, 1, 2, 3, 4, 5] (.free [6, 7] (.tail [8]))) (by kernel_rfl) (by kernel_rfl) (fun _ d _ _ _ h => by cases d <;> exact h) ?_
  generalize w.drew = w0 at *
  refine ot_pure ?_
  simp only [atNats, List.filterMap_cons, List.filterMap_nil, List.getElem?_toArray, List.getElem?_cons_succ, List.getElem?_cons_zero]
  show wpQuiet _ _ _ _ [_, _, _, _, _, _] _
  try simp only [List.getElem_toArray, List.getElem_cons_succ, List.getElem_cons_zero, Act.put, List.setIfInBounds_toArray, List.set_cons_succ, List.set_cons_zero] at *
  repeat (go_big_quiet_step (fail))
  refine wpQuiet_nil ?_
  clear q1 q2
  refine ot_free ?_
  simp only [atNats, List.filterMap_cons, List.filterMap_nil, List.getElem?_toArray, List.getElem?_cons_succ, List.getElem?_cons_zero]
  show wpQuiet _ _ _ _ [_, _] _
  try simp only [List.getElem_toArray, List.getElem_cons_succ, List.getElem_cons_zero, Act.put, List.setIfInBounds_toArray, List.set_cons_succ, List.set_cons_zero]
  repeat (go_big_quiet_step (fail))
  refine wpQuiet_nil ?_
  refine ot_last rfl (fun K hK => ?_)
  go_simp
  refine hK _ _ ?_
  clear hK K
  refine ot_end ?_
  go_wp2_with fail
  go_end0
  exact ⟨⟨_, rfl⟩, HFD.out⟩
set_option maxHeartbeats 4000000 in
theorem sync_any (h : DAt w Ft d M) (s : ByteArray) (hs : s.size ≤ 140737488351232) : Calls Tryz.prog 72 #[.pointer (some ⟨d, 0, none⟩), .string s] w (AppR w Ft d (M.snc s.data.toList)) := by
  have H := Lib.hid h
  obtain ⟨hlt, m, gs, rv, D, h⟩ := h
  have HD := Lib.hid h
  have HLT := Lib.hid hlt
  have HO := Lib.hid (open_any h hlt s hs)
  clear h hlt
  obtain ⟨R, hR⟩ : ∃ R, R = M.snc s.data.toList := ⟨_, rfl⟩
  have HR := Lib.hid hR
  rw [← hR]
  clear hR
  have hmf : ∀ (fn : Fn) (first cap : Array Value) (w : World), (Instr.makeFunc fn first cap).run Tryz.prog w = .ok (.func fn first cap) w := fun _ _ _ _ => rfl
  go_enter Tryz.func72, Tryz.ntmps72
  go_wp2_with fail
  refine HO.out.mono ?_
  rintro e w1 ⟨rfl, hb1⟩
  have H1 := Lib.hid (HD.out.below HLT.out hb1)
  have HB1 := Lib.hid hb1
  have HLT1 : Hid (∀ b, Ft b → b < w1.heap.size) := Lib.hid fun b hb => by have := HLT.out b hb; have := hb1.size; omega
  clear hb1
  by_cases hz : refM M [s] = 0
  · obtain ⟨hg, hbn, h24⟩ := refM_zero hz
    cases hgs : gs s.data.toList with
    | none =>
      have hov : openV M gs s = (.pointer none, 4) := by unfold openV; rw [if_pos hz, hgs]
      have hop : R = (4, M) := by
        rw [HR.out]; unfold DiskM.snc; rw [hg, hbn]
        have hok := HD.out.ok s.data.toList
        rw [hgs] at hok
        cases hf : M.fs s.data.toList with
        | none => rfl
        | some f => rw [hf] at hok; cases hok
      have HOP := Lib.hid hop
      have HB2 : Hid (Below w.heap.size w (w1.alloc (.cells #[.pointer none] 69))) := Lib.hid (HB1.out.alloc HB1.out.size _)
      rw [hov]
      clear hop hov hgs hz
      go_wp2_with fail
      go_ret
      rw [HOP.out]
      exact ⟨rfl, Ft, Gr.of_below HB2.out, H.out.below HB2.out⟩
    | some g =>
      obtain ⟨f, hf, hF⟩ := H1.out.ex hgs
      have hov : openV M gs s = (.pointer (some ⟨g, 0, none⟩), 0) := by unfold openV; rw [if_pos hz, hgs]
      have hop : R = if M.left = 0 then (90, M.off) else (0, (M.put s.data.toList ⟨f.b, f.b.length⟩).spent) := by rw [HR.out]; unfold DiskM.snc; rw [hg, hbn, hf]; rfl
      have HOP := Lib.hid hop
      rw [hov]
      obtain ⟨w2, hw2⟩ : ∃ W, W = w1.alloc (.cells #[.pointer (some ⟨g, 0, none⟩)] 69) := ⟨_, rfl⟩
      have HW2 := Lib.hid hw2
      have hp2 : w2.heap[w1.heap.size]? = some (.cells #[.pointer (some ⟨g, 0, none⟩)] 69 (0, 0)) := by rw [hw2]; exact heap_alloc_new w1 _
      have hb12 : Below w1.heap.size w1 w2 := by rw [hw2]; exact (Below.refl _ _).alloc (Nat.le_refl _) _
      have h2 := H1.out.below HLT1.out hb12
      have hz2 := hb12.size
      have HLT2 : Hid (∀ b, Ft b → b < w2.heap.size) := Lib.hid fun b hb => by have := HLT1.out b hb; omega
      have HG2 : Hid (Gr Ft w Ft w2) := Lib.hid ((Gr.of_below HB1.out).trans (Gr.of_below hb12))
      have hpd : w1.heap.size ≠ d := fun e => by have := h2.disk; rw [← e, hp2] at this; cases this
      have H2 := Lib.hid h2
      have HP2 := Lib.hid hp2
      have HF := Lib.hid hf
      have HGS := Lib.hid hgs
      clear hop hov hgs hz hw2 hp2 hb12 h2 hz2 hF hf
      go_wp2_with fail
      rw [← HW2.out]
      obtain ⟨p, hp⟩ : ∃ p, p = w1.heap.size := ⟨_, rfl⟩
      rw [← hp] at HP2 hpd ⊢
      by_cases hl : M.left = 0
      · refine (change_off0 H2.out hg hl _).mono ?_
        rintro e w3 ⟨rfl, h3, hg3, hz3⟩
        have hop1 : R = (90, M.off) := by rw [HOP.out, if_pos hl]
        have HE : Hid (AppR w Ft d R (.returned (.int .i64 90)) w3) := Lib.hid ⟨by rw [hop1], Ft, HG2.out.trans (Gr.of_grown hg3 H2.out.fd), by rw [hop1]; exact ⟨fun b hb => by rw [hz3]; exact HLT2.out b hb, _, _, _, _, h3⟩⟩
        clear hop1 h3 hg3 hz3
        go_wp2_with fail
        go_ret
        exact HE.out
      · refine (change_do H2.out hg hl 95 #[.pointer (some ⟨p, 0, none⟩)] enters_sync1 _ (fun w4 => ∃ w3, Gr Ft w2 Ft w3 ∧ PutR w3 Ft d (M.spent.put s.data.toList ⟨f.b, f.b.length⟩) w4) ?_).mono ?_
        · intro w3 h3 hg3 hz3
          refine (sync1_any h3 (fun b hb => by rw [hz3]; exact HLT2.out b hb) HGS.out (show M.spent.fs _ = _ from HF.out) p ((hg3.block p (Array.getElem?_eq_some_iff.1 HP2.out).1 (fun e => hpd (by injection e))).trans HP2.out)).mono ?_
          rintro e w4 ⟨hx, hpp⟩
          exact ⟨hx, w3, Gr.of_grown hg3 h3.fd, hpp⟩
        · rintro e w4 ⟨rfl, w3, hg3, -, Ft2, hg4, hd4⟩
          have hop1 : R = (0, (M.put s.data.toList ⟨f.b, f.b.length⟩).spent) := by rw [HOP.out, if_neg hl]
          have HE : Hid (AppR w Ft d R (.returned (.int .i64 0)) w4) := Lib.hid ⟨by rw [hop1], Ft2, (HG2.out.trans hg3).trans hg4, by rw [hop1]; exact hd4⟩
          clear hop1 hg3 hg4 hd4
          go_wp2_with fail
          go_ret
          exact HE.out
  · have hov : openV M gs s = (.pointer none, refM M [s]) := by unfold openV; rw [if_neg hz]
    have hop : R = (refM M [s], M) := by rw [HR.out, snc_ref hz]
    obtain ⟨r, hr⟩ : ∃ r, r = refM M [s] := ⟨_, rfl⟩
    rw [hov]
    rw [← hr] at hop hz ⊢
    have hd : (r == 0) = false := by simpa using hz
    have HOP := Lib.hid hop
    have HB2 : Hid (Below w.heap.size w (w1.alloc (.cells #[.pointer none] 69))) := Lib.hid (HB1.out.alloc HB1.out.size _)
    clear hop hov hr hz
    go_wp2_with fail
    go_ret
    rw [HOP.out]
    exact ⟨rfl, Ft, Gr.of_below HB2.out, H.out.below HB2.out⟩
end
end Go.Proofs.YtflkaladkbkbgaaGreat

/- A file is cut; what a crash leaves of a file. -/
namespace Go.Proofs.YtflkaladkbkbgaaGreat
set_option linter.unusedVariables false
set_option linter.unusedSimpArgs false
open Go.RowKit Go.Maps
set_option maxRecDepth 100000
theorem OwnB.cut {w : World} {B : Nat} {A : Option Addr} {l : List UInt8} {c : Nat} (h : OwnB w B (.slice A l.length c) l) (n : Nat) (hn : n ≤ l.length) : OwnB w B (.slice A n c) (l.take n) := by
  have hl : (l.take n).length = n := by rw [List.length_take]; omega
  refine ⟨by rw [hl]; simp [bcells]; omega, ?_⟩
  rw [hl]
  rcases h.2 with ⟨h1, h2⟩ | ⟨g, cap, cur, h1, h2, h3, h4, h5, h6, h7⟩
  · injection h1 with e1 e2 e3
    exact .inl ⟨by rw [e1, e3, show n = 0 by omega], by omega⟩
  · injection h1 with e1 e2 e3
    subst e1 e3
    refine .inr ⟨g, c, cur, rfl, h2, h3, by omega, h5, h6, ?_⟩
    have : cur.toList.take (n * 1) = (cur.toList.take (l.length * 1)).take n := by rw [List.take_take]; congr 1; omega
    rw [this, h7]
    simp [bcells, List.map_take]
section
variable {w : World} {Ft : Nat → Prop}
def FileR (w : World) (Ft : Nat → Prop) (g : Nat) (v : Value) (f' : FileM) (w' : World) : Prop := ∃ v', FileAt w' Ft g v' f' ∧ (∀ k, v'.ownBlock = some k → v.ownBlock = some k) ∧ w.grownBy w' (some g) ∧ w'.heap.size = w.heap.size
set_option maxHeartbeats 2000000 in
theorem fcut_any {g : Nat} {v : Value} {f : FileM} (hF : FileAt w Ft g v f) (n : Nat) (hn : n ≤ f.b.length) : Calls Tryz.prog 46 #[.pointer (some ⟨g, 0, none⟩), .int .i64 (n : Int)] w (Retd (FileR w Ft g v ⟨f.b.take n, min f.sure n⟩)) := by
  obtain ⟨A, c, rfl⟩ := hF.own.rdY.shapeY
  have hcap : f.b.length ≤ c := by
    obtain ⟨A', cap', hv, h2, _⟩ := hF.own.rdY
    injection hv with _ _ e3
    omega
  have hb1 := setCell_one hF.blk 0 (.slice A n c)
  have hb2 := setCell_one hb1 1 (.int .i64 ((min f.sure n : Nat) : Int))
  have hk2 : ∀ b, b ≠ g → ((w.setCell ⟨g, 0, none⟩ (.slice A n c)).setCell ⟨g, 1, none⟩ (.int .i64 ((min f.sure n : Nat) : Int))).heap[b]? = w.heap[b]? := fun b hb => (heap_setCell_other _ ⟨g, 1, none⟩ b _ hb).trans (heap_setCell_other _ ⟨g, 0, none⟩ b _ hb)
  have hob : ∀ k, (Value.slice A n c).ownBlock = some k → (Value.slice A f.b.length c).ownBlock = some k := fun k hk => by cases A <;> exact hk
  have hfile : FileAt ((w.setCell ⟨g, 0, none⟩ (.slice A n c)).setCell ⟨g, 1, none⟩ (.int .i64 ((min f.sure n : Nat) : Int))) Ft g (.slice A n c) ⟨f.b.take n, min f.sure n⟩ := ⟨hb2, (hF.own.cut n hn).keepB fun k hk => hk2 k (fun e => by
    have h1 := hF.own.tag (hob k hk)
    rw [e, hF.tagg] at h1
    exact absurd h1 (by decide)), hF.ftg, fun k hk => hF.ftr k (hob k hk), by show min f.sure n ≤ (f.b.take n).length; rw [List.length_take]; have := hF.le; omega, by show (f.b.take n).length ≤ _; rw [List.length_take]; have := hF.most; omega⟩
  have HFIN : Hid (FileR w Ft g (.slice A f.b.length c) ⟨f.b.take n, min f.sure n⟩ ((w.setCell ⟨g, 0, none⟩ (.slice A n c)).setCell ⟨g, 1, none⟩ (.int .i64 ((min f.sure n : Nat) : Int)))) := Lib.hid ⟨_, hfile, hob, ⟨rfl, rfl, rfl, by simp, fun k _ hk => hk2 k (fun e => hk (by rw [e]))⟩, by simp⟩
  have hs := slice_to A f.b.length c n (by omega) w
  have x0 := hF.c0
  have x1 := hF.c1
  have f0 := hF.uf 0
  have f1 := hF.uf 1
  clear hb1 hb2 hk2 hob hfile hF
  obtain ⟨n2, hn2⟩ : ∃ x, x = f.b.length := ⟨_, rfl⟩
  obtain ⟨sr, hsr⟩ : ∃ x, x = f.sure := ⟨_, rfl⟩
  rw [← hn2] at x0 hs hcap
  rw [← hsr] at x1
  have HSR := Lib.hid hsr
  clear hn2 hn hsr
  by_cases hc : n < sr
  · have hd : ((n : Int) < (sr : Int)) = True := eq_true (by omega)
    have hmn : ((min f.sure n : Nat) : Int) = (n : Int) := by have := HSR.out; omega
    have HFIN2 := HFIN
    rw [hmn] at HFIN2
    clear hmn HFIN
    go_enter Tryz.func46, Tryz.ntmps46
    go_wp2_with fail
    go_end0
    exact ⟨⟨_, rfl⟩, HFIN2.out⟩
  · have hd : ((n : Int) < (sr : Int)) = False := eq_false (by omega)
    have hmn : ((min f.sure n : Nat) : Int) = (sr : Int) := by have := HSR.out; omega
    have HFIN2 := HFIN
    rw [hmn] at HFIN2
    clear hmn HFIN
    go_enter Tryz.func46, Tryz.ntmps46
    go_wp2_with fail
    go_end0
    exact ⟨⟨_, rfl⟩, HFIN2.out⟩
set_option maxHeartbeats 2000000 in
theorem fcrash_any {g : Nat} {v : Value} {f : FileM} (hF : FileAt w Ft g v f) (n : Int) (hn : -9223372036854775808 ≤ n ∧ n ≤ 9223372036854775807) : Calls Tryz.prog 31 #[.pointer (some ⟨g, 0, none⟩), .int .i64 n] w (Retd (FileR w Ft g v (crashF f n))) := by
  obtain ⟨A, c, rfl⟩ := hF.own.rdY.shapeY
  have HF := Lib.hid hF
  have hle := hF.le
  have hmost := hF.most
  obtain ⟨n2, hn2⟩ : ∃ x, x = f.b.length := ⟨_, rfl⟩
  obtain ⟨sr, hsr⟩ : ∃ x, x = f.sure := ⟨_, rfl⟩
  obtain ⟨t, ht⟩ : ∃ t : Nat, t = (f.sure + min (max n 0) ((f.b.length : Int) - f.sure)).toNat := ⟨_, rfl⟩
  have htl : f.sure ≤ t ∧ t ≤ f.b.length := by omega
  have hc0 : ∀ (u : World) (x : Int), FileAt u Ft g (.slice A f.b.length c) f → x = (t : Int) → Calls Tryz.prog 46 #[.pointer (some ⟨g, 0, none⟩), .int .i64 x] u (Retd (FileR u Ft g (.slice A f.b.length c) ⟨f.b.take t, min f.sure t⟩)) := fun u x hu hx => by rw [hx]; exact fcut_any hu t htl.2
  have HC := Lib.hid hc0
  clear hc0
  have hcf : crashF f n = ⟨f.b.take t, (f.b.take t).length⟩ := by unfold crashF; rw [← ht]
  obtain ⟨F', hF'⟩ : ∃ F', F' = crashF f n := ⟨_, rfl⟩
  rw [← hF'] at hcf ⊢
  have HCF := Lib.hid hcf
  clear hF'
  rw [← hn2, ← hsr] at ht
  rw [← hn2] at hmost hle htl
  rw [← hsr] at hle htl
  have q1 := cell_row (row := none) (w := w.drew) (b := g) (o := 0) hF.c0 (by simp)
  have q2 := cell_row (row := none) (w := w.drew) (b := g) (o := 1) hF.c1 (by simp)
  rw [← hn2] at q1
  rw [← hsr] at q2
  have HT := Lib.hid ht
  have HN2 := Lib.hid hn2
  have HSR := Lib.hid hsr
  have hw1 : wrap64 ((n2 : Int) - (sr : Int)) = (n2 : Int) - (sr : Int) := by unfold wrap64; omega
  have HF0 : Hid (FileAt w.drew Ft g (.slice A f.b.length c) f) := Lib.hid (hF.keep (fun _ _ => rfl) fun _ x => x)
  have x1 : w.drew.cell? ⟨g, 1, none⟩ = some (.int .i64 (f.sure : Int)) := hF.c1
  rw [← hsr] at x1
  rw [← hn2]
  have HD : Hid (w.grownBy w.drew none) := Lib.hid ⟨rfl, rfl, rfl, Nat.le_refl _, fun _ _ _ => rfl⟩
  have hzd : w.drew.heap.size = w.heap.size := rfl
  clear hF hcf ht hn2 hsr
  go_enter Tryz.func31, Tryz.ntmps31
  go_wp2_with fail
  refine wp_region_OT (RowR none) (RowR.refl _) (RowR.trans _) [] (.pure [0, 1, 2, 3, 4, 5, 6, 7, 8, 9, 10] (.tail [])) (by kernel_rfl) (by kernel_rfl) (fun _ d _ _ _ h => by cases d <;> exact h) ?_
  generalize w.drew = w0 at *
  refine ot_pure ?_
  simp only [atNats, List.filterMap_cons, List.filterMap_nil, List.getElem?_toArray, List.getElem?_cons_succ, List.getElem?_cons_zero]
  show wpQuiet _ _ _ _ [_, _, _, _, _, _, _, _, _, _, _] _
  try simp only [List.getElem_toArray, List.getElem_cons_succ, List.getElem_cons_zero, Act.put, List.setIfInBounds_toArray, List.set_cons_succ, List.set_cons_zero] at *
  repeat (go_big_quiet_step (fail))
  refine wpQuiet_nil ?_
  clear q1 q2
  refine ot_end ?_
  go_wp2_with fail
  all_goals
    refine (HC.out _ _ HF0.out (by have := HT.out; omega)).mono ?_
    rintro e w1 ⟨⟨x, rfl⟩, v1, hF1, hv1, hg1, hs1⟩
    obtain ⟨A1, c1, rfl⟩ := hF1.own.rdY.shapeY
    have hb2 := setCell_one hF1.blk 1 (.int .i64 ((f.b.take t).length : Int))
    have hk2 : ∀ b, b ≠ g → (w1.setCell ⟨g, 1, none⟩ (.int .i64 ((f.b.take t).length : Int))).heap[b]? = w1.heap[b]? := fun b hb => heap_setCell_other _ ⟨g, 1, none⟩ b _ hb
    have hfile : FileAt (w1.setCell ⟨g, 1, none⟩ (.int .i64 ((f.b.take t).length : Int))) Ft g (.slice A1 (f.b.take t).length c1) F' := by
      rw [HCF.out]
      exact ⟨hb2, hF1.own.keepB fun k hk => hk2 k (fun e => by
        have h1 := hF1.own.tag hk
        rw [e, hF1.tagg] at h1
        exact absurd h1 (by decide)), hF1.ftg, hF1.ftr, Nat.le_refl _, hF1.most⟩
    have hgz : w.grownBy (w1.setCell ⟨g, 1, none⟩ (.int .i64 ((f.b.take t).length : Int))) (some g) := ⟨hg1.os.trans HD.out.os, hg1.tape.trans HD.out.tape, hg1.output.trans HD.out.output, by have := HD.out.size; have := hg1.size; simp; omega, fun k hk hn => (hk2 k (fun e => hn (by rw [e]))).trans ((hg1.block k (by have := HD.out.size; omega) hn).trans (HD.out.block k hk (by simp)))⟩
    have HFIN : Hid (FileR w Ft g (.slice A n2 c) F' (w1.setCell ⟨g, 1, none⟩ (.int .i64 ((f.b.take t).length : Int)))) := Lib.hid ⟨_, hfile, fun k hk => (by have := hv1 k hk; cases A <;> exact this), hgz, by simp [hs1, hzd]⟩
    have y0 := hF1.c0
    have y1 := hF1.c1
    have z1 := hF1.uf 1
    obtain ⟨n3, hn3⟩ : ∃ x, x = (f.b.take t).length := ⟨_, rfl⟩
    rw [← hn3] at y0 HFIN
    clear hF1 hv1 hg1 hs1 hb2 hk2 hfile hgz hn3 x1
    go_wp2_with fail
    go_end0
    exact ⟨⟨_, rfl⟩, HFIN.out⟩
end
end Go.Proofs.YtflkaladkbkbgaaGreat
