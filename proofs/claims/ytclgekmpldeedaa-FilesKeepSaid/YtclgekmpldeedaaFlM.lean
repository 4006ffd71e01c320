/- A file is cut; what a crash leaves of a file. -/
import Derived.Test.YtclgekmpldeedaaFlL
namespace Go.Proofs.Ytclgekmpldeedaa
set_option linter.unusedVariables false
set_option linter.unusedSimpArgs false
open Go.RowKit Go.Maps
set_option maxRecDepth 100000
theorem OwnB.cut {w : World} {B : Nat} {A : Option Addr} {l : List UInt8} {c : Nat} (h : OwnB w B (.slice A l.length c) l) (n : Nat) (hn : n ≤ l.length) : OwnB w B (.slice A n c) (l.take n) := by
  have hl : (l.take n).length = n := by rw [List.length_take]; omega
  refine ⟨by rw [hl]; simp [bcells]; omega, ?_⟩
  rw [hl]
  rcases h.2 with ⟨h1, h2⟩ | ⟨g, cap, cur, h1, h2, h3, h4, h5, h6, h7⟩
  · injection h1 with e1 e2 e3
    exact .inl ⟨by rw [e1, e3, show n = 0 by omega], by omega⟩
  · injection h1 with e1 e2 e3
    subst e1 e3
    refine .inr ⟨g, c, cur, rfl, h2, h3, by omega, h5, h6, ?_⟩
    have : cur.toList.take (n * 1) = (cur.toList.take (l.length * 1)).take n := by rw [List.take_take]; congr 1; omega
    rw [this, h7]
    simp [bcells, List.map_take]
section
variable {w : World} {Ft : Nat → Prop}
def FileR (w : World) (Ft : Nat → Prop) (g : Nat) (v : Value) (f' : FileM) (w' : World) : Prop := ∃ v', FileAt w' Ft g v' f' ∧ (∀ k, v'.ownBlock = some k → v.ownBlock = some k) ∧ w.grownBy w' (some g) ∧ w'.heap.size = w.heap.size
set_option maxHeartbeats 2000000 in
theorem fcut_any {g : Nat} {v : Value} {f : FileM} (hF : FileAt w Ft g v f) (n : Nat) (hn : n ≤ f.b.length) : Calls Try.prog 34 #[.pointer (some ⟨g, 0, none⟩), .int .i64 (n : Int)] w (Retd (FileR w Ft g v ⟨f.b.take n, min f.sure n⟩)) := by
  obtain ⟨A, c, rfl⟩ := hF.own.rdY.shapeY
  have hcap : f.b.length ≤ c := by
    obtain ⟨A', cap', hv, h2, _⟩ := hF.own.rdY
    injection hv with _ _ e3
    omega
  have hb1 := setCell_one hF.blk 0 (.slice A n c)
  have hb2 := setCell_one hb1 1 (.int .i64 ((min f.sure n : Nat) : Int))
  have hk2 : ∀ b, b ≠ g → ((w.setCell ⟨g, 0, none⟩ (.slice A n c)).setCell ⟨g, 1, none⟩ (.int .i64 ((min f.sure n : Nat) : Int))).heap[b]? = w.heap[b]? := fun b hb => (heap_setCell_other _ ⟨g, 1, none⟩ b _ hb).trans (heap_setCell_other _ ⟨g, 0, none⟩ b _ hb)
  have hob : ∀ k, (Value.slice A n c).ownBlock = some k → (Value.slice A f.b.length c).ownBlock = some k := fun k hk => by cases A <;> exact hk
  have hfile : FileAt ((w.setCell ⟨g, 0, none⟩ (.slice A n c)).setCell ⟨g, 1, none⟩ (.int .i64 ((min f.sure n : Nat) : Int))) Ft g (.slice A n c) ⟨f.b.take n, min f.sure n⟩ := ⟨hb2, (hF.own.cut n hn).keepB fun k hk => hk2 k (fun e => by
    have h1 := hF.own.tag (hob k hk)
    rw [e, hF.tagg] at h1
    exact absurd h1 (by decide)), hF.ftg, fun k hk => hF.ftr k (hob k hk), by show min f.sure n ≤ (f.b.take n).length; rw [List.length_take]; have := hF.le; omega, by show (f.b.take n).length ≤ _; rw [List.length_take]; have := hF.most; omega⟩
  have HFIN : Hid (FileR w Ft g (.slice A f.b.length c) ⟨f.b.take n, min f.sure n⟩ ((w.setCell ⟨g, 0, none⟩ (.slice A n c)).setCell ⟨g, 1, none⟩ (.int .i64 ((min f.sure n : Nat) : Int)))) := Lib.hid ⟨_, hfile, hob, ⟨rfl, rfl, rfl, by simp, fun k _ hk => hk2 k (fun e => hk (by rw [e]))⟩, by simp⟩
  have hs := slice_to A f.b.length c n (by omega) w
  have x0 := hF.c0
  have x1 := hF.c1
  have f0 := hF.uf 0
  have f1 := hF.uf 1
  clear hb1 hb2 hk2 hob hfile hF
  obtain ⟨n2, hn2⟩ : ∃ x, x = f.b.length := ⟨_, rfl⟩
  obtain ⟨sr, hsr⟩ : ∃ x, x = f.sure := ⟨_, rfl⟩
  rw [← hn2] at x0 hs hcap
  rw [← hsr] at x1
  have HSR := Lib.hid hsr
  clear hn2 hn hsr
  by_cases hc : n < sr
  · have hd : ((n : Int) < (sr : Int)) = True := eq_true (by omega)
    have hmn : ((min f.sure n : Nat) : Int) = (n : Int) := by have := HSR.out; omega
    have HFIN2 := HFIN
    rw [hmn] at HFIN2
    clear hmn HFIN
    go_enter Try.func34, Try.ntmps34
    go_wp2_with fail
    go_end0
    exact ⟨⟨_, rfl⟩, HFIN2.out⟩
  · have hd : ((n : Int) < (sr : Int)) = False := eq_false (by omega)
    have hmn : ((min f.sure n : Nat) : Int) = (sr : Int) := by have := HSR.out; omega
    have HFIN2 := HFIN
    rw [hmn] at HFIN2
    clear hmn HFIN
    go_enter Try.func34, Try.ntmps34
    go_wp2_with fail
    go_end0
    exact ⟨⟨_, rfl⟩, HFIN2.out⟩
set_option maxHeartbeats 2000000 in
theorem fcrash_any {g : Nat} {v : Value} {f : FileM} (hF : FileAt w Ft g v f) (n : Int) (hn : -9223372036854775808 ≤ n ∧ n ≤ 9223372036854775807) : Calls Try.prog 30 #[.pointer (some ⟨g, 0, none⟩), .int .i64 n] w (Retd (FileR w Ft g v (crashF f n))) := by
  obtain ⟨A, c, rfl⟩ := hF.own.rdY.shapeY
  have HF := Lib.hid hF
  have hle := hF.le
  have hmost := hF.most
  obtain ⟨n2, hn2⟩ : ∃ x, x = f.b.length := ⟨_, rfl⟩
  obtain ⟨sr, hsr⟩ : ∃ x, x = f.sure := ⟨_, rfl⟩
  obtain ⟨t, ht⟩ : ∃ t : Nat, t = (f.sure + min (max n 0) ((f.b.length : Int) - f.sure)).toNat := ⟨_, rfl⟩
  have htl : f.sure ≤ t ∧ t ≤ f.b.length := by omega
  have hc0 : ∀ (u : World) (x : Int), FileAt u Ft g (.slice A f.b.length c) f → x = (t : Int) → Calls Try.prog 34 #[.pointer (some ⟨g, 0, none⟩), .int .i64 x] u (Retd (FileR u Ft g (.slice A f.b.length c) ⟨f.b.take t, min f.sure t⟩)) := fun u x hu hx => by rw [hx]; exact fcut_any hu t htl.2
  have HC := Lib.hid hc0
  clear hc0
  have hcf : crashF f n = ⟨f.b.take t, (f.b.take t).length⟩ := by unfold crashF; rw [← ht]
  obtain ⟨F', hF'⟩ : ∃ F', F' = crashF f n := ⟨_, rfl⟩
  rw [← hF'] at hcf ⊢
  have HCF := Lib.hid hcf
  clear hF'
  rw [← hn2, ← hsr] at ht
  rw [← hn2] at hmost hle htl
  rw [← hsr] at hle htl
  have q1 := cell_row (row := none) (w := w.drew) (b := g) (o := 0) hF.c0 (by simp)
  have q2 := cell_row (row := none) (w := w.drew) (b := g) (o := 1) hF.c1 (by simp)
  rw [← hn2] at q1
  rw [← hsr] at q2
  have HT := Lib.hid ht
  have HN2 := Lib.hid hn2
  have HSR := Lib.hid hsr
  have hw1 : wrap64 ((n2 : Int) - (sr : Int)) = (n2 : Int) - (sr : Int) := by unfold wrap64; omega
  have HF0 : Hid (FileAt w.drew Ft g (.slice A f.b.length c) f) := Lib.hid (hF.keep (fun _ _ => rfl) fun _ x => x)
  have x1 : w.drew.cell? ⟨g, 1, none⟩ = some (.int .i64 (f.sure : Int)) := hF.c1
  rw [← hsr] at x1
  rw [← hn2]
  have HD : Hid (w.grownBy w.drew none) := Lib.hid ⟨rfl, rfl, rfl, Nat.le_refl _, fun _ _ _ => rfl⟩
  have hzd : w.drew.heap.size = w.heap.size := rfl
  clear hF hcf ht hn2 hsr
  go_enter Try.func30, Try.ntmps30
  go_wp2_with fail
  refine wp_region_OT (RowR none) (RowR.refl _) (RowR.trans _) [] (.pure [0, 1, 2, 3, 4, 5, 6, 7, 8, 9, 10] (.tail [])) (by kernel_rfl) (by kernel_rfl) (fun _ d _ _ _ h => by cases d <;> exact h) ?_
  generalize w.drew = w0 at *
  refine ot_pure ?_
  simp only [atNats, List.filterMap_cons, List.filterMap_nil, List.getElem?_toArray, List.getElem?_cons_succ, List.getElem?_cons_zero]
  show wpQuiet _ _ _ _ [_, _, _, _, _, _, _, _, _, _, _] _
  try simp only [List.getElem_toArray, List.getElem_cons_succ, List.getElem_cons_zero, Act.put, List.setIfInBounds_toArray, List.set_cons_succ, List.set_cons_zero] at *
  repeat (go_big_quiet_step (fail))
  refine wpQuiet_nil ?_
  clear q1 q2
  refine ot_end ?_
  go_wp2_with fail
  all_goals
    refine (HC.out _ _ HF0.out (by have := HT.out; omega)).mono ?_
    rintro e w1 ⟨⟨x, rfl⟩, v1, hF1, hv1, hg1, hs1⟩
    obtain ⟨A1, c1, rfl⟩ := hF1.own.rdY.shapeY
    have hb2 := setCell_one hF1.blk 1 (.int .i64 ((f.b.take t).length : Int))
    have hk2 : ∀ b, b ≠ g → (w1.setCell ⟨g, 1, none⟩ (.int .i64 ((f.b.take t).length : Int))).heap[b]? = w1.heap[b]? := fun b hb => heap_setCell_other _ ⟨g, 1, none⟩ b _ hb
    have hfile : FileAt (w1.setCell ⟨g, 1, none⟩ (.int .i64 ((f.b.take t).length : Int))) Ft g (.slice A1 (f.b.take t).length c1) F' := by
      rw [HCF.out]
      exact ⟨hb2, hF1.own.keepB fun k hk => hk2 k (fun e => by
        have h1 := hF1.own.tag hk
        rw [e, hF1.tagg] at h1
        exact absurd h1 (by decide)), hF1.ftg, hF1.ftr, Nat.le_refl _, hF1.most⟩
    have hgz : w.grownBy (w1.setCell ⟨g, 1, none⟩ (.int .i64 ((f.b.take t).length : Int))) (some g) := ⟨hg1.os.trans HD.out.os, hg1.tape.trans HD.out.tape, hg1.output.trans HD.out.output, by have := HD.out.size; have := hg1.size; simp; omega, fun k hk hn => (hk2 k (fun e => hn (by rw [e]))).trans ((hg1.block k (by have := HD.out.size; omega) hn).trans (HD.out.block k hk (by simp)))⟩
    have HFIN : Hid (FileR w Ft g (.slice A n2 c) F' (w1.setCell ⟨g, 1, none⟩ (.int .i64 ((f.b.take t).length : Int)))) := Lib.hid ⟨_, hfile, fun k hk => (by have := hv1 k hk; cases A <;> exact this), hgz, by simp [hs1, hzd]⟩
    have y0 := hF1.c0
    have y1 := hF1.c1
    have z1 := hF1.uf 1
    obtain ⟨n3, hn3⟩ : ∃ x, x = (f.b.take t).length := ⟨_, rfl⟩
    rw [← hn3] at y0 HFIN
    clear hF1 hv1 hg1 hs1 hb2 hk2 hfile hgz hn3 x1
    go_wp2_with fail
    go_end0
    exact ⟨⟨_, rfl⟩, HFIN.out⟩
end
end Go.Proofs.Ytclgekmpldeedaa
