/- Whether a value may be, and how deep it is. -/
import Derived.Test.YteakkbgfkcknlaaValW
namespace Go.Proofs.Yteakkbgfkcknlaa
open Go.RowKit

theorem enters_may : Enters 72 := fun _ _ => by simp [callFunc, go_sem, Try.func72, Try.f72]
theorem enters_depth : Enters 84 := fun _ _ => by simp [callFunc, go_sem, Try.func84, Try.f84]

def mayF : VT → Nat → Unit → Unit × Bool := fun x _ st => (st, fitsT x)
mutual
theorem walk_may : ∀ (t : VT) (d : Nat) (st : Unit), (walkT mayF t d st).2 = mayT t
  | .mk k i s l ns, d, st => by
    unfold mayT
    by_cases h : fitsT (.mk k i s l ns) = true
    · rw [walkT_go (f := mayF) (t := .mk k i s l ns) (d := d) (st := st) h, h, Bool.true_and]; exact walk_mayL l _ _
    · rw [walkT_stop (f := mayF) (by simpa [mayF] using h)]; simp [h]
theorem walk_mayL : ∀ (l : List VT) (d : Nat) (st : Unit), (walkL mayF l d st).2 = mayL l
  | [], d, st => by rw [walkL_nil]; unfold mayL; rfl
  | t :: r, d, st => by
    unfold mayL
    have h := walk_may t d st
    by_cases hm : mayT t = true
    · rw [walkL_go (by rw [h, hm]), hm, Bool.true_and]; exact walk_mayL r _ _
    · rw [walkL_stop (by rw [h]; simpa using hm)]; simp [hm]
end

set_option maxHeartbeats 400000 in
theorem mayC_any (S : Nat → Prop) (x : VT) (v : Value) (W : World) (lvl : Nat) (hS : ∀ b, S b → b < W.heap.size) (h : LV W S x v) : Calls Try.prog 72 #[v, .int .i64 lvl] W fun e w' => e = .returned (.bool (fitsT x)) ∧ Below W.heap.size W w' := by
  have HV := Lib.hid h
  obtain ⟨A, c, A', c', rfl, -, -, -, -, -, -, -⟩ := h.shape
  have HC := Lib.hid (fits_any S x _ _ (sub_alloc hS _) (h.alloc hS (.cells #[.int .i64 x.kind, .int .i64 x.num, .string x.text, .slice A x.items.length c, .slice A' x.names.length c'] 49)))
  clear h
  go_enter Try.func72, Try.ntmps72
  go_wp2_with fail
  refine HC.out.mono ?_
  rintro e w' ⟨rfl, hb⟩
  have HB := Lib.hid (toStart (below_box _) hb)
  clear hb HC
  go_wp2_with fail
  go_ret
  exact ⟨rfl, HB.out⟩

set_option maxHeartbeats 400000 in
theorem may_any (S : Nat → Prop) (t : VT) (v : Value) (w : World) (hS : ∀ b, S b → b < w.heap.size) (h : LV w S t v) (hd : depthT t ≤ 4611686018427387903) : Calls Try.prog 40 #[v] w fun e w' => e = .returned (.bool (mayT t)) ∧ Below w.heap.size w w' := by
  have HV := Lib.hid h
  obtain ⟨A, c, A', c', rfl, -, -, -, -, -, -, -⟩ := h.shape
  have hs : Shows 72 #[] S w.heap.size (fun _ _ => True) mayF 4611686018427387904 := fun x v W lvl st hg hv _ _ =>
    (mayC_any S x v W lvl (fun b hb => Nat.lt_trans (hS b hb) hg) hv).mono fun e w' ⟨he, hb⟩ => ⟨he, trivial, Only.ofBelow hb⟩
  have HC := Lib.hid (walk_any 72 #[] S w.heap.size (fun _ _ => True) mayF 4611686018427387904 enters_may hS (Nat.le_refl _) (fun _ _ _ _ _ => trivial) hs (depthT t) t _ (w.alloc (.cells #[.int .i64 t.kind, .int .i64 t.num, .string t.text, .slice A t.items.length c, .slice A' t.names.length c'] 49)) 1 () (Nat.le_refl _)
    (h.alloc hS _) (by simp) (by omega) trivial)
  have HR := Lib.hid (walk_may t 1 ())
  clear h hs
  go_enter Try.func40, Try.ntmps40
  go_wp2_with fail
  refine HC.out.mono ?_
  rintro e w' ⟨rfl, -, hb⟩
  have HB := Lib.hid ((below_box (w := w) _).trans (hb.below (by simp) (Nat.le_refl _)))
  rw [HR.out]
  clear hb HC
  go_wp2_with fail
  go_ret
  exact ⟨rfl, HB.out⟩

/-! ### depth -/
def depF : VT → Nat → Nat → Nat × Bool := fun _ lvl st => (max st lvl, true)
mutual
theorem walk_dep : ∀ (t : VT) (d : Nat) (st : Nat), walkT depF t d st = (max st (d + depthT t - 1), true)
  | .mk k i s l ns, d, st => by
    rw [walkT_go (f := depF) rfl, depthT_mk]
    show walkL depF l (d + 1) (max st d) = _
    rw [walk_depL l]
    by_cases h : depthL l = 0
    · rw [if_pos h, h]; congr 1
    · rw [if_neg h]; congr 1; omega
theorem walk_depL : ∀ (l : List VT) (d : Nat) (st : Nat), walkL depF l d st = (if depthL l = 0 then st else max st (d + depthL l - 1), true)
  | [], d, st => by rw [walkL_nil]; unfold depthL; rfl
  | t :: r, d, st => by
    have h := walk_dep t d st
    have ht : 1 ≤ depthT t := by cases t; rw [depthT_mk]; omega
    rw [walkL_go (by rw [h]), h, walk_depL r]
    conv => rhs; unfold depthL
    show (if depthL r = 0 then max st (d + depthT t - 1) else max (max st (d + depthT t - 1)) (d + depthL r - 1), true) = (if max (depthT t) (depthL r) = 0 then st else max st (d + max (depthT t) (depthL r) - 1), true)
    congr 1
    split <;> split <;> omega
end

def Cell1 (w : World) (g : Nat) (v : Value) : Prop := w.heap[g]? = some (.cells #[v] 3 (0, 0))
theorem Cell1.cell {w : World} {g : Nat} {v : Value} (h : Cell1 w g v) : w.cell? ⟨g, 0, none⟩ = some v := Go.Joins.cell_of_block h 0
theorem Cell1.free {w : World} {g : Nat} {v : Value} (h : Cell1 w g v) : w.frozen? ⟨g, 0, none⟩ = false := Go.Joins.unfrozen_of_block h 0
theorem Cell1.set {w : World} {g : Nat} {v : Value} (h : Cell1 w g v) (u : Value) : Cell1 (w.setCell ⟨g, 0, none⟩ u) g u := Go.Joins.block_setCell (i := 0) h u
theorem Cell1.alloc {w : World} {g : Nat} {v : Value} (h : Cell1 w g v) (hg : g < w.heap.size) (o : Obj) : Cell1 (w.alloc o) g v := (Below.heap_alloc w o g hg).trans h

set_option maxHeartbeats 400000 in
theorem depC_any (S : Nat → Prop) (g : Nat) (x : VT) (v : Value) (W : World) (lvl st : Nat) (hg : g < W.heap.size) (h : LV W S x v) (hl : lvl ≤ 4611686018427387904) (hc : Cell1 W g (.int .i64 st)) :
    Calls Try.prog 84 #[v, .int .i64 lvl, .pointer (some ⟨g, 0, none⟩)] W fun e w' => e = .returned (.bool true) ∧ Cell1 w' g (.int .i64 ((max st lvl : Nat) : Int)) ∧ Only W w' g := by
  obtain ⟨A, c, A', c', rfl, -, -, -, -, -, -, -⟩ := h.shape
  have HC := Lib.hid hc
  have c0 := hc.cell
  have f0 := hc.free
  clear h hc
  go_enter Try.func84, Try.ntmps84
  go_wp2_with fail
  all_goals
    go_ret
    refine ⟨rfl, ?_, ((Only.refl W g).set _ _).alloc _⟩
    have e := (HC.out.set (.int .i64 ((max st lvl : Nat) : Int))).alloc (by simpa [World.setCell] using hg) (.cells #[.int .i64 x.kind, .int .i64 x.num, .string x.text, .slice A x.items.length c, .slice A' x.names.length c'] 49)
  · have h : st < lvl := by assumption
    rwa [Nat.max_eq_right (by omega)] at e ⊢
  · have h : ¬ st < lvl := by assumption
    rwa [Nat.max_eq_left (by omega)] at e ⊢

set_option maxHeartbeats 400000 in
theorem depth_any (S : Nat → Prop) (t : VT) (v : Value) (w : World) (hS : ∀ b, S b → b < w.heap.size) (h : LV w S t v) (hd : depthT t ≤ 4611686018427387903) : Calls Try.prog 74 #[v] w fun e w' => e = .returned (.int .i64 (depthT t)) ∧ Below w.heap.size w w' := by
  obtain ⟨A, c, A', c', rfl, -, -, -, -, -, -, -⟩ := h.shape
  obtain ⟨o, ho⟩ : ∃ o : Obj, o = .cells #[.int .i64 t.kind, .int .i64 t.num, .string t.text, .slice A t.items.length c, .slice A' t.names.length c'] 49 := ⟨_, rfl⟩
  obtain ⟨w2, hw2⟩ : ∃ w2 : World, w2 = (w.alloc o).alloc (.cells #[.int .i64 0] 3) := ⟨_, rfl⟩
  have hsz : w2.heap.size = w.heap.size + 2 := by rw [hw2]; simp
  have hb2 : Below w.heap.size w w2 := by rw [hw2]; exact ((below_box o).alloc (by simp) _)
  have hs : Shows 84 #[.pointer (some ⟨w.heap.size + 1, 0, none⟩)] S (w.heap.size + 1) (fun W st => Cell1 W (w.heap.size + 1) (.int .i64 ((st : Nat) : Int))) depF 4611686018427387904 := fun x v W lvl st hg hv hl hc =>
    (depC_any S _ x v W lvl st hg hv hl hc).mono fun e w' ⟨he, hb, ho⟩ => ⟨he, hb, ho⟩
  have hc0 : Cell1 w2 (w.heap.size + 1) (.int .i64 ((0 : Nat) : Int)) := by
    have := heap_alloc_new (w.alloc o) (.cells #[.int .i64 0] 3)
    rw [hw2]
    unfold Cell1
    simpa using this
  have HC := Lib.hid (walk_any 84 #[.pointer (some ⟨w.heap.size + 1, 0, none⟩)] S (w.heap.size + 1) (fun W st => Cell1 W (w.heap.size + 1) (.int .i64 ((st : Nat) : Int))) depF 4611686018427387904 enters_depth (fun b hb => Nat.lt_succ_of_lt (hS b hb)) (Nat.le_refl _) (fun _ _ _ he hi => he.trans hi) hs (depthT t) t _ w2 1 0 (Nat.le_refl _)
    (h.below hS hb2) (by omega) (by omega) hc0)
  have hr := walk_dep t 1 0
  have ht : 1 ≤ depthT t := by cases t; rw [depthT_mk]; omega
  have hr1 : (walkT depF t 1 0).1 = depthT t := by rw [hr]; show max 0 (1 + depthT t - 1) = _; omega
  rw [hr1] at HC
  have HB := Lib.hid hb2
  subst ho hw2
  clear h hs hr hr1 ht hc0 hb2 hsz
  go_enter Try.func74, Try.ntmps74
  go_wp2_with fail
  refine HC.out.mono ?_
  rintro e w' ⟨rfl, hc, ho⟩
  have c0 := hc.cell
  have HB2 := Lib.hid (HB.out.trans (ho.below (B := w.heap.size) (by simp; omega) (by omega)))
  clear hc ho HC HB
  go_wp2_with fail
  go_ret
  exact ⟨rfl, HB2.out⟩

set_option maxHeartbeats 400000 in
theorem depthV_any (S : Nat → Prop) (t : VT) (v : Value) (w : World) (hS : ∀ b, S b → b < w.heap.size) (h : LV w S t v) (hd : depthT t ≤ 4611686018427387903) : Calls Try.prog 43 #[v] w fun e w' => e = .returned (.int .i64 (if mayT t then (depthT t : Int) else 0)) ∧ Below w.heap.size w w' := by
  have HV := Lib.hid h
  obtain ⟨A, c, A', c', rfl, -, -, -, -, -, -, -⟩ := h.shape
  obtain ⟨o, ho⟩ : ∃ o : Obj, o = .cells #[.int .i64 t.kind, .int .i64 t.num, .string t.text, .slice A t.items.length c, .slice A' t.names.length c'] 49 := ⟨_, rfl⟩
  have HM := Lib.hid (may_any S t _ (w.alloc o) (sub_alloc hS o) (h.alloc hS o) hd)
  have HO := Lib.hid ho
  have HD := Lib.hid hd
  clear h hd
  generalize hm : mayT t = m at *
  clear hm
  go_enter Try.func43, Try.ntmps43
  go_wp2_with fail
  rw [← HO.out]
  refine HM.out.mono ?_
  rintro e w1 ⟨rfl, hb⟩
  have HB1 := Lib.hid (toStart (below_box o) hb)
  have hcell : ∀ i, w1.cell? ⟨w.heap.size, i, none⟩ = (w.alloc o).cell? ⟨w.heap.size, i, none⟩ := fun i => hb.cell (p := ⟨w.heap.size, i, none⟩) (by simp)
  have k0 := hcell 0
  have k1 := hcell 1
  have k2 := hcell 2
  have k3 := hcell 3
  have k4 := hcell 4
  rw [HO.out] at k0 k1 k2 k3 k4
  simp at k0 k1 k2 k3 k4
  clear hcell hb HM
  cases m
  · go_wp2_with fail
    go_ret
    exact ⟨rfl, HB1.out⟩
  · go_wp2_with fail
    refine (depth_any S t _ w1 (sub_below hS HB1.out) (HV.out.below hS HB1.out) HD.out).mono ?_
    rintro e w2 ⟨rfl, hb⟩
    have HB2 := Lib.hid (toStart HB1.out hb)
    clear hb HB1 HV k0 k1 k2 k3 k4
    go_wp2_with fail
    go_ret
    exact ⟨rfl, HB2.out⟩
end Go.Proofs.Yteakkbgfkcknlaa
