/- Whether a value may be, and how deep it is. -/
import Derived.Test.YtpcdngpppjdgcaaGreatKValB
import Derived.Test.YtpcdngpppjdgcaaGreatKMath
import Derived.Deep.RegionWith
import Derived.Outline
import Derived.Deep.QuietTactic
import Derived.BigQuiet
namespace Go.Proofs.YtpcdngpppjdgcaaGreat
open Lib (hid)
set_option linter.unusedVariables false
set_option linter.unusedSimpArgs false
open Go.RowKit

theorem enters_may : Enters 151 := fun _ _ => by simp [callFunc, go_sem, Tryz.func151, Tryz.f151]
theorem enters_depth : Enters 153 := fun _ _ => by simp [callFunc, go_sem, Tryz.func153, Tryz.f153]

def mayF : VT → Nat → Unit → Unit × Bool := fun x _ st => (st, fitsT x)
mutual
theorem walk_may : ∀ (t : VT) (d : Nat) (st : Unit), (walkT mayF t d st).2 = mayT t
 | .mk k i s l ns, d, st => by
  unfold mayT
  by_cases h : fitsT (.mk k i s l ns) = true
  ·rw [walkT_go (f := mayF) (t := .mk k i s l ns) (d := d) (st := st) h, h, Bool.true_and]; exact walk_mayL l _ _
  ·rw [walkT_stop (f := mayF) (by simpa [mayF] using h)]; simp [h]
theorem walk_mayL : ∀ (l : List VT) (d : Nat) (st : Unit), (walkL mayF l d st).2 = mayL l
 | [], d, st => by rw [walkL_nil]; unfold mayL; rfl
 | t :: r, d, st => by
  unfold mayL
  have h := walk_may t d st
  by_cases hm : mayT t = true
  ·rw [walkL_go (by rw [h, hm]), hm, Bool.true_and]; exact walk_mayL r _ _
  ·rw [walkL_stop (by rw [h]; simpa using hm)]; simp [hm]
end

set_option maxHeartbeats 400000 in
theorem mayC_any (S : Nat → Prop) (x : VT) (v : Value) (W : World) (lvl : Nat) (hS : ∀ b, S b → b < W.heap.size) (h : LV W S x v) : Calls Tryz.prog 151 #[v, .int .i64 lvl] W fun e w' => e = .returned (.bool (fitsT x)) ∧ Below W.heap.size W w' := by
 have HV := hid h
 obtain ⟨A, c, A', c', rfl, -, -, -, -, -, -, -⟩ := h.shape
 have HC := hid (fits_any S x _ _ (sub_alloc hS _) (h.alloc hS (.cells #[.int .i64 x.kind, .int .i64 x.num, .string x.text, .slice A x.items.length c, .slice A' x.names.length c'] 25)))
 clear h
 go_enter Tryz.func151, Tryz.ntmps151
 go_wp2_with fail
 refine HC.out.mono ?_
 rintro e w' ⟨rfl, hb⟩
 have HB := hid (toStart (below_box _) hb)
 clear hb HC
 go_wp2_with fail
 go_ret
 exact ⟨rfl, HB.out⟩

set_option maxHeartbeats 400000 in
theorem may_any (S : Nat → Prop) (t : VT) (v : Value) (w : World) (hS : ∀ b, S b → b < w.heap.size) (h : LV w S t v) (hd : depthT t ≤ 4611686018427387903) : Calls Tryz.prog 118 #[v] w fun e w' => e = .returned (.bool (mayT t)) ∧ Below w.heap.size w w' := by
 have HV := hid h
 obtain ⟨A, c, A', c', rfl, -, -, -, -, -, -, -⟩ := h.shape
 have hs : Shows 151 #[] S w.heap.size (fun _ _ => True) mayF 4611686018427387904 := fun x v W lvl st hg hv _ _ =>
  (mayC_any S x v W lvl (fun b hb => Nat.lt_trans (hS b hb) hg) hv).mono fun e w' ⟨he, hb⟩ => ⟨he, trivial, Only.ofBelow hb⟩
 have HC := hid (walk_any 151 #[] S w.heap.size (fun _ _ => True) mayF 4611686018427387904 enters_may hS (Nat.le_refl _) (fun _ _ _ _ _ => trivial) hs (depthT t) t _ (w.alloc (.cells #[.int .i64 t.kind, .int .i64 t.num, .string t.text, .slice A t.items.length c, .slice A' t.names.length c'] 25)) 1 () (Nat.le_refl _)
  (h.alloc hS _) (by simp) (by omega) trivial)
 have HR := hid (walk_may t 1 ())
 clear h hs
 go_enter Tryz.func118, Tryz.ntmps118
 go_wp2_with fail
 refine HC.out.mono ?_
 rintro e w' ⟨rfl, -, hb⟩
 have HB := hid ((below_box (w := w) _).trans (hb.below (by simp) (Nat.le_refl _)))
 rw [HR.out]
 clear hb HC
 go_wp2_with fail
 go_ret
 exact ⟨rfl, HB.out⟩

/-! ### depth -/
def depF : VT → Nat → Nat → Nat × Bool := fun _ lvl st => (max st lvl, true)
mutual
theorem walk_dep : ∀ (t : VT) (d : Nat) (st : Nat), walkT depF t d st = (max st (d + depthT t - 1), true)
 | .mk k i s l ns, d, st => by
  rw [walkT_go (f := depF) rfl, depthT_mk]
  show walkL depF l (d + 1) (max st d) = _
  rw [walk_depL l]
  by_cases h : depthL l = 0
  ·rw [if_pos h, h]; congr 1
  ·rw [if_neg h]; congr 1; omega
theorem walk_depL : ∀ (l : List VT) (d : Nat) (st : Nat), walkL depF l d st = (if depthL l = 0 then st else max st (d + depthL l - 1), true)
 | [], d, st => by rw [walkL_nil]; unfold depthL; rfl
 | t :: r, d, st => by
  have h := walk_dep t d st
  have ht : 1 ≤ depthT t := by cases t; rw [depthT_mk]; omega
  rw [walkL_go (by rw [h]), h, walk_depL r]
  conv => rhs; unfold depthL
  show (if depthL r = 0 then max st (d + depthT t - 1) else max (max st (d + depthT t - 1)) (d + depthL r - 1), true) = (if max (depthT t) (depthL r) = 0 then st else max st (d + max (depthT t) (depthL r) - 1), true)
  congr 1
  split <;> split <;> omega
end

def Cell1 (w : World) (g : Nat) (v : Value) : Prop := w.heap[g]? = some (.cells #[v] 3 (0, 0))
theorem Cell1.cell {w : World} {g : Nat} {v : Value} (h : Cell1 w g v) : w.cell? ⟨g, 0, none⟩ = some v := Go.Joins.cell_of_block h 0
theorem Cell1.free {w : World} {g : Nat} {v : Value} (h : Cell1 w g v) : w.frozen? ⟨g, 0, none⟩ = false := Go.Joins.unfrozen_of_block h 0
theorem Cell1.set {w : World} {g : Nat} {v : Value} (h : Cell1 w g v) (u : Value) : Cell1 (w.setCell ⟨g, 0, none⟩ u) g u := Go.Joins.block_setCell (i := 0) h u
theorem Cell1.alloc {w : World} {g : Nat} {v : Value} (h : Cell1 w g v) (hg : g < w.heap.size) (o : Obj) : Cell1 (w.alloc o) g v := (Below.heap_alloc w o g hg).trans h

set_option maxHeartbeats 400000 in
theorem depC_any (S : Nat → Prop) (g : Nat) (x : VT) (v : Value) (W : World) (lvl st : Nat) (hg : g < W.heap.size) (h : LV W S x v) (hl : lvl ≤ 4611686018427387904) (hc : Cell1 W g (.int .i64 st)) :
  Calls Tryz.prog 153 #[v, .int .i64 lvl, .pointer (some ⟨g, 0, none⟩)] W fun e w' => e = .returned (.bool true) ∧ Cell1 w' g (.int .i64 ((max st lvl : Nat) : Int)) ∧ Only W w' g := by
 obtain ⟨A, c, A', c', rfl, -, -, -, -, -, -, -⟩ := h.shape
 have HC := hid hc
 have c0 := hc.cell
 have f0 := hc.free
 clear h hc
 go_enter Tryz.func153, Tryz.ntmps153
 go_wp2_with fail
 all_goals
  go_ret
  refine ⟨rfl, ?_, ((Only.refl W g).set _ _).alloc _⟩
  have e := (HC.out.set (.int .i64 ((max st lvl : Nat) : Int))).alloc (by simpa [World.setCell] using hg) (.cells #[.int .i64 x.kind, .int .i64 x.num, .string x.text, .slice A x.items.length c, .slice A' x.names.length c'] 25)
 ·have h : st < lvl := by assumption
  rwa [Nat.max_eq_right (by omega)] at e ⊢
 ·have h : ¬ st < lvl := by assumption
  rwa [Nat.max_eq_left (by omega)] at e ⊢

set_option maxHeartbeats 400000 in
theorem depth_any (S : Nat → Prop) (t : VT) (v : Value) (w : World) (hS : ∀ b, S b → b < w.heap.size) (h : LV w S t v) (hd : depthT t ≤ 4611686018427387903) : Calls Tryz.prog 119 #[v] w fun e w' => e = .returned (.int .i64 (depthT t)) ∧ Below w.heap.size w w' := by
 obtain ⟨A, c, A', c', rfl, -, -, -, -, -, -, -⟩ := h.shape
 obtain ⟨o, ho⟩ : ∃ o : Obj, o = .cells #[.int .i64 t.kind, .int .i64 t.num, .string t.text, .slice A t.items.length c, .slice A' t.names.length c'] 25 := ⟨_, rfl⟩
 obtain ⟨w2, hw2⟩ : ∃ w2 : World, w2 = (w.alloc o).alloc (.cells #[.int .i64 0] 3) := ⟨_, rfl⟩
 have hsz : w2.heap.size = w.heap.size + 2 := by rw [hw2]; simp
 have hb2 : Below w.heap.size w w2 := by rw [hw2]; exact ((below_box o).alloc (by simp) _)
 have hs : Shows 153 #[.pointer (some ⟨w.heap.size + 1, 0, none⟩)] S (w.heap.size + 1) (fun W st => Cell1 W (w.heap.size + 1) (.int .i64 ((st : Nat) : Int))) depF 4611686018427387904 := fun x v W lvl st hg hv hl hc =>
  (depC_any S _ x v W lvl st hg hv hl hc).mono fun e w' ⟨he, hb, ho⟩ => ⟨he, hb, ho⟩
 have hc0 : Cell1 w2 (w.heap.size + 1) (.int .i64 ((0 : Nat) : Int)) := by
  have := heap_alloc_new (w.alloc o) (.cells #[.int .i64 0] 3)
  rw [hw2]
  unfold Cell1
  simpa using this
 have HC := hid (walk_any 153 #[.pointer (some ⟨w.heap.size + 1, 0, none⟩)] S (w.heap.size + 1) (fun W st => Cell1 W (w.heap.size + 1) (.int .i64 ((st : Nat) : Int))) depF 4611686018427387904 enters_depth (fun b hb => Nat.lt_succ_of_lt (hS b hb)) (Nat.le_refl _) (fun _ _ _ he hi => he.trans hi) hs (depthT t) t _ w2 1 0 (Nat.le_refl _)
  (h.below hS hb2) (by omega) (by omega) hc0)
 have hr := walk_dep t 1 0
 have ht : 1 ≤ depthT t := by cases t; rw [depthT_mk]; omega
 have hr1 : (walkT depF t 1 0).1 = depthT t := by rw [hr]; show max 0 (1 + depthT t - 1) = _; omega
 rw [hr1] at HC
 have HB := hid hb2
 subst ho hw2
 clear h hs hr hr1 ht hc0 hb2 hsz
 go_enter Tryz.func119, Tryz.ntmps119
 go_wp2_with fail
 refine HC.out.mono ?_
 rintro e w' ⟨rfl, hc, ho⟩
 have c0 := hc.cell
 have HB2 := hid (HB.out.trans (ho.below (B := w.heap.size) (by simp; omega) (by omega)))
 clear hc ho HC HB
 go_wp2_with fail
 go_ret
 exact ⟨rfl, HB2.out⟩
theorem OwnB.slice {w : World} {B : Nat} {v : Value} {l : List UInt8} (h : OwnB w B v l) : ∃ A c, v = .slice A l.length c := by
 rcases h.2 with ⟨rfl, h2⟩ | ⟨g, cap, cur, rfl, _⟩
 ·exact ⟨none, 0, by rw [h2]⟩
 ·exact ⟨_, _, rfl⟩
theorem wrap64_add (a b : Int) : wrap64 (wrap64 a + b) = wrap64 (a + b) := by unfold wrap64; omega
theorem wrap64_add2 (a b : Int) : wrap64 (a + wrap64 b) = wrap64 (a + b) := by unfold wrap64; omega
theorem wrap64_id {a : Int} (h1 : -9223372036854775808 ≤ a) (h2 : a ≤ 9223372036854775807) : wrap64 a = a := by unfold wrap64; omega

set_option maxHeartbeats 400000 in
theorem csize_any (n : Nat) (w : World) (hn : n ≤ 4611686018427387904) : Calls Tryz.prog 182 #[.int .i64 n] w fun e w' => e = .returned (.int .i64 ((grp n).length)) ∧ Below w.heap.size w w' := by
 go_enter Tryz.func182, Tryz.ntmps182
 go_wp2_with fail
 refine (count_any n _ (by omega)).mono ?_
 rintro e w1 (⟨_, _, v, rfl, hv, hb⟩ | ⟨h, _⟩)
 rotate_left
 ·omega
 obtain ⟨A, c, rfl⟩ := hv.slice
 have HB := hid hb
 clear hv hb
 go_wp2_with fail
 go_ret
 exact ⟨rfl, HB.out⟩

def tsz (s : ByteArray) : Nat := (grp s.size).length + s.size
set_option maxHeartbeats 400000 in
theorem tsize_any (s : ByteArray) (w : World) (hs : s.size ≤ 140737488351232) : Calls Tryz.prog 181 #[.string s] w fun e w' => e = .returned (.int .i64 (tsz s)) ∧ Below w.heap.size w w' := by
 have hg := (grp_length s.size).1
 go_enter Tryz.func181, Tryz.ntmps181
 go_wp2_with fail
 refine (csize_any s.size _ (by omega)).mono ?_
 rintro e w1 ⟨rfl, hb⟩
 have HB := hid hb
 clear hb
 go_wp2_with fail
 go_ret
 exact ⟨ret_i64 (by unfold tsz; omega), HB.out⟩

def sumN (ns : List ByteArray) : Nat := (ns.map tsz).sum
def ownP (k i : Int) (s : ByteArray) (n : Nat) (ns : List ByteArray) : Nat :=
 if k = 2 then 2 else if k = 3 then 1 + (grp (zig i)).length else if k = 4 ∨ k = 5 then 1 + tsz s
 else if k = 6 then 1 + (grp n).length else if k = 7 then 1 + (grp n).length + sumN ns else 1
def ownT : VT → Nat
 | .mk k i s l ns => ownP k i s l.length ns
theorem sumN_take (ns : List ByteArray) (k : Nat) (hk : k < ns.length) : sumN (ns.take (k + 1)) = sumN (ns.take k) + tsz ns[k] := by
 unfold sumN
 rw [List.take_add_one, List.getElem?_eq_getElem hk, List.map_append, List.sum_append]
 simp
theorem sumN_all (ns : List ByteArray) (k : Nat) (hk : ns.length ≤ k) : sumN (ns.take k) = sumN ns := by rw [List.take_of_length_le hk]
theorem tsz_le (s : ByteArray) (h : s.size ≤ 140737488351232) : tsz s ≤ 140737488351300 := by have := (grp_length s.size).1; unfold tsz; omega

section
variable (i : Int) (s : ByteArray) (A A' : Option Addr) (n c c' : Nat) (ns : List ByteArray) (w : World)
set_option maxHeartbeats 1000000
set_option maxRecDepth 100000
theorem own1 (k : Int) (hk : ¬ (2 ≤ k ∧ k ≤ 7)) : Calls Tryz.prog 155 #[.agg #[.int .i64 k, .int .i64 i, .string s, .slice A n c, .slice A' ns.length c']] w fun e w' => e = .returned (.int .i64 (wrap64 (ownP k i s n ns))) ∧ Below w.heap.size w w' := by
 have e0 : ownP k i s n ns = 1 := by
  unfold ownP
  rw [if_neg (by omega), if_neg (by omega), if_neg (by omega), if_neg (by omega), if_neg (by omega)]
 rw [e0]
 have b2 : (k == 2) = false := by simp; omega
 have b3 : (k == 3) = false := by simp; omega
 have b4 : (k == 4) = false := by simp; omega
 have b5 : (k == 5) = false := by simp; omega
 have b6 : (k == 6) = false := by simp; omega
 have b7 : (k == 7) = false := by simp; omega
 clear e0 hk
 go_enter Tryz.func155, Tryz.ntmps155
 go_wp2_with fail
 go_ret
 exact ⟨ret_i64 (by rw [wrap64_id (by decide) (by decide)]; rfl), below_box _⟩
theorem own2 : Calls Tryz.prog 155 #[.agg #[.int .i64 2, .int .i64 i, .string s, .slice A n c, .slice A' ns.length c']] w fun e w' => e = .returned (.int .i64 (wrap64 (ownP 2 i s n ns))) ∧ Below w.heap.size w w' := by
 go_enter Tryz.func155, Tryz.ntmps155
 go_wp2_with fail
 go_ret
 exact ⟨ret_i64 (by unfold ownP; rw [if_pos rfl, wrap64_id (by decide) (by decide)]; rfl), below_box _⟩
theorem own3 (hi : Rng i) : Calls Tryz.prog 155 #[.agg #[.int .i64 3, .int .i64 i, .string s, .slice A n c, .slice A' ns.length c']] w fun e w' => e = .returned (.int .i64 (wrap64 (ownP 3 i s n ns))) ∧ Below w.heap.size w w' := by
 have hg := (grp_length (zig i)).1
 go_enter Tryz.func155, Tryz.ntmps155
 go_wp2_with fail
 refine (int_any i _ hi.1 hi.2).mono ?_
 rintro e w1 ⟨v, rfl, hv, hb⟩
 obtain ⟨A2, c2, rfl⟩ := hv.slice
 have HB := hid (toStart (below_box _) hb)
 clear hv hb
 go_wp2_with fail
 go_ret
 exact ⟨ret_i64 (by unfold ownP; simp; rw [wrap64_id (by omega) (by omega)]), HB.out⟩
theorem own45 (k : Int) (hk : k = 4 ∨ k = 5) (hs : s.size ≤ 140737488351232) : Calls Tryz.prog 155 #[.agg #[.int .i64 k, .int .i64 i, .string s, .slice A n c, .slice A' ns.length c']] w fun e w' => e = .returned (.int .i64 (wrap64 (ownP k i s n ns))) ∧ Below w.heap.size w w' := by
 have hg := tsz_le s hs
 have HS := hid hs
 clear hs
 have e0 : ownP k i s n ns = 1 + tsz s := by unfold ownP; rw [if_neg (by omega), if_neg (by omega), if_pos hk]
 rw [e0]
 clear e0
 rcases hk with rfl | rfl
 all_goals
  go_enter Tryz.func155, Tryz.ntmps155
  go_wp2_with fail
  refine (tsize_any s _ HS.out).mono ?_
  rintro e w1 ⟨rfl, hb⟩
  have HB := hid (toStart (below_box _) hb)
  clear hb
  go_wp2_with fail
  go_ret
  exact ⟨ret_i64 (by rw [wrap64_id (by omega) (by omega)]; omega), HB.out⟩
theorem own6 (hn : n ≤ 140737488351232) : Calls Tryz.prog 155 #[.agg #[.int .i64 6, .int .i64 i, .string s, .slice A n c, .slice A' ns.length c']] w fun e w' => e = .returned (.int .i64 (wrap64 (ownP 6 i s n ns))) ∧ Below w.heap.size w w' := by
 have hg := (grp_length n).1
 go_enter Tryz.func155, Tryz.ntmps155
 go_wp2_with fail
 refine (csize_any n _ (by omega)).mono ?_
 rintro e w1 ⟨rfl, hb⟩
 have HB := hid (toStart (below_box _) hb)
 clear hb
 go_wp2_with fail
 go_ret
 exact ⟨ret_i64 (by unfold ownP; simp; rw [wrap64_id (by omega) (by omega)]), HB.out⟩
theorem own7 (S : Nat → Prop) (hS : ∀ b, S b → b < w.heap.size) (hN : StrsAt w S A' ns) (hl : ns.length ≤ 140737488351232) (hn : n ≤ 140737488351232) :
  Calls Tryz.prog 155 #[.agg #[.int .i64 7, .int .i64 i, .string s, .slice A n c, .slice A' ns.length c']] w fun e w' => e = .returned (.int .i64 (wrap64 (ownP 7 i s n ns))) ∧ Below w.heap.size w w' := by
 have hg := (grp_length n).1
 have e0 : ownP 7 i s n ns = 1 + (grp n).length + sumN ns := by unfold ownP; simp
 have HE := hid e0
 clear e0
 generalize ownP 7 i s n ns = R at *
 have HN := hid hN
 have HL := hid hl
 clear hN
 go_enter Tryz.func155, Tryz.ntmps155
 go_wp2_with fail
 refine (csize_any n _ (by omega)).mono ?_
 rintro e w1 ⟨rfl, hb⟩
 have hcell : ∀ q, w1.cell? ⟨w.heap.size, q, none⟩ = (w.alloc (.cells #[.int .i64 7, .int .i64 i, .string s, .slice A n c, .slice A' ns.length c'] 25)).cell? ⟨w.heap.size, q, none⟩ := fun q => hb.cell (p := ⟨w.heap.size, q, none⟩) (by simp)
 have k4 := hcell 4
 simp at k4
 have HB := hid (toStart (below_box _) hb)
 clear hb hcell
 go_wp2_with fail
 go_loopw [3, 41] (fun tot j wr => ∃ k : Nat, j = .int .i64 k ∧ k ≤ ns.length ∧ tot = .int .i64 (wrap64 ((1 + (grp n).length + sumN (ns.take k) : Nat) : Int)) ∧ Hid (Below w.heap.size w wr)) (fun _ j _ => ns.length - (intOf j).toNat)
 case atStart => exact ⟨0, rfl, Nat.zero_le _, by rw [wrap64_id (by simp [sumN]; omega) (by simp [sumN]; omega)]; simp [sumN], HB.out⟩
 case round =>
  obtain ⟨k, rfl, hk, rfl, HI⟩ := hrel
  by_cases hlt : k < ns.length
  ·obtain ⟨b, off, rfl, hb, hcells⟩ := HN.out (by omega)
   obtain ⟨hc0, hsz⟩ := hcells k hlt
   have hcx : wr.cell? ⟨b, off + k, none⟩ = some (.string ns[k]) := (HI.out.cell (p := ⟨b, off + k, none⟩) (hS b hb)).trans hc0
   have hst := sumN_take ns k hlt
   generalize hgs : ns[k] = s1 at *
   have HSZ := hid hsz
   have HST := hid hst
   clear hcells hc0 hsz hst
   generalize hR : 1 + (grp n).length + sumN (ns.take k) = T at *
   go_wp2_with fail
   refine (tsize_any s1 _ HSZ.out).mono ?_
   rintro e w2 ⟨rfl, hb2⟩
   have HB2 := hid (HI.out.trans (hb2.mono HI.out.size))
   clear hb2 HI
   go_wp2_with fail
   go_roundw
   case rel => exact ⟨k + 1, by go_num, by omega, by
    have e1 : 1 + (grp n).length + sumN (ns.take (k + 1)) = T + tsz s1 := by rw [HST.out]; omega
    rw [e1, wrap64_add]; congr 2, HB2⟩
   case measure => simp [intOf]; omega
  ·have e1 := sumN_all ns k (by omega)
   rw [e1, ← HE.out]
   go_wp2_with fail
   go_ret
   exact ⟨rfl, HI.out⟩
end
theorem own_any (S : Nat → Prop) (t : VT) (v : Value) (w : World) (hS : ∀ b, S b → b < w.heap.size) (h : LV w S t v) : Calls Tryz.prog 155 #[v] w fun e w' => e = .returned (.int .i64 (wrap64 (ownT t))) ∧ Below w.heap.size w w' := by
 obtain ⟨A, c, A', c', rfl, -, h2, h3, h4, h5, h6, -⟩ := h.shape
 cases t with
 | mk k i s l ns =>
 show Calls Tryz.prog 155 #[.agg #[.int .i64 k, .int .i64 i, .string s, .slice A l.length c, .slice A' ns.length c']] w fun e w' => e = .returned (.int .i64 (wrap64 (ownP k i s l.length ns))) ∧ Below w.heap.size w w'
 by_cases hk : 2 ≤ k ∧ k ≤ 7
 ·obtain rfl | rfl | hk | rfl | rfl : k = 2 ∨ k = 3 ∨ (k = 4 ∨ k = 5) ∨ k = 6 ∨ k = 7 := by omega
  ·exact own2 _ _ _ _ _ _ _ _ _
  ·exact own3 _ _ _ _ _ _ _ _ _ h2
  ·exact own45 _ _ _ _ _ _ _ _ _ k hk h3
  ·exact own6 _ _ _ _ _ _ _ _ _ h4
  ·exact own7 _ _ _ _ _ _ _ _ _ S hS h6 h5 h4
 ·exact own1 _ _ _ _ _ _ _ _ _ k hk
theorem LV.drew {w : World} {S : Nat → Prop} {t : VT} {v : Value} (h : LV w S t v) : LV w.drew S t v := LV.keep (w := w) (w' := w.drew) (fun _ _ => rfl) h
theorem enters_size : Enters 154 := fun _ _ => by simp [callFunc, go_sem, Tryz.func154, Tryz.f154]
theorem i64wrap (x : Int) : IntKind.i64.wrap x = wrap64 x := by rw [IntKind.wrap_i64]; unfold wrap64; rfl
def sizF : VT → Nat → Int → Int × Bool := fun x _ st => (wrap64 (st + wrap64 (ownT x)), true)
mutual
def sizeT : VT → Nat
 | .mk k i s l ns => ownP k i s l.length ns + sizeL l
def sizeL : List VT → Nat
 | [] => 0
 | t :: r => sizeT t + sizeL r
end
mutual
theorem walk_siz : ∀ (t : VT) (d : Nat) (st : Int), walkT sizF t d (wrap64 st) = (wrap64 (st + sizeT t), true)
 | .mk k i s l ns, d, st => by
  rw [walkT_go (f := sizF) rfl]
  show walkL sizF l (d + 1) (wrap64 (wrap64 st + wrap64 (ownP k i s l.length ns))) = _
  rw [wrap64_add2, wrap64_add, walk_sizL l]
  unfold sizeT
  congr 2; omega
theorem walk_sizL : ∀ (l : List VT) (d : Nat) (st : Int), walkL sizF l d (wrap64 st) = (wrap64 (st + sizeL l), true)
 | [], d, st => by rw [walkL_nil]; unfold sizeL; simp
 | t :: r, d, st => by
  have h := walk_siz t d st
  rw [walkL_go (by rw [h]), h]
  show walkL sizF r d (wrap64 (st + sizeT t)) = _
  rw [walk_sizL r]
  conv => rhs; unfold sizeL
  congr 2; omega
end

set_option maxHeartbeats 1000000 in
theorem sizC_any (S : Nat → Prop) (g : Nat) (x : VT) (v : Value) (W : World) (lvl : Nat) (st : Int) (hS : ∀ b, S b → b < g) (hg : g < W.heap.size) (h : LV W S x v) (hc : Cell1 W g (.int .i64 (wrap64 st))) :
  Calls Tryz.prog 154 #[v, .int .i64 lvl, .pointer (some ⟨g, 0, none⟩)] W fun e w' => e = .returned (.bool true) ∧ Cell1 w' g (.int .i64 (wrap64 (st + wrap64 (ownT x)))) ∧ Only W w' g := by
 have HV := hid h
 obtain ⟨A, c, A', c', rfl, -, -, -, -, -, -, -⟩ := h.shape
 obtain ⟨o, ho⟩ : ∃ o : Obj, o = .cells #[.int .i64 x.kind, .int .i64 x.num, .string x.text, .slice A x.items.length c, .slice A' x.names.length c'] 25 := ⟨_, rfl⟩
 have HO := hid ho
 have HC := hid hc
 have c0 := hc.cell
 have f0 := hc.free
 have hc2 := hc.alloc hg o
 have C0 : Hid ((W.alloc o).drew.cell? ⟨g, 0, none⟩ = some (.int .i64 (wrap64 st))) := hc2.cell
 have F0 : Hid ((W.alloc o).drew.frozen? ⟨g, 0, none⟩ = false) := hc2.free
 have HG : Hid (g < (W.alloc o).drew.heap.size) := by
  show g < (W.alloc o).heap.size
  simp; omega
 have HC2 : Hid (Cell1 (W.alloc o).drew g (.int .i64 (wrap64 st))) := hc2
 have HON : Hid (Only W (W.alloc o).drew g) := Only.ofBelow ((below_box o).drew)
 have HW := hid (own_any S x _ (W.alloc o).drew (fun b hb => by have := hS b hb; simp; omega) (h.alloc (fun b hb => Nat.lt_trans (hS b hb) hg) o).drew)
 clear h hc hc2
 subst ho
 go_enter Tryz.func154, Tryz.ntmps154
 go_wp2_with fail
 go_region_with (go_at_call 155; refine HW.out.mono ?_; rintro e w1 ⟨rfl, hb⟩; have c1 := (hb.cell (p := ⟨g, 0, none⟩) HG.out).trans C0.out; have f1 := (World.frozen?_of_block (a := ⟨g, 0, none⟩) (hb.block g HG.out)).trans F0.out)
 all_goals
  have hcw : Cell1 w1 g _ := (hb.block g HG.out).trans HC2.out
  have how : Only W w1 g := HON.out.trans (Only.ofBelow hb)
  have HF := hid (And.intro (hcw.set (.int .i64 (wrap64 (st + wrap64 (ownT x))))) (how.set 0 (.int .i64 (wrap64 (st + wrap64 (ownT x))))))
  have e : IntKind.i64.wrap (wrap64 st + wrap64 (ownT x)) = wrap64 (st + wrap64 (ownT x)) := (i64wrap _).trans (wrap64_add _ _)
  rw [e]
  clear hcw how hb HW HON HC2 HG C0 F0 HV HC c0 f0 e c1 f1
  go_wp2
  go_ret
  exact ⟨rfl, HF.out⟩

set_option maxHeartbeats 400000 in
theorem size_any (S : Nat → Prop) (t : VT) (v : Value) (w : World) (hS : ∀ b, S b → b < w.heap.size) (h : LV w S t v) (hd : depthT t ≤ 4611686018427387903) : Calls Tryz.prog 120 #[v] w fun e w' => e = .returned (.int .i64 (wrap64 (sizeT t))) ∧ Below w.heap.size w w' := by
 obtain ⟨A, c, A', c', rfl, -, -, -, -, -, -, -⟩ := h.shape
 obtain ⟨o, ho⟩ : ∃ o : Obj, o = .cells #[.int .i64 t.kind, .int .i64 t.num, .string t.text, .slice A t.items.length c, .slice A' t.names.length c'] 25 := ⟨_, rfl⟩
 obtain ⟨w2, hw2⟩ : ∃ w2 : World, w2 = (w.alloc o).alloc (.cells #[.int .i64 0] 3) := ⟨_, rfl⟩
 have hsz : w2.heap.size = w.heap.size + 2 := by rw [hw2]; simp
 have hb2 : Below w.heap.size w w2 := by rw [hw2]; exact ((below_box o).alloc (by simp) _)
 have hs : Shows 154 #[.pointer (some ⟨w.heap.size + 1, 0, none⟩)] S (w.heap.size + 1) (fun W st => ∃ st0, st = wrap64 st0 ∧ Cell1 W (w.heap.size + 1) (.int .i64 (wrap64 st0))) sizF 4611686018427387904 := by
  rintro x v W lvl _ hg hv hl ⟨st, rfl, hc⟩
  refine (sizC_any S _ x v W lvl st (fun b hb => Nat.lt_succ_of_lt (hS b hb)) hg hv hc).mono fun e w' ⟨he, hb, ho⟩ => ⟨he, ⟨st + wrap64 (ownT x), ?_, hb⟩, ho⟩
  show wrap64 (wrap64 st + wrap64 (ownT x)) = _
  exact wrap64_add _ _
 have hc0 : Cell1 w2 (w.heap.size + 1) (.int .i64 (wrap64 0)) := by
  have := heap_alloc_new (w.alloc o) (.cells #[.int .i64 0] 3)
  rw [hw2, wrap64_id (by decide) (by decide)]
  unfold Cell1
  simpa using this
 have HC := hid (walk_any 154 #[.pointer (some ⟨w.heap.size + 1, 0, none⟩)] S (w.heap.size + 1) (fun W st => ∃ st0, st = wrap64 st0 ∧ Cell1 W (w.heap.size + 1) (.int .i64 (wrap64 st0))) sizF 4611686018427387904 enters_size (fun b hb => Nat.lt_succ_of_lt (hS b hb)) (Nat.le_refl _) (fun _ _ _ he ⟨st0, hi, hc⟩ => ⟨st0, hi, he.trans hc⟩) hs (depthT t) t _ w2 1 (wrap64 0) (Nat.le_refl _)
  (h.below hS hb2) (by omega) (by omega) ⟨0, rfl, hc0⟩)
 have hr := walk_siz t 1 0
 have hr1 : (walkT sizF t 1 (wrap64 0)).1 = wrap64 (sizeT t) := by rw [hr]; show wrap64 (0 + (sizeT t : Int)) = _; rw [Int.zero_add]
 rw [hr1] at HC
 have HB := hid hb2
 subst ho hw2
 clear h hs hr hr1 hc0 hb2 hsz
 go_enter Tryz.func120, Tryz.ntmps120
 go_wp2_with fail
 refine HC.out.mono ?_
 rintro e w' ⟨rfl, ⟨st0, hst, hc⟩, ho⟩
 rw [← hst] at hc
 have c0 := hc.cell
 have HB2 := hid (HB.out.trans (ho.below (B := w.heap.size) (by simp; omega) (by omega)))
 clear hc ho HC HB hst
 go_wp2_with fail
 go_ret
 exact ⟨rfl, HB2.out⟩
def Box (w : World) (g : Nat) (a b c d e : Value) : Prop := w.heap[g]? = some (.cells #[a, b, c, d, e] 25 (0, 0))
theorem Box.c0 {w : World} {g : Nat} {a b c d e : Value} (h : Box w g a b c d e) : w.cell? ⟨g, 0, none⟩ = some a := Go.Joins.cell_of_block h 0
theorem Box.c1 {w : World} {g : Nat} {a b c d e : Value} (h : Box w g a b c d e) : w.cell? ⟨g, 1, none⟩ = some b := Go.Joins.cell_of_block h 1
theorem Box.c2 {w : World} {g : Nat} {a b c d e : Value} (h : Box w g a b c d e) : w.cell? ⟨g, 2, none⟩ = some c := Go.Joins.cell_of_block h 2
theorem Box.c3 {w : World} {g : Nat} {a b c d e : Value} (h : Box w g a b c d e) : w.cell? ⟨g, 3, none⟩ = some d := Go.Joins.cell_of_block h 3
theorem Box.c4 {w : World} {g : Nat} {a b c d e : Value} (h : Box w g a b c d e) : w.cell? ⟨g, 4, none⟩ = some e := Go.Joins.cell_of_block h 4
theorem Box.free {w : World} {g : Nat} {a b c d e : Value} (h : Box w g a b c d e) (i : Nat) : w.frozen? ⟨g, i, none⟩ = false := Go.Joins.unfrozen_of_block h i
theorem Box.lt {w : World} {g : Nat} {a b c d e : Value} (h : Box w g a b c d e) : g < w.heap.size := (Array.getElem?_eq_some_iff.1 h).1
theorem Box.new {w : World} (a b c d e : Value) : Box (w.alloc (.cells #[a, b, c, d, e] 25)) w.heap.size a b c d e := heap_alloc_new w _
theorem Box.below {w w' : World} {g B : Nat} {a b c d e : Value} (h : Box w g a b c d e) (hb : Below B w w') (hg : g < B) : Box w' g a b c d e := (hb.block g hg).trans h
theorem Box.call {w w' : World} {g : Nat} {a b c d e : Value} (h : Box w g a b c d e) (hb : Below w.heap.size w w') : Box w' g a b c d e := h.below hb h.lt
theorem Box.alloc {w : World} {g : Nat} {a b c d e : Value} (h : Box w g a b c d e) (o : Obj) : Box (w.alloc o) g a b c d e := (Below.heap_alloc w o g h.lt).trans h

def checkT (t : VT) : Int := if mayT t then (if 8 < (depthT t : Int) then 21 else if 4096 < wrap64 (sizeT t) then 22 else 0) else 20

section
variable (S : Nat → Prop) (t : VT) (v : Value) (w : World)
set_option maxHeartbeats 400000

theorem check_any (hS : ∀ b, S b → b < w.heap.size) (h : LV w S t v) (hd : depthT t ≤ 4611686018427387903) : Calls Tryz.prog 83 #[v] w fun e w' => e = .returned (.int .i64 (checkT t)) ∧ Below w.heap.size w w' := by
 have HV := hid h
 obtain ⟨A, c, A', c', rfl, -, -, -, -, -, -, -⟩ := h.shape
 have HX := hid (Box.new (w := w) (.int .i64 t.kind) (.int .i64 t.num) (.string t.text) (.slice A t.items.length c) (.slice A' t.names.length c'))
 have HM := hid (may_any S t _ _ (sub_alloc hS _) (h.alloc hS (.cells #[.int .i64 t.kind, .int .i64 t.num, .string t.text, .slice A t.items.length c, .slice A' t.names.length c'] 25)) hd)
 have HD := hid hd
 have HE : Hid (checkT t = if mayT t then (if 8 < (depthT t : Int) then 21 else if 4096 < wrap64 (sizeT t) then 22 else 0) else 20) := rfl
 generalize checkT t = R at *
 clear h hd
 generalize hm : mayT t = m at *
 clear hm
 go_enter Tryz.func83, Tryz.ntmps83
 go_wp2_with fail
 refine HM.out.mono ?_
 rintro e w1 ⟨rfl, hb⟩
 have HB1 := hid (toStart (below_box _) hb)
 have hx := HX.out.call hb
 have HX1 := hid hx
 have k0 := hx.c0
 have k1 := hx.c1
 have k2 := hx.c2
 have k3 := hx.c3
 have k4 := hx.c4
 clear hx hb HM HX
 cases m
 ·go_wp2_with fail
  go_ret
  rw [HE.out]
  exact ⟨rfl, HB1.out⟩
 ·go_wp2_with fail
  refine (depth_any S t _ w1 (sub_below hS HB1.out) (HV.out.below hS HB1.out) HD.out).mono ?_
  rintro e w2 ⟨rfl, hb⟩
  have HB2 := hid (toStart HB1.out hb)
  have hx := HX1.out.call hb
  clear k0 k1 k2 k3 k4
  have k0 := hx.c0
  have k1 := hx.c1
  have k2 := hx.c2
  have k3 := hx.c3
  have k4 := hx.c4
  clear hx hb HB1 HX1
  by_cases h8 : 8 < (depthT t : Int)
  ·have e1 : R = 21 := by rw [HE.out, if_pos trivial, if_pos h8]
   go_wp2_with fail
   go_ret
   rw [e1]
   exact ⟨rfl, HB2.out⟩
  ·have HE2 : Hid (R = if 4096 < wrap64 (sizeT t) then 22 else 0) := hid (by rw [HE.out, if_pos trivial, if_neg h8])
   clear HE
   go_wp2_with fail
   refine (size_any S t _ w2 (sub_below hS HB2.out) (HV.out.below hS HB2.out) HD.out).mono ?_
   rintro e w3 ⟨rfl, hb⟩
   have HB3 := hid (toStart HB2.out hb)
   clear k0 k1 k2 k3 k4 hb HB2 HV
   generalize wrap64 (sizeT t) = z at *
   by_cases hz : 4096 < z
   ·have e1 : R = 22 := by rw [HE2.out, if_pos hz]
    go_wp2_with fail
    go_ret
    rw [e1]
    exact ⟨rfl, HB3.out⟩
   ·have e1 : R = 0 := by rw [HE2.out, if_neg hz]
    go_wp2_with fail
    go_ret
    rw [e1]
    exact ⟨rfl, HB3.out⟩
end
set_option maxHeartbeats 1000000 in
theorem rname_any (s : ByteArray) (w : World) (hs : s.size ≤ 9223372036854775807) : Calls Tryz.prog 114 #[.string s] w fun e w' => e = .returned (.bool (nameB s.data.toList)) ∧ w = w' := by
 have HS := hid hs
 clear hs
 go_enter Tryz.func114, Tryz.ntmps114
 go_wp2
 go_loopw [3] (fun i wr => ∃ k : Nat, i = .int .i64 k ∧ k ≤ s.size ∧ wr = w ∧ ∀ j (h : j < s.size), j < k → s[j].toNat ≠ 46) (fun i _ => s.size - (intOf i).toNat)
 case atStart => exact ⟨0, rfl, by omega, rfl, fun j _ h => absurd h (by omega)⟩
 case round =>
  obtain ⟨k, rfl, hk, rfl, hj⟩ := hrel
  have HJ := hid hj
  have hs := HS.out
  clear hj
  by_cases hlt : k < s.size
  ·by_cases hb : s[k].toNat = 46
   ·go_wp2
    go_ret
    exact ⟨ret_bool (name_false fun h => h.2.2.2 k hlt hb), rfl⟩
   ·go_wp2
    go_roundw
    case rel => exact ⟨k + 1, by go_num, by omega, trivial, fun j h hjk => by
     by_cases e : j = k
     ·subst e; exact hb
     ·exact HJ.out j h (by omega)⟩
    case measure => simp [intOf]; omega
  ·obtain rfl : k = s.size := by omega
   clear hlt hk
   by_cases h1 : 1 ≤ s.size
   ·by_cases h2 : s.size ≤ 32
    ·by_cases h3 : s[0].toNat = 36
     ·go_wp2
      go_ret
      exact ⟨ret_bool (name_false fun h => h.2.2.1 h1 h3), rfl⟩
     ·go_wp2
      go_ret
      exact ⟨ret_bool (((bne_iff_ne).2 fun h => h3 (by omega)).trans (name_true ⟨h1, h2, fun _ => h3, fun i h => HJ.out i h h⟩)), rfl⟩
    ·go_wp2
     go_ret
     exact ⟨ret_bool (name_false fun h => h2 h.2.1), rfl⟩
   ·go_wp2
    go_ret
    exact ⟨ret_bool (name_false fun h => h1 h.1), rfl⟩
def mayP (ns : List ByteArray) : Bool := decide (1 ≤ ns.length) && decide (ns.length ≤ 8) && ns.all fun s => nameB s.data.toList

set_option maxHeartbeats 400000 in
theorem pmayC_any (s : ByteArray) (w : World) (hs : s.size ≤ 9223372036854775807) : Calls Tryz.prog 112 #[.string s] w fun e w' => e = .returned (.bool (!nameB s.data.toList)) ∧ w = w' := by
 have HS := hid hs
 clear hs
 go_enter Tryz.func112, Tryz.ntmps112
 go_wp2_with fail
 refine (name_any s _ HS.out).mono ?_
 rintro e u ⟨rfl, rfl⟩
 go_wp2_with fail
 go_ret
 exact ⟨rfl, rfl⟩

def BadAt (ns : List ByteArray) (w : World) (e : Ending) (w' : World) : Prop := ∃ i : Int, e = .returned (.int .i64 i) ∧ decide (0 ≤ i) = (!(ns.all fun s => nameB s.data.toList)) ∧ w = w'
theorem all_upto {ns : List ByteArray} (h : ∀ j (h : j < ns.length), nameB ns[j].data.toList = true) : (ns.all fun s => nameB s.data.toList) = true := by
 rw [List.all_eq_true]
 intro x hx
 obtain ⟨j, hj, rfl⟩ := List.mem_iff_getElem.1 hx
 exact h j hj
theorem all_not {ns : List ByteArray} {j : Nat} (hj : j < ns.length) (h : nameB ns[j].data.toList = false) : (ns.all fun s => nameB s.data.toList) = false := by
 rw [List.all_eq_false]
 exact ⟨ns[j], List.getElem_mem hj, by rw [h]; simp⟩

set_option maxHeartbeats 1000000 in
theorem indexF_any (A : Option Addr) (c : Nat) (ns : List ByteArray) (w : World) (S : Nat → Prop) (h : StrsAt w S A ns) (hn : ns.length ≤ 140737488351232) : Calls Tryz.prog 142 #[.slice A ns.length c, .func (.func 112) #[] #[]] w (BadAt ns w) := by
 have HS := hid h
 have HN := hid hn
 clear h
 go_enter Tryz.func142, Tryz.ntmps142
 go_wp2_with fail
 go_loopw [8] (fun i wr => ∃ k : Nat, i = .int .i64 k ∧ k ≤ ns.length ∧ wr = w ∧ Hid (∀ j (h : j < ns.length), j < k → nameB ns[j].data.toList = true)) (fun i _ => ns.length - (intOf i).toNat)
 case atStart => exact ⟨0, rfl, by omega, rfl, fun j _ h => absurd h (by omega)⟩
 case round =>
  obtain ⟨k, rfl, hk, rfl, HJ⟩ := hrel
  by_cases hlt : k < ns.length
  ·obtain ⟨p, o, rfl, -, hc⟩ := HS.out (by omega)
   have hck := (hc k hlt).1
   have Hz := hid (hc k hlt).2
   clear hc
   go_wp2_with fail
   refine (pmayC_any _ _ (by have := Hz.out; omega)).mono ?_
   rintro e u ⟨rfl, rfl⟩
   cases hb : nameB ns[k].data.toList
   ·go_wp2_with fail
    go_ret
    exact ⟨k, rfl, by rw [all_not hlt hb]; simp, rfl⟩
   ·have Hb := hid hb
    go_wp2_with fail
    go_roundw
    case rel => exact ⟨k + 1, by go_num, by omega, trivial, fun j h hjk => by
     by_cases e : j = k
     ·subst e; exact Hb.out
     ·exact HJ.out j h (by omega)⟩
    case measure => simp [intOf]; omega
  ·go_wp2_with fail
   go_ret
   exact ⟨-1, rfl, by rw [all_upto fun j h => HJ.out j h (by omega)]; rfl, rfl⟩
set_option maxHeartbeats 1000000 in
theorem contF_any (A : Option Addr) (c : Nat) (ns : List ByteArray) (w : World) (S : Nat → Prop) (h : StrsAt w S A ns) (hn : ns.length ≤ 140737488351232) : Calls Tryz.prog 111 #[.slice A ns.length c, .func (.func 112) #[] #[]] w fun e w' => e = .returned (.bool (!(ns.all fun s => nameB s.data.toList))) ∧ w = w' := by
 go_enter Tryz.func111, Tryz.ntmps111
 go_wp2_with fail
 refine (indexF_any A c ns _ S h hn).mono ?_
 rintro e u ⟨i, rfl, hi, rfl⟩
 have HI := hid hi
 clear hi
 go_wp2_with fail
 go_ret
 exact ⟨ret_bool HI.out, rfl⟩
set_option maxHeartbeats 1000000 in
theorem pmay_any (A : Option Addr) (c : Nat) (ns : List ByteArray) (w : World) (S : Nat → Prop) (h : StrsAt w S A ns) (hn : ns.length ≤ 140737488351232) : Calls Tryz.prog 72 #[.slice A ns.length c] w fun e w' => e = .returned (.bool (mayP ns)) ∧ w = w' := by
 by_cases h0 : ns.length = 0
 ·obtain rfl := List.eq_nil_of_length_eq_zero h0
  go_enter Tryz.func72, Tryz.ntmps72
  go_wp2_with fail
  go_ret
  exact ⟨ret_bool rfl, rfl⟩
 ·by_cases h8 : ns.length ≤ 8
  ·have e0 : ((ns.length : Int) == 0) = false := beq_eq_false_iff_ne.2 (by omega)
   have e8 : decide ((8 : Int) < (ns.length : Int)) = false := by simp; omega
   go_enter Tryz.func72, Tryz.ntmps72
   go_wp2_with fail
   refine (contF_any A c ns _ S h hn).mono ?_
   rintro e u ⟨rfl, rfl⟩
   go_wp2_with fail
   go_ret
   exact ⟨ret_bool (by unfold mayP; rw [decide_eq_true (by omega : 1 ≤ ns.length), decide_eq_true h8]; simp), rfl⟩
  ·have e8 : decide ((8 : Int) < (ns.length : Int)) = true := by simp; omega
   go_enter Tryz.func72, Tryz.ntmps72
   go_wp2_with fail
   go_ret
   exact ⟨ret_bool (by unfold mayP; simp [h8]), rfl⟩

set_option maxHeartbeats 1000000 in
theorem rpmay_any (A : Option Addr) (c : Nat) (ns : List ByteArray) (w : World) (S : Nat → Prop) (h : StrsAt w S A ns) (hn : ns.length ≤ 140737488351232) : Calls Tryz.prog 73 #[.slice A ns.length c] w fun e w' => e = .returned (.bool (mayP ns)) ∧ w = w' := by
 have HS := hid h
 have HN := hid hn
 clear h
 go_enter Tryz.func73, Tryz.ntmps73
 go_wp2_with fail
 go_loopw [3] (fun i wr => ∃ k : Nat, i = .int .i64 k ∧ k ≤ ns.length ∧ wr = w ∧ Hid (∀ j (h : j < ns.length), j < k → nameB ns[j].data.toList = true)) (fun i _ => ns.length - (intOf i).toNat)
 case atStart => exact ⟨0, rfl, by omega, rfl, fun j _ h => absurd h (by omega)⟩
 case round =>
  obtain ⟨k, rfl, hk, rfl, HJ⟩ := hrel
  by_cases hlt : k < ns.length
  ·obtain ⟨p, o, rfl, -, hc⟩ := HS.out (by omega)
   have hck := (hc k hlt).1
   have Hz := hid (hc k hlt).2
   clear hc
   go_wp2_with fail
   refine (rname_any _ _ (by have := Hz.out; omega)).mono ?_
   rintro e u ⟨rfl, rfl⟩
   cases hb : nameB ns[k].data.toList
   ·go_wp2_with fail
    go_ret
    exact ⟨ret_bool (by unfold mayP; rw [all_not hlt hb]; simp), rfl⟩
   ·have Hb := hid hb
    go_wp2_with fail
    go_roundw
    case rel => exact ⟨k + 1, by go_num, by omega, trivial, fun j h hjk => by
     by_cases e : j = k
     ·subst e; exact Hb.out
     ·exact HJ.out j h (by omega)⟩
    case measure => simp [intOf]; omega
  ·obtain rfl : k = ns.length := by omega
   clear hlt hk
   have HA := hid (all_upto fun j h => HJ.out j h h)
   go_wp2_with fail
   all_goals
    go_ret
    exact ⟨ret_bool (by unfold mayP; rw [HA.out, Bool.and_true, Bool.eq_iff_iff]; simp only [Bool.and_eq_true, decide_eq_true_eq, Bool.false_eq_true, false_iff]; omega), rfl⟩

/-! ### beginnings -/
def begP (a b : List ByteArray) : Bool := decide (a.length ≤ b.length) && decide (b.take a.length = a)
theorem begP_false {a b : List ByteArray} (j : Nat) (h : j < a.length) (hb : ∀ h' : j < b.length, a[j] ≠ b[j]) : begP a b = false := by
 unfold begP
 by_cases hl : a.length ≤ b.length
 ·have hj : j < b.length := by omega
  have : ¬ b.take a.length = a := fun he => hb hj (by
   have h1 : (b.take a.length)[j]? = a[j]? := by rw [he]
   rw [List.getElem?_take_of_lt h, List.getElem?_eq_getElem h, List.getElem?_eq_getElem hj] at h1
   injection h1 with h1; exact h1.symm)
  simp [this]
 ·simp [hl]
theorem begP_true {a b : List ByteArray} (hl : a.length ≤ b.length) (h : ∀ j (h : j < a.length) (h' : j < b.length), a[j] = b[j]) : begP a b = true := by
 unfold begP
 rw [decide_eq_true hl, Bool.true_and, decide_eq_true_eq]
 refine List.ext_getElem (by simp; omega) fun j h1 h2 => ?_
 rw [List.getElem_take]
 exact (h j h2 (by omega)).symm

theorem below_drewN {B : Nat} {a w : World} (h : Below B a w) (n : Nat) : Below B a (w.drewN n) := h.trans ⟨rfl, rfl, rfl, Nat.le_refl _, fun _ _ => rfl⟩
theorem str_beq (s t : ByteArray) : (s.toList == t.toList) = decide (s = t) := by
 rw [Bool.eq_iff_iff]; simp only [beq_iff_eq, decide_eq_true_eq]
 constructor
 ·intro h
  rw [ByteArray.toList_eq, ByteArray.toList_eq] at h
  cases s; cases t
  simp at h; rw [h]
 ·intro h; rw [h]

set_option maxHeartbeats 1000000 in
theorem rbegins_any (A B : Option Addr) (c d : Nat) (a b : List ByteArray) (w : World) (S T : Nat → Prop) (h : StrsAt w S A a) (k : StrsAt w T B b) (hS : ∀ b, S b → b < w.heap.size) (hT : ∀ b, T b → b < w.heap.size) (hn : a.length ≤ 140737488351232) (hm : b.length ≤ 140737488351232) :
  Calls Tryz.prog 78 #[.slice A a.length c, .slice B b.length d] w fun e w' => e = .returned (.bool (begP a b)) ∧ Below w.heap.size w w' := by
 have HS := hid h
 have HT := hid k
 have HN := hid hn
 clear h k
 go_enter Tryz.func78, Tryz.ntmps78
 go_wp2_with fail
 go_loopw [5] (fun i wr => ∃ k : Nat, i = .int .i64 k ∧ k ≤ a.length ∧ Hid (Below w.heap.size w wr) ∧ Hid (k ≤ b.length ∧ ∀ j (h : j < a.length) (h' : j < b.length), j < k → a[j] = b[j])) (fun i _ => a.length - (intOf i).toNat)
 case atStart => exact ⟨0, rfl, by omega, Below.refl _ _, by omega, fun j _ _ h => absurd h (by omega)⟩
 case round =>
  obtain ⟨k, rfl, hk, HB, HJ⟩ := hrel
  by_cases hlt : k < a.length
  ·by_cases hkb : k < b.length
   ·obtain ⟨p, o, rfl, hp, hc⟩ := HS.out (by omega)
    obtain ⟨q, r, rfl, hq, hd⟩ := HT.out (by omega)
    have hck := (HB.out.cell (p := ⟨p, o + k, none⟩) (hS p hp)).trans (hc k hlt).1
    have hdk := (HB.out.cell (p := ⟨q, r + k, none⟩) (hT q hq)).trans (hd k hkb).1
    clear hc hd
    have e1 : decide (b.length ≤ k) = false := by simp; omega
    by_cases he : a[k] = b[k]
    ·have e2 : (a[k].toList == b[k].toList) = true := by rw [str_beq]; exact decide_eq_true he
     have HE := hid he
     clear he
     go_wp2
     go_quiet (fail)
     go_wp2
     go_roundw
     case rel => exact ⟨k + 1, by go_num, by omega, below_drewN HB.out _, by omega, fun j h h' hjk => by
      by_cases e : j = k
      ·subst e; exact HE.out
      ·exact HJ.out.2 j h h' (by omega)⟩
     case measure => simp [intOf]; omega
    ·have e2 : (a[k].toList == b[k].toList) = false := by rw [str_beq]; exact decide_eq_false he
     have HE := hid he
     clear he
     go_wp2
     go_quiet (fail)
     go_wp2
     go_ret
     exact ⟨ret_bool (begP_false k hlt fun _ => HE.out).symm, below_drewN HB.out _⟩
   ·have e1 : decide (b.length ≤ k) = true := by simp; omega
    go_wp2
    go_quiet (fail)
    go_wp2
    go_ret
    exact ⟨ret_bool (begP_false k hlt fun h => absurd h hkb).symm, below_drewN HB.out _⟩
  ·obtain rfl : k = a.length := by omega
   clear hlt hk
   go_wp2_with fail
   go_ret
   exact ⟨ret_bool (begP_true HJ.out.1 fun j h h' => HJ.out.2 j h h' h).symm, HB.out⟩
theorem begP_len {a b : List ByteArray} (h : a.length = b.length) : begP a b = decide (a = b) := by
 unfold begP
 rw [decide_eq_true (by omega), Bool.true_and, List.take_of_length_le (by omega)]
 exact decide_eq_decide.2 ⟨Eq.symm, Eq.symm⟩
set_option maxHeartbeats 1000000 in
theorem equal_any (A B : Option Addr) (c d n : Nat) (a b : List ByteArray) (w : World) (S T : Nat → Prop) (h : StrsAt w S A a) (k : StrsAt w T B b) (hS : ∀ b, S b → b < w.heap.size) (hT : ∀ b, T b → b < w.heap.size) (hn : a.length ≤ 140737488351232) (hab : a.length = b.length) (hnn : n = b.length) :
  Calls Tryz.prog 187 #[.slice A a.length c, .slice B n d] w fun e w' => e = .returned (.bool (decide (a = b))) ∧ Below w.heap.size w w' := by
 have HS := hid h
 have HT := hid k
 have HN := hid hn
 have HA := hid hab
 have HE := hid (hnn.trans hab.symm)
 obtain rfl : n = a.length := HE.out
 clear h k hab hnn HE
 go_enter Tryz.func187, Tryz.ntmps187
 go_wp2_with fail
 go_loopw [13] (fun i wr => ∃ k : Nat, i = .int .i64 k ∧ k ≤ a.length ∧ Hid (Below w.heap.size w wr) ∧ Hid (∀ j (h : j < a.length) (h' : j < b.length), j < k → a[j] = b[j])) (fun i _ => a.length - (intOf i).toNat)
 case atStart => exact ⟨0, rfl, by omega, Below.refl _ _, fun j _ _ h => absurd h (by omega)⟩
 case round =>
  obtain ⟨k, rfl, hk, HB, HJ⟩ := hrel
  by_cases hlt : k < a.length
  ·have hkb : k < b.length := by have := HA.out; omega
   obtain ⟨p, o, rfl, hp, hc⟩ := HS.out (by omega)
   obtain ⟨q, r, rfl, hq, hd⟩ := HT.out (by omega)
   have hck := (HB.out.cell (p := ⟨p, o + k, none⟩) (hS p hp)).trans (hc k hlt).1
   have hdk := (HB.out.cell (p := ⟨q, r + k, none⟩) (hT q hq)).trans (hd k hkb).1
   clear hc hd
   by_cases he : a[k] = b[k]
   ·have e2 : (a[k].toList == b[k].toList) = true := by rw [str_beq]; exact decide_eq_true he
    have HE := hid he
    clear he
    go_wp2
    go_quiet (fail)
    go_wp2
    go_roundw
    case rel => exact ⟨k + 1, by go_num, by omega, below_drewN HB.out _, fun j h h' hjk => by
     by_cases e : j = k
     ·subst e; exact HE.out
     ·exact HJ.out j h h' (by omega)⟩
    case measure => simp [intOf]; omega
   ·have e2 : (a[k].toList == b[k].toList) = false := by rw [str_beq]; exact decide_eq_false he
    have HE := hid he
    clear he
    go_wp2
    go_quiet (fail)
    go_wp2
    go_ret
    exact ⟨ret_bool (decide_eq_false fun h => HE.out (by subst h; rfl)).symm, below_drewN HB.out _⟩
  ·obtain rfl : k = a.length := by omega
   clear hlt hk
   go_wp2_with fail
   go_ret
   exact ⟨ret_bool (decide_eq_true (List.ext_getElem HA.out fun j h h' => HJ.out j h h' h)).symm, HB.out⟩

set_option maxHeartbeats 1000000 in
theorem begins_any (A B : Option Addr) (c d : Nat) (a b : List ByteArray) (w : World) (S T : Nat → Prop) (h : StrsAt w S A a) (k : StrsAt w T B b) (hS : ∀ b, S b → b < w.heap.size) (hT : ∀ b, T b → b < w.heap.size) (hn : a.length ≤ 140737488351232) (hm : b.length ≤ 140737488351232) (hd : b.length ≤ d) :
  Calls Tryz.prog 161 #[.slice A a.length c, .slice B b.length d] w fun e w' => e = .returned (.bool (begP a b)) ∧ Below w.heap.size w w' := by
 by_cases hl : a.length ≤ b.length
 ·have el : decide (a.length ≤ b.length) = true := by simpa using hl
  have ht : (b.take a.length).length = a.length := by simp; omega
  have HT := hid ht
  clear ht
  have HK := hid (k.take a.length)
  go_enter Tryz.func161, Tryz.ntmps161
  go_wp2_with fail
  refine (equal_any A B c d a.length a (b.take a.length) _ S T h HK.out hS hT hn HT.out.symm HT.out.symm).mono ?_
  rintro e w1 ⟨rfl, hb⟩
  have HB := hid hb
  clear hb
  go_wp2_with fail
  go_ret
  exact ⟨ret_bool (by unfold begP; rw [el, Bool.true_and]; exact decide_eq_decide.2 ⟨Eq.symm, Eq.symm⟩), HB.out⟩
 ·have el : decide (a.length ≤ b.length) = false := by simpa using hl
  go_enter Tryz.func161, Tryz.ntmps161
  go_wp2_with fail
  go_ret
  exact ⟨ret_bool (by unfold begP; rw [el]; rfl), Below.refl _ _⟩

set_option maxHeartbeats 1000000 in
theorem meet_any (A B : Option Addr) (c d : Nat) (a b : List ByteArray) (w : World) (S T : Nat → Prop) (h : StrsAt w S A a) (k : StrsAt w T B b) (hS : ∀ b, S b → b < w.heap.size) (hT : ∀ b, T b → b < w.heap.size) (hn : a.length ≤ 140737488351232) (hm : b.length ≤ 140737488351232) (hc : a.length ≤ c) (hd : b.length ≤ d) :
  Calls Tryz.prog 148 #[.slice A a.length c, .slice B b.length d] w fun e w' => e = .returned (.bool (begP a b || begP b a)) ∧ Below w.heap.size w w' := by
 have HS := hid h
 have HT := hid k
 clear h k
 go_enter Tryz.func148, Tryz.ntmps148
 go_wp2_with fail
 refine (begins_any A B c d a b _ S T HS.out HT.out hS hT hn hm hd).mono ?_
 rintro e w1 ⟨rfl, hb⟩
 have HB := hid hb
 clear hb
 cases hx : begP a b
 ·go_wp2_with fail
  refine (begins_any B A d c b a _ T S (HT.out.keep fun b hb => HB.out.block b (hT b hb)) (HS.out.keep fun b hb => HB.out.block b (hS b hb)) (fun b hb => Nat.lt_of_lt_of_le (hT b hb) HB.out.size) (fun b hb => Nat.lt_of_lt_of_le (hS b hb) HB.out.size) hm hn hc).mono ?_
  rintro e w2 ⟨rfl, hb⟩
  have HB2 := hid (grow_trans HB.out hb)
  clear hb
  go_wp2_with fail
  go_ret
  exact ⟨ret_bool (by rw [hx, Bool.false_or]), HB2.out⟩
 ·go_wp2_with fail
  go_ret
  exact ⟨ret_bool (by rw [hx, Bool.true_or]), HB.out⟩
set_option maxHeartbeats 1000000 in
theorem rpsame_any (A B : Option Addr) (c d : Nat) (a b : List ByteArray) (w : World) (S T : Nat → Prop) (h : StrsAt w S A a) (k : StrsAt w T B b) (hS : ∀ b, S b → b < w.heap.size) (hT : ∀ b, T b → b < w.heap.size) (hn : a.length ≤ 140737488351232) (hm : b.length ≤ 140737488351232) :
  Calls Tryz.prog 91 #[.slice A a.length c, .slice B b.length d] w fun e w' => e = .returned (.bool (decide (a = b))) ∧ Below w.heap.size w w' := by
 by_cases hl : a.length = b.length
 ·have HL := hid hl
  have el : ((a.length : Int) == (b.length : Int)) = true := beq_iff_eq.2 (by omega)
  clear hl
  go_enter Tryz.func91, Tryz.ntmps91
  go_wp2_with fail
  refine (rbegins_any A B c d a b _ S T h k hS hT hn hm).mono ?_
  rintro e w1 ⟨rfl, hb⟩
  have HB := hid hb
  clear hb
  go_wp2_with fail
  go_ret
  exact ⟨ret_bool (begP_len HL.out), HB.out⟩
 ·have HL := hid hl
  have el : ((a.length : Int) == (b.length : Int)) = false := beq_eq_false_iff_ne.2 (by omega)
  clear hl
  go_enter Tryz.func91, Tryz.ntmps91
  go_wp2_with fail
  go_ret
  exact ⟨ret_bool (decide_eq_false fun h => HL.out (by rw [h])).symm, Below.refl _ _⟩
def noneT (t : VT) : Bool := decide (t.kind = 0) && decide (t.num = 0) && decide (t.text.toList = []) && decide (t.items.length = 0) && decide (t.names.length = 0)
theorem noneT_iff (t : VT) : noneT t = true ↔ t = .mk 0 0 ⟨#[]⟩ [] [] := by
  obtain ⟨k, i, s, l, ns⟩ := t
  unfold noneT VT.kind VT.num VT.text VT.items VT.names
  simp only [Bool.and_eq_true, decide_eq_true_eq, VT.mk.injEq]
  constructor
  · rintro ⟨⟨⟨⟨h1, h2⟩, h3⟩, h4⟩, h5⟩
    refine ⟨h1, h2, ?_, List.eq_nil_of_length_eq_zero h4, List.eq_nil_of_length_eq_zero h5⟩
    rw [ByteArray.toList_eq] at h3
    obtain ⟨⟨x⟩⟩ := s
    simp at h3
    rw [h3]
  · rintro ⟨h1, h2, h3, h4, h5⟩
    subst h3 h4 h5
    exact ⟨⟨⟨⟨h1, h2⟩, by simp [ByteArray.toList_eq]⟩, rfl⟩, rfl⟩
def idN : ByteArray := ⟨#[95, 105, 100]⟩
def meetP (a b : List ByteArray) : Bool := begP a b || begP b a
def confL : List (List ByteArray) → List (List ByteArray) → Bool
  | _, [] => false
  | ahead, p :: r => (ahead.any fun q => meetP p q) || confL (ahead ++ [p]) r
def ore (x y : Int) : Int := if x = 0 then y else x
def cmpI (a b : Int) : Int := if a < b then -1 else if b < a then 1 else 0
def cmpB (x y : List UInt8) : Int := if Op.bytesLess x y = true then -1 else if x = y then 0 else 1
def Tri (x y z : Int) : Prop := x ≤ 0 → y ≤ 0 → z ≤ 0 ∧ (z < 0 ↔ x < 0 ∨ y < 0)

theorem ore_zero (x y : Int) : ore x y = 0 ↔ x = 0 ∧ y = 0 := by unfold ore; split <;> omega
theorem ore_tri {x y z x' y' z' : Int} (h : Tri x y z) (h' : x = 0 → y = 0 → Tri x' y' z') : Tri (ore x x') (ore y y') (ore z z') := by
 unfold Tri ore at *
 intro hx hy
 by_cases x0 : x = 0
 ·by_cases y0 : y = 0
  ·have h1 := h (by omega) (by omega)
   have z0 : z = 0 := by omega
   rw [if_pos x0] at hx ⊢; rw [if_pos y0] at hy ⊢; rw [if_pos z0]
   exact h' x0 y0 hx hy
  ·rw [if_neg y0] at hy ⊢
   have h1 := h (by omega) (by omega)
   have z0 : z ≠ 0 := by omega
   rw [if_neg z0, if_pos x0]
   rw [if_pos x0] at hx
   omega
 ·rw [if_neg x0] at hx ⊢
  by_cases y0 : y = 0
  ·have h1 := h (by omega) (by omega)
   have z0 : z ≠ 0 := by omega
   rw [if_pos y0] at hy ⊢; rw [if_neg z0]
   omega
  ·rw [if_neg y0] at hy ⊢
   have h1 := h (by omega) (by omega)
   have z0 : z ≠ 0 := by omega
   rw [if_neg z0]
   omega
theorem tri_zero : Tri 0 0 0 := by unfold Tri; omega

theorem cmpI_zero (a b : Int) : cmpI a b = 0 ↔ a = b := by unfold cmpI; split <;> first | omega | (split <;> omega)

theorem less_irrefl : ∀ x : List UInt8, Op.bytesLess x x = false
 | [] => rfl
 | a :: x => by simp [Op.bytesLess, less_irrefl x]
theorem less_total : ∀ x y : List UInt8, Op.bytesLess x y = true ∨ x = y ∨ Op.bytesLess y x = true
 | [], [] => by simp
 | [], b :: y => by simp [Op.bytesLess]
 | a :: x, [] => by simp [Op.bytesLess]
 | a :: x, b :: y => by
  simp only [Op.bytesLess, Bool.or_eq_true, Bool.and_eq_true, decide_eq_true_eq, beq_iff_eq, List.cons.injEq]
  rcases Nat.lt_trichotomy a.toNat b.toNat with h | h | h
  ·exact .inl (.inl (UInt8.lt_iff_toNat_lt.2 h))
  ·have e : a = b := UInt8.toNat_inj.1 h
   subst e
   rcases less_total x y with h | h | h
   ·exact .inl (.inr ⟨rfl, h⟩)
   ·exact .inr (.inl ⟨rfl, h⟩)
   ·exact .inr (.inr (.inr ⟨rfl, h⟩))
  ·exact .inr (.inr (.inl (UInt8.lt_iff_toNat_lt.2 h)))
theorem less_trans : ∀ x y z : List UInt8, Op.bytesLess x y = true → Op.bytesLess y z = true → Op.bytesLess x z = true
 | _, _, [], _, h => by rename_i y _; cases y <;> simp [Op.bytesLess] at h
 | _, [], c :: z, h, _ => by rename_i x _; cases x <;> simp [Op.bytesLess] at h
 | [], b :: y, c :: z, _, _ => by simp [Op.bytesLess]
 | a :: x, b :: y, c :: z, h, h' => by
  simp only [Op.bytesLess, Bool.or_eq_true, Bool.and_eq_true, decide_eq_true_eq, beq_iff_eq] at h h' ⊢
  rcases h with h | ⟨h, h1⟩
  ·rcases h' with h' | ⟨h', h1'⟩
   ·rw [UInt8.lt_iff_toNat_lt] at *; left; omega
   ·subst h'; exact .inl h
  ·subst h
   rcases h' with h' | ⟨h', h1'⟩
   ·exact .inl h'
   ·exact .inr ⟨h', less_trans x y z h1 h1'⟩
theorem less_asymm (x y : List UInt8) (h : Op.bytesLess x y = true) : Op.bytesLess y x = false := by
 rw [← Bool.not_eq_true]
 intro h2
 have := less_trans x y x h h2
 rw [less_irrefl] at this; cases this
theorem cmpB_neg (x y : List UInt8) : cmpB y x = -(cmpB x y) := by
 unfold cmpB
 rcases less_total x y with h | h | h
 ·have h2 := less_asymm x y h
  have hne : ¬ y = x := by rintro rfl; rw [less_irrefl] at h; cases h
  rw [if_neg (by rw [h2]; exact Bool.false_ne_true), if_neg hne, if_pos h]; rfl
 ·subst h
  rw [if_neg (by rw [less_irrefl]; exact Bool.false_ne_true), if_pos rfl]; rfl
 ·have h2 := less_asymm y x h
  have hne : ¬ x = y := by rintro rfl; rw [less_irrefl] at h; cases h
  rw [if_pos h, if_neg (by rw [h2]; exact Bool.false_ne_true), if_neg hne]
theorem cmpB_zero (x y : List UInt8) : cmpB x y = 0 ↔ x = y := by
 unfold cmpB
 constructor
 ·intro h
  by_cases h1 : Op.bytesLess x y = true
  ·rw [if_pos h1] at h; cases h
  ·rw [if_neg h1] at h
   by_cases h2 : x = y
   ·exact h2
   ·rw [if_neg h2] at h; cases h
 ·rintro rfl
  rw [if_neg (by rw [less_irrefl]; exact Bool.false_ne_true), if_pos rfl]
theorem cmpB_le (x y : List UInt8) : cmpB x y ≤ 0 ↔ Op.bytesLess x y = true ∨ x = y := by
 unfold cmpB
 by_cases h1 : Op.bytesLess x y = true
 ·rw [if_pos h1]; simp [h1]
 ·rw [if_neg h1]
  by_cases h2 : x = y
  ·rw [if_pos h2]; simp [h2]
  ·rw [if_neg h2]; simp [h1, h2]
theorem cmpB_lt (x y : List UInt8) : cmpB x y < 0 ↔ Op.bytesLess x y = true := by
 unfold cmpB
 by_cases h1 : Op.bytesLess x y = true
 ·rw [if_pos h1]; simp [h1]
 ·rw [if_neg h1]
  by_cases h2 : x = y
  ·rw [if_pos h2]; simp [h1]
  ·rw [if_neg h2]; simp [h1]
theorem cmpB_tri (a b c : List UInt8) : Tri (cmpB a b) (cmpB b c) (cmpB a c) := by
 unfold Tri
 rw [cmpB_le, cmpB_le, cmpB_le, cmpB_lt, cmpB_lt, cmpB_lt]
 rintro (h | rfl) (h' | rfl)
 ·have := less_trans _ _ _ h h'; simp [this, h]
 ·simp [h]
 ·simp [h']
 ·simp [less_irrefl]

mutual
def cmpT : VT → VT → Int
 | .mk k i s l ns, .mk k' i' s' l' ns' => ore (ore (cmpI k k') (ore (cmpI i i') (cmpB s.toList s'.toList))) (cmpTL (decide (k = 7)) l ns l' ns')
def cmpTL (doc : Bool) : List VT → List ByteArray → List VT → List ByteArray → Int
 | [], _, [], _ => 0
 | [], _, _ :: _, _ => -1
 | _ :: _, _, [], _ => 1
 | x :: l, ns, y :: l', ns' => ore (if doc then cmpB (ns.headD ⟨#[]⟩).toList (ns'.headD ⟨#[]⟩).toList else 0) (ore (cmpT x y) (cmpTL doc l ns.tail l' ns'.tail))
end

theorem ore_neg2 {x y x' y' : Int} (h : x' = -x) (h2 : x = 0 → y' = -y) : ore x' y' = -(ore x y) := by
 unfold ore
 by_cases h0 : x = 0
 ·rw [if_pos h0, if_pos (by omega), h2 h0]
 ·rw [if_neg h0, if_neg (by omega), h]
theorem cmpT_mk (k i : Int) (s : ByteArray) (l : List VT) (ns : List ByteArray) (k' i' : Int) (s' : ByteArray) (l' : List VT) (ns' : List ByteArray) :
  cmpT (.mk k i s l ns) (.mk k' i' s' l' ns') = ore (ore (cmpI k k') (ore (cmpI i i') (cmpB s.toList s'.toList))) (cmpTL (decide (k = 7)) l ns l' ns') := by
 conv => lhs; unfold cmpT
theorem toList_inj {a b : ByteArray} (h : a.toList = b.toList) : a = b := by rw [ByteArray.toList_eq, ByteArray.toList_eq] at h; exact data_inj h
theorem mayT_mk (k i : Int) (s : ByteArray) (l : List VT) (ns : List ByteArray) : mayT (.mk k i s l ns) = (fitsP k i s l.length ns && mayL l) := by conv => lhs; unfold mayT fitsT
theorem mayL_cons (x : VT) (l : List VT) : mayL (x :: l) = (mayT x && mayL l) := by conv => lhs; unfold mayL
theorem mayL_mem {x : VT} : ∀ {l : List VT}, mayL l = true → x ∈ l → mayT x = true
 | [], _, h => by cases h
 | t :: r, h, hx => by
  rw [mayL_cons, Bool.and_eq_true] at h
  rcases List.mem_cons.1 hx with rfl | hx
  ·exact h.1
  ·exact mayL_mem h.2 hx
theorem may_names {k i : Int} {s : ByteArray} {l : List VT} {ns : List ByteArray} (h : mayT (.mk k i s l ns) = true) : (k = 7 → ns.length = l.length) ∧ (k ≠ 7 → ns = []) ∧ mayL l = true := by
 rw [mayT_mk, Bool.and_eq_true] at h
 have h1 := h.1
 refine ⟨fun hk => ?_, fun hk => ?_, h.2⟩
 ·subst hk
  simp [fitsP] at h1
  exact h1.1.2
 ·unfold fitsP at h1
  by_cases k1 : k = 1
  ·simp [k1] at h1; exact h1.2.2
  by_cases k2 : k = 2
  ·simp [k2] at h1; exact h1.2.2
  by_cases k3 : k = 3
  ·simp [k3] at h1; exact h1.2.2
  by_cases k4 : k = 4 ∨ k = 5
  ·rw [if_neg k1, if_neg k2, if_neg k3, if_pos k4] at h1; simp at h1; exact h1.2.2
  by_cases k6 : k = 6
  ·simp [k6] at h1; exact h1.2
  simp [k1, k2, k3, k4, k6, hk] at h1
mutual
theorem cmpT_zero : ∀ a b : VT, mayT a = true → mayT b = true → (cmpT a b = 0 ↔ a = b)
 | .mk k i s l ns, .mk k' i' s' l' ns', ha, hb => by
  obtain ⟨a1, a2, a3⟩ := may_names ha
  obtain ⟨b1, b2, b3⟩ := may_names hb
  rw [cmpT_mk, ore_zero, ore_zero, ore_zero, cmpI_zero, cmpI_zero, cmpB_zero]
  constructor
  ·rintro ⟨⟨rfl, rfl, hs⟩, h⟩
   rw [toList_inj hs]
   by_cases h7 : k = 7
   ·rw [decide_eq_true h7] at h
    obtain ⟨rfl, hn⟩ := (cmpTL_zero true l l' ns ns' a3 b3 (fun _ => a1 h7) (fun _ => b1 h7)).1 h
    rw [hn rfl]
   ·rw [decide_eq_false h7] at h
    obtain ⟨rfl, _⟩ := (cmpTL_zero false l l' ns ns' a3 b3 (fun h => by cases h) (fun h => by cases h)).1 h
    rw [a2 h7, b2 h7]
  ·intro h
   injection h with h1 h2 h3 h4 h5
   subst h1 h2 h3 h4 h5
   exact ⟨⟨rfl, rfl, rfl⟩, (cmpTL_zero _ l l ns ns a3 a3 (fun h => a1 (of_decide_eq_true h)) (fun h => a1 (of_decide_eq_true h))).2 ⟨rfl, fun _ => rfl⟩⟩
theorem cmpTL_zero (d : Bool) : ∀ (l l' : List VT) (ns ns' : List ByteArray), mayL l = true → mayL l' = true → (d = true → ns.length = l.length) → (d = true → ns'.length = l'.length) → (cmpTL d l ns l' ns' = 0 ↔ l = l' ∧ (d = true → ns = ns'))
 | [], [], ns, ns', _, _, hn, hn' => by
  unfold cmpTL
  simp only [true_and, true_iff]
  intro hd
  rw [List.eq_nil_of_length_eq_zero (hn hd), List.eq_nil_of_length_eq_zero (hn' hd)]
 | [], y :: l', ns, ns', _, _, _, _ => by unfold cmpTL; simp
 | x :: l, [], ns, ns', _, _, _, _ => by unfold cmpTL; simp
 | x :: l, y :: l', ns, ns', ha, hb, hn, hn' => by
  rw [mayL_cons, Bool.and_eq_true] at ha hb
  conv => lhs; unfold cmpTL
  rw [ore_zero, ore_zero, cmpT_zero x y ha.1 hb.1, cmpTL_zero d l l' _ _ ha.2 hb.2 (fun h => by have := hn h; simp at this ⊢; omega) (fun h => by have := hn' h; simp at this ⊢; omega)]
  constructor
  ·rintro ⟨h1, rfl, rfl, h2⟩
   refine ⟨rfl, fun hd => ?_⟩
   rw [if_pos hd, cmpB_zero] at h1
   have hl := hn hd
   have hl' := hn' hd
   rcases ns with _ | ⟨n, ns⟩
   ·cases hl
   rcases ns' with _ | ⟨n', ns'⟩
   ·cases hl'
   have := h2 hd
   simp only [List.tail_cons] at this
   simp only [List.headD_cons] at h1
   rw [toList_inj h1, this]
  ·rintro ⟨h, h2⟩
   injection h with h3 h4
   subst h3 h4
   refine ⟨?_, rfl, rfl, fun hd => by rw [h2 hd]⟩
   cases d
   ·rfl
   ·rw [h2 rfl]; exact (cmpB_zero _ _).2 rfl
end
end Go.Proofs.YtpcdngpppjdgcaaGreat
