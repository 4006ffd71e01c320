/- Which values may be: a value's own fields. -/
import Derived.Test.YtlipkmdjpligeaaGreatKMath
import Derived.Laws.IdiomStrings
import Derived.Lib.ConvBytes
import Derived.BigQuiet
import Derived.Deep.QuietTactic
import Derived.Deep.RegionWith
namespace Go.Proofs.YtlipkmdjpligeaaGreat
open Lib (hid)
set_option linter.unusedVariables false
set_option linter.unusedSimpArgs false
open Go.RowKit

theorem LV.alloc {w : World} {S : Nat → Prop} {t : VT} {v : Value} (h : LV w S t v) (hS : ∀ b, S b → b < w.heap.size) (o : Obj) : LV (w.alloc o) S t v := h.keep fun b hb => Below.heap_alloc w o b (hS b hb)
theorem LV.below {w w' : World} {S : Nat → Prop} {t : VT} {v : Value} (h : LV w S t v) (hS : ∀ b, S b → b < w.heap.size) (hb : Below w.heap.size w w') : LV w' S t v := h.keep fun b h => hb.block b (hS b h)
theorem StrsAt.below {w w' : World} {S : Nat → Prop} {A : Option Addr} {ns : List ByteArray} (h : StrsAt w S A ns) (hS : ∀ b, S b → b < w.heap.size) (hb : Below w.heap.size w w') : StrsAt w' S A ns := h.keep fun b h => hb.block b (hS b h)
theorem sub_alloc {w : World} {S : Nat → Prop} (hS : ∀ b, S b → b < w.heap.size) (o : Obj) : ∀ b, S b → b < (w.alloc o).heap.size := fun b hb => by have := hS b hb; simp; omega
theorem sub_below {w w' : World} {S : Nat → Prop} (hS : ∀ b, S b → b < w.heap.size) (hb : Below w.heap.size w w') : ∀ b, S b → b < w'.heap.size := fun b h => Nat.lt_of_lt_of_le (hS b h) hb.size
theorem toStart {w w1 w2 : World} (h : Below w.heap.size w w1) (h2 : Below w1.heap.size w1 w2) : Below w.heap.size w w2 := h.trans (h2.mono h.size)

theorem ret_b {a b : Bool} (h : a = b) : Ending.returned (.bool a) = .returned (.bool b) := by rw [h]
set_option maxHeartbeats 1000000 in
set_option maxRecDepth 100000 in
theorem fits1 (i : Int) (s : ByteArray) (A A' : Option Addr) (n c c' : Nat) (ns : List ByteArray) (w : World) :
  Calls Tryz.prog 183 #[.agg #[.int .i64 1, .int .i64 i, .string s, .slice A n c, .slice A' ns.length c']] w fun e w' => e = .returned (.bool (fitsP 1 i s n ns)) ∧ Below w.heap.size w w' := by
 have e0 : fitsP 1 i s n ns = fitsP 1 i s n ns := rfl
 conv at e0 => rhs; unfold fitsP
 simp only [Int.reduceEq, if_true, if_false, or_true, true_or, or_false, false_or] at e0
 rw [e0]
 clear e0
 go_enter Tryz.func183, Tryz.ntmps183
 go_wp2_with (go_at_call 199; refine (single_any _ _ _ _ _ _ _ _ _ _).mono ?_; rintro e w' ⟨rfl, hb⟩)
 all_goals
  go_ret
  first
   | exact ⟨rfl, toStart (below_box _) hb⟩
   | exact ⟨rfl, below_box _⟩
   | exact ⟨ret_b (by simp_all [nat_beq0, nat_beq] <;> (intros; omega)), toStart (below_box _) hb⟩
   | exact ⟨ret_b (by simp_all [nat_beq0, nat_beq] <;> (intros; omega)), below_box _⟩
set_option maxHeartbeats 1000000 in
set_option maxRecDepth 100000 in
theorem fits2 (i : Int) (s : ByteArray) (A A' : Option Addr) (n c c' : Nat) (ns : List ByteArray) (w : World) :
  Calls Tryz.prog 183 #[.agg #[.int .i64 2, .int .i64 i, .string s, .slice A n c, .slice A' ns.length c']] w fun e w' => e = .returned (.bool (fitsP 2 i s n ns)) ∧ Below w.heap.size w w' := by
 have e0 : fitsP 2 i s n ns = fitsP 2 i s n ns := rfl
 conv at e0 => rhs; unfold fitsP
 simp only [Int.reduceEq, if_true, if_false, or_true, true_or, or_false, false_or] at e0
 rw [e0]
 clear e0
 go_enter Tryz.func183, Tryz.ntmps183
 go_wp2_with (go_at_call 199; refine (single_any _ _ _ _ _ _ _ _ _ _).mono ?_; rintro e w' ⟨rfl, hb⟩)
 all_goals
  go_ret
  first
   | exact ⟨rfl, toStart (below_box _) hb⟩
   | exact ⟨rfl, below_box _⟩
   | exact ⟨ret_b (by simp_all [nat_beq0, nat_beq] <;> (intros; omega)), toStart (below_box _) hb⟩
   | exact ⟨ret_b (by simp_all [nat_beq0, nat_beq] <;> (intros; omega)), below_box _⟩
set_option maxHeartbeats 1000000 in
set_option maxRecDepth 100000 in
theorem fits3 (i : Int) (s : ByteArray) (A A' : Option Addr) (n c c' : Nat) (ns : List ByteArray) (w : World) :
  Calls Tryz.prog 183 #[.agg #[.int .i64 3, .int .i64 i, .string s, .slice A n c, .slice A' ns.length c']] w fun e w' => e = .returned (.bool (fitsP 3 i s n ns)) ∧ Below w.heap.size w w' := by
 have e0 : fitsP 3 i s n ns = fitsP 3 i s n ns := rfl
 conv at e0 => rhs; unfold fitsP
 simp only [Int.reduceEq, if_true, if_false, or_true, true_or, or_false, false_or] at e0
 rw [e0]
 clear e0
 go_enter Tryz.func183, Tryz.ntmps183
 go_wp2_with (go_at_call 199; refine (single_any _ _ _ _ _ _ _ _ _ _).mono ?_; rintro e w' ⟨rfl, hb⟩)
 all_goals
  go_ret
  first
   | exact ⟨rfl, toStart (below_box _) hb⟩
   | exact ⟨rfl, below_box _⟩
   | exact ⟨ret_b (by simp_all [nat_beq0, nat_beq] <;> (intros; omega)), toStart (below_box _) hb⟩
   | exact ⟨ret_b (by simp_all [nat_beq0, nat_beq] <;> (intros; omega)), below_box _⟩
set_option maxHeartbeats 1000000 in
set_option maxRecDepth 100000 in
theorem fits4 (i : Int) (s : ByteArray) (A A' : Option Addr) (n c c' : Nat) (ns : List ByteArray) (w : World) :
  Calls Tryz.prog 183 #[.agg #[.int .i64 4, .int .i64 i, .string s, .slice A n c, .slice A' ns.length c']] w fun e w' => e = .returned (.bool (fitsP 4 i s n ns)) ∧ Below w.heap.size w w' := by
 have e0 : fitsP 4 i s n ns = fitsP 4 i s n ns := rfl
 conv at e0 => rhs; unfold fitsP
 simp only [Int.reduceEq, if_true, if_false, or_true, true_or, or_false, false_or] at e0
 rw [e0]
 clear e0
 go_enter Tryz.func183, Tryz.ntmps183
 go_wp2_with (go_at_call 199; refine (single_any _ _ _ _ _ _ _ _ _ _).mono ?_; rintro e w' ⟨rfl, hb⟩)
 all_goals
  go_ret
  first
   | exact ⟨rfl, toStart (below_box _) hb⟩
   | exact ⟨rfl, below_box _⟩
   | exact ⟨ret_b (by simp_all [nat_beq0, nat_beq] <;> (intros; omega)), toStart (below_box _) hb⟩
   | exact ⟨ret_b (by simp_all [nat_beq0, nat_beq] <;> (intros; omega)), below_box _⟩
set_option maxHeartbeats 1000000 in
set_option maxRecDepth 100000 in
theorem fits5 (i : Int) (s : ByteArray) (A A' : Option Addr) (n c c' : Nat) (ns : List ByteArray) (w : World) :
  Calls Tryz.prog 183 #[.agg #[.int .i64 5, .int .i64 i, .string s, .slice A n c, .slice A' ns.length c']] w fun e w' => e = .returned (.bool (fitsP 5 i s n ns)) ∧ Below w.heap.size w w' := by
 have e0 : fitsP 5 i s n ns = fitsP 5 i s n ns := rfl
 conv at e0 => rhs; unfold fitsP
 simp only [Int.reduceEq, if_true, if_false, or_true, true_or, or_false, false_or] at e0
 rw [e0]
 clear e0
 go_enter Tryz.func183, Tryz.ntmps183
 go_wp2_with (go_at_call 199; refine (single_any _ _ _ _ _ _ _ _ _ _).mono ?_; rintro e w' ⟨rfl, hb⟩)
 all_goals
  go_ret
  first
   | exact ⟨rfl, toStart (below_box _) hb⟩
   | exact ⟨rfl, below_box _⟩
   | exact ⟨ret_b (by simp_all [nat_beq0, nat_beq] <;> (intros; omega)), toStart (below_box _) hb⟩
   | exact ⟨ret_b (by simp_all [nat_beq0, nat_beq] <;> (intros; omega)), below_box _⟩
set_option maxHeartbeats 1000000 in
set_option maxRecDepth 100000 in
theorem fits6 (i : Int) (s : ByteArray) (A A' : Option Addr) (n c c' : Nat) (ns : List ByteArray) (w : World) :
  Calls Tryz.prog 183 #[.agg #[.int .i64 6, .int .i64 i, .string s, .slice A n c, .slice A' ns.length c']] w fun e w' => e = .returned (.bool (fitsP 6 i s n ns)) ∧ Below w.heap.size w w' := by
 have e0 : fitsP 6 i s n ns = fitsP 6 i s n ns := rfl
 conv at e0 => rhs; unfold fitsP
 simp only [Int.reduceEq, if_true, if_false, or_true, true_or, or_false, false_or] at e0
 rw [e0]
 clear e0
 go_enter Tryz.func183, Tryz.ntmps183
 go_wp2_with (go_at_call 199; refine (single_any _ _ _ _ _ _ _ _ _ _).mono ?_; rintro e w' ⟨rfl, hb⟩)
 all_goals
  go_ret
  first
   | exact ⟨rfl, toStart (below_box _) hb⟩
   | exact ⟨rfl, below_box _⟩
   | exact ⟨ret_b (by simp_all [nat_beq0, nat_beq] <;> (intros; omega)), toStart (below_box _) hb⟩
   | exact ⟨ret_b (by simp_all [nat_beq0, nat_beq] <;> (intros; omega)), below_box _⟩
set_option maxHeartbeats 1000000 in
set_option maxRecDepth 100000 in
theorem fits7 (i : Int) (s : ByteArray) (A A' : Option Addr) (n c c' : Nat) (ns : List ByteArray) (w : World) (S : Nat → Prop) (hS : ∀ b, S b → b < w.heap.size) (hN : StrsAt w S A' ns) (hl : ns.length ≤ 140737488351232) :
  Calls Tryz.prog 183 #[.agg #[.int .i64 7, .int .i64 i, .string s, .slice A n c, .slice A' ns.length c']] w fun e w' => e = .returned (.bool (fitsP 7 i s n ns)) ∧ Below w.heap.size w w' := by
 have e0 : fitsP 7 i s n ns = fitsP 7 i s n ns := rfl
 conv at e0 => rhs; unfold fitsP
 simp only [Int.reduceEq, if_true, if_false, or_true, true_or, or_false, false_or] at e0
 rw [e0]
 clear e0
 have HN := hid (hN.below hS (below_box (.cells #[.int .i64 7, .int .i64 i, .string s, .slice A n c, .slice A' ns.length c'] 27)))
 clear hN
 go_enter Tryz.func183, Tryz.ntmps183
 go_wp2_with (go_at_call 200; refine (distinct_any S _ _ _ _ (sub_alloc hS _) (by simp_all; exact HN.out) hl).mono ?_; rintro e w' ⟨rfl, hb⟩)
 all_goals
  go_ret
  first
   | exact ⟨rfl, toStart (below_box _) hb⟩
   | exact ⟨rfl, below_box _⟩
   | exact ⟨ret_b (by simp_all [nat_beq0, nat_beq] <;> (intros; omega)), toStart (below_box _) hb⟩
   | exact ⟨ret_b (by simp_all [nat_beq0, nat_beq] <;> (intros; omega)), below_box _⟩
set_option maxHeartbeats 1000000 in
set_option maxRecDepth 100000 in
theorem fits0 (k i : Int) (s : ByteArray) (A A' : Option Addr) (n c c' : Nat) (ns : List ByteArray) (w : World) (hk : ¬ (1 ≤ k ∧ k ≤ 7)) :
  Calls Tryz.prog 183 #[.agg #[.int .i64 k, .int .i64 i, .string s, .slice A n c, .slice A' ns.length c']] w fun e w' => e = .returned (.bool (fitsP k i s n ns)) ∧ Below w.heap.size w w' := by
 have e0 : fitsP k i s n ns = false := by
  unfold fitsP
  rw [if_neg (by omega), if_neg (by omega), if_neg (by omega), if_neg (by omega), if_neg (by omega), if_neg (by omega)]
 rw [e0]
 have b1 : (k == 1) = false := by simp; omega
 have b2 : (k == 2) = false := by simp; omega
 have b3 : (k == 3) = false := by simp; omega
 have b4 : (k == 4) = false := by simp; omega
 have b5 : (k == 5) = false := by simp; omega
 have b6 : (k == 6) = false := by simp; omega
 have b7 : (k == 7) = false := by simp; omega
 clear e0 hk
 go_enter Tryz.func183, Tryz.ntmps183
 go_wp2_with fail
 go_ret
 exact ⟨rfl, below_box _⟩
theorem fits_any (S : Nat → Prop) (t : VT) (v : Value) (w : World) (hS : ∀ b, S b → b < w.heap.size) (h : LV w S t v) : Calls Tryz.prog 183 #[v] w fun e w' => e = .returned (.bool (fitsT t)) ∧ Below w.heap.size w w' := by
 obtain ⟨A, c, A', c', rfl, -, -, -, -, h5, h6, -⟩ := h.shape
 cases t with
 | mk k i s l ns =>
 show Calls Tryz.prog 183 #[.agg #[.int .i64 k, .int .i64 i, .string s, .slice A l.length c, .slice A' ns.length c']] w fun e w' => e = .returned (.bool (fitsP k i s l.length ns)) ∧ Below w.heap.size w w'
 by_cases hk : 1 ≤ k ∧ k ≤ 7
 ·obtain rfl | rfl | rfl | rfl | rfl | rfl | rfl : k = 1 ∨ k = 2 ∨ k = 3 ∨ k = 4 ∨ k = 5 ∨ k = 6 ∨ k = 7 := by omega
  ·exact fits1 _ _ _ _ _ _ _ _ _
  ·exact fits2 _ _ _ _ _ _ _ _ _
  ·exact fits3 _ _ _ _ _ _ _ _ _
  ·exact fits4 _ _ _ _ _ _ _ _ _
  ·exact fits5 _ _ _ _ _ _ _ _ _
  ·exact fits6 _ _ _ _ _ _ _ _ _
  ·exact fits7 _ _ _ _ _ _ _ _ _ S hS h6 h5
 ·exact fits0 _ _ _ _ _ _ _ _ _ _ hk
theorem bytes_of (s : ByteArray) (w1 : World) : ∃ cap w2, (convert 9 41 (.string s)).run Tryz.prog w1 = .ok (.slice (some ⟨w1.heap.size, 0, none⟩) s.size cap) w2 ∧ Below w1.heap.size w1 w2 ∧
  (∀ j u, (bcells s.data.toList)[j]? = some u → w2.cell? ((⟨w1.heap.size, 0, none⟩ : Addr).add j) = some u) := by
 refine ⟨_, _, Lib.run_convert_string_bytes w1 9 41 5 s Tryz.underlying9 Tryz.underlying41 Tryz.underlying5, Go.Joins.below_bytesWorld _ _ _ _ (Nat.le_refl _), ?_⟩
 intro j u hu
 have hj : j < s.size := by
  have := (List.getElem?_eq_some_iff.1 hu).1
  simpa [bcells] using this
 have e : ((⟨w1.heap.size, 0, none⟩ : Addr).add j) = ⟨w1.heap.size, j, none⟩ := by unfold Addr.add; split <;> simp_all
 rw [e, Lib.bytesWorld_cell w1 _ s j hj]
 have hj' : j < s.data.toList.length := by simpa using hj
 simp only [bcells, List.getElem?_map, List.getElem?_eq_getElem hj', Option.map_some, List.getD, Option.getD_some] at hu ⊢
 exact hu

set_option maxHeartbeats 1000000 in
set_option maxRecDepth 1000000 in
theorem rtext_any (s : ByteArray) (w : World) (hs : s.size ≤ 140737488351232) :
  Calls Tryz.prog 116 #[.string s] w (Gives (txt s) w) := by
 obtain ⟨i0, hi, hz0, hz1, hz2⟩ := info_parts Tryz.infoU8
 have HS := hid hs
 clear hs
 go_enter Tryz.func116, Tryz.ntmps116
 go_wp2_with fail
 refine (rcount_any s.size _ (by have := HS.out; omega)).mono ?_
 rintro e w1 ⟨v, rfl, hv, hb1⟩
 obtain ⟨cap, w2, hrun, hb2, hc2⟩ := bytes_of s w1
 have hv2 := hv.below hb2
 have hb3 := below_toStart hb1 hb2
 have hsz := hb3.size
 have hgl := grp_length s.size
 have hv' : w2.ownsRow w.heap.size 5 1 v (grp s.size).length (bcells (grp s.size)) := hv2
 have HC := hid hc2
 clear hc2 hb1 hb2 hv hv2
 go_wp2_with (at_builtin; go_must (refine wpList_append_own _ rfl _ _ 41 rfl w.heap.size 5 i0 (.int .u8 0) 1 1 Tryz.underlying41 hi hz0 hz1 hz2 rfl (by decide) _ _ _ rfl hv' ⟨w1.heap.size, 0, none⟩ s.size cap (bcells s.data.toList) rfl ?c0 ?c1 ?c2 ?c3 ?c4 ?c5 ?_))
 case c0 => simp [bcells]
 case c1 => exact HC.out
 case c2 => exact bcells_oneCell _
 case c3 => have := HS.out; unfold maxLen; omega
 case c4 => have := HS.out; omega
 case c5 => exact hsz
 intro v3 w3 hown3 hg3 _
 have hb4 : Below w.heap.size w w3 := hb3.grown hg3 hsz (fun k hk => (hv'.lt k hk).1)
 have hfin : OwnB w3 w.heap.size v3 (txt s) := by
  unfold OwnB txt
  rw [bcells_append, List.length_append]
  have e : s.data.toList.length = s.size := by simp
  rw [e]
  exact hown3
 clear hown3 hg3 hv' hrun
 go_wp2_with fail
 go_ret
 exact ⟨_, rfl, hfin, hb4⟩

/-! Sources. -/

abbrev Only (w w' : World) (g : Nat) : Prop := w.grownBy w' (some g)
theorem Only.refl (w : World) (g : Nat) : Only w w g := World.grownBy.refl w _
theorem Only.set {a w : World} {g : Nat} (h : Only a w g) (i : Nat) (u : Value) : Only a (w.setCell ⟨g, i, none⟩ u) g :=
 ⟨h.os, h.tape, h.output, by simpa [World.setCell] using h.size, fun k hk hne => (Below.heap_setCell w _ u k (by rintro rfl; exact hne rfl)).trans (h.block k hk hne)⟩
theorem Only.alloc {a w : World} {g : Nat} (h : Only a w g) (o : Obj) : Only a (w.alloc o) g :=
 ⟨h.os, h.tape, h.output, Nat.le_trans h.size (by simp), fun k hk hne => (Below.heap_alloc w o k (Nat.lt_of_lt_of_le hk h.size)).trans (h.block k hk hne)⟩
theorem Only.trans {a b c : World} {g : Nat} (h : Only a b g) (k : Only b c g) : Only a c g :=
 ⟨k.os.trans h.os, k.tape.trans h.tape, k.output.trans h.output, Nat.le_trans h.size k.size, fun i hi hne => (k.block i (Nat.lt_of_lt_of_le hi h.size) hne).trans (h.block i hi hne)⟩
theorem Only.below {a w : World} {g B : Nat} (h : Only a w g) (hB : B ≤ a.heap.size) (hg : B ≤ g) : Below B a w :=
 ⟨h.os, h.tape, h.output, h.size, fun k hk => h.block k (by omega) (by rintro ⟨⟩; omega)⟩
theorem Only.ofBelow {a w : World} {g : Nat} (h : Below a.heap.size a w) : Only a w g := ⟨h.os, h.tape, h.output, h.size, fun k hk _ => h.block k hk⟩
def Enters (k : Nat) : Prop := ∀ (args : Array Value) (W : World), (callFunc k args).run Tryz.prog W = .ok (.enter k args) W
theorem depthL_le {x : VT} : ∀ {l : List VT}, x ∈ l → depthT x ≤ depthL l
 | [], h => by cases h
 | t :: r, h => by
  unfold depthL
  rcases List.mem_cons.1 h with rfl | h
  ·omega
  ·have := depthL_le h; omega
theorem depthT_mk (k i : Int) (s : ByteArray) (l : List VT) (ns : List ByteArray) : depthT (.mk k i s l ns) = depthL l + 1 := by unfold depthT; rfl
theorem walkT_stop {σ : Type} {f : VT → Nat → σ → σ × Bool} {t : VT} {d : Nat} {st : σ} (h : (f t d st).2 = false) : walkT f t d st = ((f t d st).1, false) := by
 cases t; unfold walkT; rw [if_neg (by rw [h]; exact Bool.false_ne_true)]
theorem walkT_go {σ : Type} {f : VT → Nat → σ → σ × Bool} {t : VT} {d : Nat} {st : σ} (h : (f t d st).2 = true) : walkT f t d st = walkL f t.items (d + 1) (f t d st).1 := by
 cases t; unfold walkT; rw [if_pos h]; rfl
theorem walkL_stop {σ : Type} {f : VT → Nat → σ → σ × Bool} {t : VT} {r : List VT} {d : Nat} {st : σ} (h : (walkT f t d st).2 = false) : walkL f (t :: r) d st = ((walkT f t d st).1, false) := by
 unfold walkL; rw [if_neg (by rw [h]; exact Bool.false_ne_true)]
theorem walkL_go {σ : Type} {f : VT → Nat → σ → σ × Bool} {t : VT} {r : List VT} {d : Nat} {st : σ} (h : (walkT f t d st).2 = true) : walkL f (t :: r) d st = walkL f r d (walkT f t d st).1 := by
 conv => lhs; unfold walkL
 rw [if_pos h]
theorem walkL_nil {σ : Type} {f : VT → Nat → σ → σ × Bool} {d : Nat} {st : σ} : walkL f [] d st = (st, true) := by unfold walkL; rfl

def Shows {σ : Type} (k : Nat) (caps : Array Value) (S : Nat → Prop) (g : Nat) (Inv : World → σ → Prop) (f : VT → Nat → σ → σ × Bool) (top : Nat) : Prop :=
 ∀ (x : VT) (v : Value) (W : World) (lvl : Nat) (st : σ), g < W.heap.size → LV W S x v → lvl ≤ top → Inv W st →
  Calls Tryz.prog k (#[v, .int .i64 lvl] ++ caps) W fun e w' => e = .returned (.bool (f x lvl st).2) ∧ Inv w' (f x lvl st).1 ∧ Only W w' g

theorem Only.blk {w w' : World} {g b : Nat} (h : Only w w' g) (hb : b < w.heap.size) (hne : b ≠ g) : w'.heap[b]? = w.heap[b]? := h.block b hb (by rintro ⟨⟩; exact hne rfl)

set_option maxHeartbeats 2000000 in
set_option maxRecDepth 100000 in
theorem walk_any {σ : Type} (k : Nat) (caps : Array Value) (S : Nat → Prop) (g : Nat) (Inv : World → σ → Prop) (f : VT → Nat → σ → σ × Bool) (top : Nat) (hcf0 : Enters k) (hSg : ∀ b, S b → b < g) (htop : top ≤ 4611686018427387904)
  (hInv : ∀ W W' st, W'.heap[g]? = W.heap[g]? → Inv W st → Inv W' st) (hsee : Shows k caps S g Inv f top) :
  ∀ (n : Nat) (t : VT) (v : Value) (w : World) (lvl : Nat) (st : σ), depthT t ≤ n → LV w S t v → g < w.heap.size → lvl + depthT t ≤ top → Inv w st →
   Calls Tryz.prog 181 #[v, .int .i64 lvl, .func (.func k) #[] caps] w fun e w' => e = .returned (.bool (walkT f t lvl st).2) ∧ Inv w' (walkT f t lvl st).1 ∧ Only w w' g := by
 intro n
 induction n with
 | zero => intro t v w lvl st hd; cases t; rw [depthT_mk] at hd; omega
 | succ n ih =>
  intro t v w lvl st hd hv hg hlv hst
  have hcf : ∀ (args : Array Value) (W : World), (callFunc k args).run Tryz.prog W = .ok (.enter k args) W := hcf0
  have HV := hid hv
  obtain ⟨A, c, A', c', rfl, -, -, -, hll, -, -, hit⟩ := hv.shape
  have HIT := hid hit
  have HLL := hid hll
  have hlv2 : lvl ≤ 4611686018427387904 := by omega
  obtain ⟨o, ho⟩ : ∃ o : Obj, o = .cells #[.int .i64 t.kind, .int .i64 t.num, .string t.text, .slice A t.items.length c, .slice A' t.names.length c'] 27 := ⟨_, rfl⟩
  have hI1 : Inv (w.alloc o) st := hInv _ _ _ (Below.heap_alloc w o g hg) hst
  have hV1 : LV (w.alloc o) S t _ := HV.out.alloc (fun b h => Nat.lt_trans (hSg b h) hg) o
  have SEE := hid (hsee t _ (w.alloc o) lvl st (by simp; omega) hV1 (by omega) hI1)
  have HO := hid ho
  clear hv hit hll hst hI1 hV1 hsee hcf0
  subst ho
  generalize hR : walkT f t lvl st = R
  have HR := hid hR
  clear hR
  go_enter Tryz.func181, Tryz.ntmps181
  go_wp2_with fail
  refine SEE.out.mono ?_
  rintro e w1 ⟨rfl, hinv1, honly1⟩
  have honly : Only w w1 g := ((Only.refl w g).alloc _).trans honly1
  by_cases hf : (f t lvl st).2 = true
  ·have hbx : w1.cell? ⟨w.heap.size, 3, none⟩ = some (.slice A t.items.length c) := by
    rw [World.cell?_of_block (a := ⟨w.heap.size, 3, none⟩) (honly1.blk (b := w.heap.size) (by simp) (by omega))]
    simp
   have HIN := hid hinv1
   have HON := hid honly
   have hsz := honly.size
   have HR1 : Hid (walkL f t.items (lvl + 1) (f t lvl st).1 = R) := by rw [← walkT_go hf]; exact HR
   clear HR
   clear hinv1 honly1 honly SEE HO HV hlv2
   go_wp2_with fail
   clear hf
   generalize (f t lvl st).1 = st1 at *
   go_loopw [17] (fun i wr => ∃ (j : Nat) (sj : σ), i = .int .i64 j ∧ j ≤ t.items.length ∧ Hid (walkL f (t.items.drop j) (lvl + 1) sj = R ∧ Inv wr sj ∧ Only w wr g)) (fun i _ => t.items.length - (intOf i).toNat)
   case atStart => exact ⟨0, st1, rfl, Nat.zero_le _, HR1.out, HIN.out, HON.out⟩
   case round =>
    obtain ⟨j, sj, rfl, hj, HI⟩ := hrel
    have hlb := HLL.out
    by_cases hlt : j < t.items.length
    ·obtain ⟨b, off, rfl, hb, hl⟩ := HIT.out (by omega)
     obtain ⟨c0, c1, c2, c3, c4, h0, h1, h2, h3, h4, hx⟩ := hl.at j hlt
     obtain ⟨A2, e2, A3, e3, hag, -⟩ := hx.shape
     injection hag with hag
     injection hag with hag
     injection hag with g0 hag; injection hag with g1 hag; injection hag with g2 hag; injection hag with g3 hag; injection hag with g4 hag
     subst g0 g1 g2 g3 g4
     have hbg := hSg b hb
     have hk := HI.out.2.2.blk (b := b) (by omega) (by omega)
     have hw : ∀ o, wr.cell? ⟨b, o, none⟩ = w.cell? ⟨b, o, none⟩ := fun o => World.cell?_of_block (a := ⟨b, o, none⟩) hk
     rw [← hw] at h0 h1 h2 h3 h4
     have hx1 : LV wr S t.items[j] (.agg #[.int .i64 t.items[j].kind, .int .i64 t.items[j].num, .string t.items[j].text, .slice A2 t.items[j].items.length e2, .slice A3 t.items[j].names.length e3]) := hx.keep fun b' hb' => HI.out.2.2.blk (by have := hSg b' hb'; omega) (by have := hSg b' hb'; omega)
     have hgr := Nat.lt_of_lt_of_le hg HI.out.2.2.size
     have hx2 : LV (wr.alloc (.cells #[.int .i64 t.items[j].kind, .int .i64 t.items[j].num, .string t.items[j].text, .slice A2 t.items[j].items.length e2, .slice A3 t.items[j].names.length e3] 27)) S t.items[j] (.agg #[.int .i64 t.items[j].kind, .int .i64 t.items[j].num, .string t.items[j].text, .slice A2 t.items[j].items.length e2, .slice A3 t.items[j].names.length e3]) := hx1.alloc (fun b' hb' => Nat.lt_trans (hSg b' hb') hgr) _
     have hdp := depthL_le (List.getElem_mem hlt)
     have hdt : depthT t = depthL t.items + 1 := by cases t; exact depthT_mk _ _ _ _ _
     have IH := hid (ih t.items[j] _ _ (lvl + 1) sj (by omega) hx2 (by simp; omega) (by omega) (hInv _ _ _ (Below.heap_alloc wr _ g hgr) HI.out.2.1))
     have hdr : t.items.drop j = t.items[j] :: t.items.drop (j + 1) := List.drop_eq_getElem_cons hlt
     have HDR := hid hdr
     have hcl : ((lvl + 1 : Nat) : Int) = (lvl : Int) + 1 := by omega
     rw [hcl] at IH
     clear hl hx hx1 hx2 hdr hdp hdt hcl hw hk
     go_wp2_with fail
     refine IH.out.mono ?_
     rintro e w2 ⟨rfl, hinv2, honly2⟩
     have hon2 : Only w w2 g := (HI.out.2.2.alloc _).trans honly2
     by_cases hf2 : (walkT f t.items[j] (lvl + 1) sj).2 = true
     ·have HI2 : Hid (walkL f (t.items.drop (j + 1)) (lvl + 1) (walkT f t.items[j] (lvl + 1) sj).1 = R ∧ Inv w2 (walkT f t.items[j] (lvl + 1) sj).1 ∧ Only w w2 g) := by
       refine ⟨?_, hinv2, hon2⟩
       rw [← HI.out.1, HDR.out, walkL_go hf2]
      clear hinv2 honly2 hon2 IH HI HDR
      go_wp2_with fail
      go_roundw
      case rel => exact ⟨j + 1, _, by go_num, by omega, HI2⟩
      case measure => simp [intOf]; omega
     ·have hfin : R = ((walkT f t.items[j] (lvl + 1) sj).1, false) := by
       rw [← HI.out.1, HDR.out, walkL_stop (by simpa using hf2)]
      have HI2 := hid (And.intro hinv2 hon2)
      have HF := hid hfin
      clear hinv2 honly2 hon2 IH HI HDR hfin
      go_wp2_with fail
      go_ret
      rw [HF.out]
      exact ⟨rfl, HI2.out⟩
    ·have hfin : R = (sj, true) := by
      rw [← HI.out.1, List.drop_eq_nil_of_le (by omega), walkL_nil]
     have HF := hid hfin
     clear hfin
     go_wp2_with fail
     go_ret
     rw [HF.out]
     exact ⟨rfl, HI.out.2⟩
  ·have HF : Hid (R = ((f t lvl st).1, false)) := by rw [← walkT_stop (by simpa using hf)]; exact HR.out.symm
   have HI2 := hid (And.intro hinv1 honly)
   clear hinv1 honly1 honly SEE HO HV
   go_wp2_with fail
   go_ret
   rw [HF.out]
   exact ⟨rfl, HI2.out⟩
theorem enters_may : Enters 182 := fun _ _ => by simp [callFunc, go_sem, Tryz.func182, Tryz.f182]
theorem enters_depth : Enters 184 := fun _ _ => by simp [callFunc, go_sem, Tryz.func184, Tryz.f184]

def mayF : VT → Nat → Unit → Unit × Bool := fun x _ st => (st, fitsT x)
mutual
theorem walk_may : ∀ (t : VT) (d : Nat) (st : Unit), (walkT mayF t d st).2 = mayT t
 | .mk k i s l ns, d, st => by
  unfold mayT
  by_cases h : fitsT (.mk k i s l ns) = true
  ·rw [walkT_go (f := mayF) (t := .mk k i s l ns) (d := d) (st := st) h, h, Bool.true_and]; exact walk_mayL l _ _
  ·rw [walkT_stop (f := mayF) (by simpa [mayF] using h)]; simp [h]
theorem walk_mayL : ∀ (l : List VT) (d : Nat) (st : Unit), (walkL mayF l d st).2 = mayL l
 | [], d, st => by rw [walkL_nil]; unfold mayL; rfl
 | t :: r, d, st => by
  unfold mayL
  have h := walk_may t d st
  by_cases hm : mayT t = true
  ·rw [walkL_go (by rw [h, hm]), hm, Bool.true_and]; exact walk_mayL r _ _
  ·rw [walkL_stop (by rw [h]; simpa using hm)]; simp [hm]
end

set_option maxHeartbeats 400000 in
theorem mayC_any (S : Nat → Prop) (x : VT) (v : Value) (W : World) (lvl : Nat) (hS : ∀ b, S b → b < W.heap.size) (h : LV W S x v) : Calls Tryz.prog 182 #[v, .int .i64 lvl] W fun e w' => e = .returned (.bool (fitsT x)) ∧ Below W.heap.size W w' := by
 have HV := hid h
 obtain ⟨A, c, A', c', rfl, -, -, -, -, -, -, -⟩ := h.shape
 have HC := hid (fits_any S x _ _ (sub_alloc hS _) (h.alloc hS (.cells #[.int .i64 x.kind, .int .i64 x.num, .string x.text, .slice A x.items.length c, .slice A' x.names.length c'] 27)))
 clear h
 go_enter Tryz.func182, Tryz.ntmps182
 go_wp2_with fail
 refine HC.out.mono ?_
 rintro e w' ⟨rfl, hb⟩
 have HB := hid (toStart (below_box _) hb)
 clear hb HC
 go_wp2_with fail
 go_ret
 exact ⟨rfl, HB.out⟩

set_option maxHeartbeats 400000 in
theorem may_any (S : Nat → Prop) (t : VT) (v : Value) (w : World) (hS : ∀ b, S b → b < w.heap.size) (h : LV w S t v) (hd : depthT t ≤ 4611686018427387903) : Calls Tryz.prog 161 #[v] w fun e w' => e = .returned (.bool (mayT t)) ∧ Below w.heap.size w w' := by
 have HV := hid h
 obtain ⟨A, c, A', c', rfl, -, -, -, -, -, -, -⟩ := h.shape
 have hs : Shows 182 #[] S w.heap.size (fun _ _ => True) mayF 4611686018427387904 := fun x v W lvl st hg hv _ _ =>
  (mayC_any S x v W lvl (fun b hb => Nat.lt_trans (hS b hb) hg) hv).mono fun e w' ⟨he, hb⟩ => ⟨he, trivial, Only.ofBelow hb⟩
 have HC := hid (walk_any 182 #[] S w.heap.size (fun _ _ => True) mayF 4611686018427387904 enters_may hS (Nat.le_refl _) (fun _ _ _ _ _ => trivial) hs (depthT t) t _ (w.alloc (.cells #[.int .i64 t.kind, .int .i64 t.num, .string t.text, .slice A t.items.length c, .slice A' t.names.length c'] 27)) 1 () (Nat.le_refl _)
  (h.alloc hS _) (by simp) (by omega) trivial)
 have HR := hid (walk_may t 1 ())
 clear h hs
 go_enter Tryz.func161, Tryz.ntmps161
 go_wp2_with fail
 refine HC.out.mono ?_
 rintro e w' ⟨rfl, -, hb⟩
 have HB := hid ((below_box (w := w) _).trans (hb.below (by simp) (Nat.le_refl _)))
 rw [HR.out]
 clear hb HC
 go_wp2_with fail
 go_ret
 exact ⟨rfl, HB.out⟩

/-! ### depth -/
def depF : VT → Nat → Nat → Nat × Bool := fun _ lvl st => (max st lvl, true)
mutual
theorem walk_dep : ∀ (t : VT) (d : Nat) (st : Nat), walkT depF t d st = (max st (d + depthT t - 1), true)
 | .mk k i s l ns, d, st => by
  rw [walkT_go (f := depF) rfl, depthT_mk]
  show walkL depF l (d + 1) (max st d) = _
  rw [walk_depL l]
  by_cases h : depthL l = 0
  ·rw [if_pos h, h]; congr 1
  ·rw [if_neg h]; congr 1; omega
theorem walk_depL : ∀ (l : List VT) (d : Nat) (st : Nat), walkL depF l d st = (if depthL l = 0 then st else max st (d + depthL l - 1), true)
 | [], d, st => by rw [walkL_nil]; unfold depthL; rfl
 | t :: r, d, st => by
  have h := walk_dep t d st
  have ht : 1 ≤ depthT t := by cases t; rw [depthT_mk]; omega
  rw [walkL_go (by rw [h]), h, walk_depL r]
  conv => rhs; unfold depthL
  show (if depthL r = 0 then max st (d + depthT t - 1) else max (max st (d + depthT t - 1)) (d + depthL r - 1), true) = (if max (depthT t) (depthL r) = 0 then st else max st (d + max (depthT t) (depthL r) - 1), true)
  congr 1
  split <;> split <;> omega
end

def Cell1 (w : World) (g : Nat) (v : Value) : Prop := w.heap[g]? = some (.cells #[v] 3 (0, 0))
theorem Cell1.cell {w : World} {g : Nat} {v : Value} (h : Cell1 w g v) : w.cell? ⟨g, 0, none⟩ = some v := Go.Joins.cell_of_block h 0
theorem Cell1.free {w : World} {g : Nat} {v : Value} (h : Cell1 w g v) : w.frozen? ⟨g, 0, none⟩ = false := Go.Joins.unfrozen_of_block h 0
theorem Cell1.set {w : World} {g : Nat} {v : Value} (h : Cell1 w g v) (u : Value) : Cell1 (w.setCell ⟨g, 0, none⟩ u) g u := Go.Joins.block_setCell (i := 0) h u
theorem Cell1.alloc {w : World} {g : Nat} {v : Value} (h : Cell1 w g v) (hg : g < w.heap.size) (o : Obj) : Cell1 (w.alloc o) g v := (Below.heap_alloc w o g hg).trans h

set_option maxHeartbeats 400000 in
theorem depC_any (S : Nat → Prop) (g : Nat) (x : VT) (v : Value) (W : World) (lvl st : Nat) (hg : g < W.heap.size) (h : LV W S x v) (hl : lvl ≤ 4611686018427387904) (hc : Cell1 W g (.int .i64 st)) :
  Calls Tryz.prog 184 #[v, .int .i64 lvl, .pointer (some ⟨g, 0, none⟩)] W fun e w' => e = .returned (.bool true) ∧ Cell1 w' g (.int .i64 ((max st lvl : Nat) : Int)) ∧ Only W w' g := by
 obtain ⟨A, c, A', c', rfl, -, -, -, -, -, -, -⟩ := h.shape
 have HC := hid hc
 have c0 := hc.cell
 have f0 := hc.free
 clear h hc
 go_enter Tryz.func184, Tryz.ntmps184
 go_wp2_with fail
 all_goals
  go_ret
  refine ⟨rfl, ?_, ((Only.refl W g).set _ _).alloc _⟩
  have e := (HC.out.set (.int .i64 ((max st lvl : Nat) : Int))).alloc (by simpa [World.setCell] using hg) (.cells #[.int .i64 x.kind, .int .i64 x.num, .string x.text, .slice A x.items.length c, .slice A' x.names.length c'] 27)
 ·have h : st < lvl := by assumption
  rwa [Nat.max_eq_right (by omega)] at e ⊢
 ·have h : ¬ st < lvl := by assumption
  rwa [Nat.max_eq_left (by omega)] at e ⊢

set_option maxHeartbeats 400000 in
theorem depth_any (S : Nat → Prop) (t : VT) (v : Value) (w : World) (hS : ∀ b, S b → b < w.heap.size) (h : LV w S t v) (hd : depthT t ≤ 4611686018427387903) : Calls Tryz.prog 162 #[v] w fun e w' => e = .returned (.int .i64 (depthT t)) ∧ Below w.heap.size w w' := by
 obtain ⟨A, c, A', c', rfl, -, -, -, -, -, -, -⟩ := h.shape
 obtain ⟨o, ho⟩ : ∃ o : Obj, o = .cells #[.int .i64 t.kind, .int .i64 t.num, .string t.text, .slice A t.items.length c, .slice A' t.names.length c'] 27 := ⟨_, rfl⟩
 obtain ⟨w2, hw2⟩ : ∃ w2 : World, w2 = (w.alloc o).alloc (.cells #[.int .i64 0] 3) := ⟨_, rfl⟩
 have hsz : w2.heap.size = w.heap.size + 2 := by rw [hw2]; simp
 have hb2 : Below w.heap.size w w2 := by rw [hw2]; exact ((below_box o).alloc (by simp) _)
 have hs : Shows 184 #[.pointer (some ⟨w.heap.size + 1, 0, none⟩)] S (w.heap.size + 1) (fun W st => Cell1 W (w.heap.size + 1) (.int .i64 ((st : Nat) : Int))) depF 4611686018427387904 := fun x v W lvl st hg hv hl hc =>
  (depC_any S _ x v W lvl st hg hv hl hc).mono fun e w' ⟨he, hb, ho⟩ => ⟨he, hb, ho⟩
 have hc0 : Cell1 w2 (w.heap.size + 1) (.int .i64 ((0 : Nat) : Int)) := by
  have := heap_alloc_new (w.alloc o) (.cells #[.int .i64 0] 3)
  rw [hw2]
  unfold Cell1
  simpa using this
 have HC := hid (walk_any 184 #[.pointer (some ⟨w.heap.size + 1, 0, none⟩)] S (w.heap.size + 1) (fun W st => Cell1 W (w.heap.size + 1) (.int .i64 ((st : Nat) : Int))) depF 4611686018427387904 enters_depth (fun b hb => Nat.lt_succ_of_lt (hS b hb)) (Nat.le_refl _) (fun _ _ _ he hi => he.trans hi) hs (depthT t) t _ w2 1 0 (Nat.le_refl _)
  (h.below hS hb2) (by omega) (by omega) hc0)
 have hr := walk_dep t 1 0
 have ht : 1 ≤ depthT t := by cases t; rw [depthT_mk]; omega
 have hr1 : (walkT depF t 1 0).1 = depthT t := by rw [hr]; show max 0 (1 + depthT t - 1) = _; omega
 rw [hr1] at HC
 have HB := hid hb2
 subst ho hw2
 clear h hs hr hr1 ht hc0 hb2 hsz
 go_enter Tryz.func162, Tryz.ntmps162
 go_wp2_with fail
 refine HC.out.mono ?_
 rintro e w' ⟨rfl, hc, ho⟩
 have c0 := hc.cell
 have HB2 := hid (HB.out.trans (ho.below (B := w.heap.size) (by simp; omega) (by omega)))
 clear hc ho HC HB
 go_wp2_with fail
 go_ret
 exact ⟨rfl, HB2.out⟩
theorem OwnB.slice {w : World} {B : Nat} {v : Value} {l : List UInt8} (h : OwnB w B v l) : ∃ A c, v = .slice A l.length c := by
 rcases h.2 with ⟨rfl, h2⟩ | ⟨g, cap, cur, rfl, _⟩
 ·exact ⟨none, 0, by rw [h2]⟩
 ·exact ⟨_, _, rfl⟩
theorem wrap64_add (a b : Int) : wrap64 (wrap64 a + b) = wrap64 (a + b) := by unfold wrap64; omega
theorem wrap64_add2 (a b : Int) : wrap64 (a + wrap64 b) = wrap64 (a + b) := by unfold wrap64; omega
theorem wrap64_id {a : Int} (h1 : -9223372036854775808 ≤ a) (h2 : a ≤ 9223372036854775807) : wrap64 a = a := by unfold wrap64; omega

set_option maxHeartbeats 400000 in
theorem csize_any (n : Nat) (w : World) (hn : n ≤ 4611686018427387904) : Calls Tryz.prog 203 #[.int .i64 n] w fun e w' => e = .returned (.int .i64 ((grp n).length)) ∧ Below w.heap.size w w' := by
 go_enter Tryz.func203, Tryz.ntmps203
 go_wp2_with fail
 refine (count_any n _ (by omega)).mono ?_
 rintro e w1 (⟨_, _, v, rfl, hv, hb⟩ | ⟨h, _⟩)
 rotate_left
 ·omega
 obtain ⟨A, c, rfl⟩ := hv.slice
 have HB := hid hb
 clear hv hb
 go_wp2_with fail
 go_ret
 exact ⟨rfl, HB.out⟩

def tsz (s : ByteArray) : Nat := (grp s.size).length + s.size
set_option maxHeartbeats 400000 in
theorem tsize_any (s : ByteArray) (w : World) (hs : s.size ≤ 140737488351232) : Calls Tryz.prog 202 #[.string s] w fun e w' => e = .returned (.int .i64 (tsz s)) ∧ Below w.heap.size w w' := by
 have hg := (grp_length s.size).1
 go_enter Tryz.func202, Tryz.ntmps202
 go_wp2_with fail
 refine (csize_any s.size _ (by omega)).mono ?_
 rintro e w1 ⟨rfl, hb⟩
 have HB := hid hb
 clear hb
 go_wp2_with fail
 go_ret
 exact ⟨ret_i64 (by unfold tsz; omega), HB.out⟩

def sumN (ns : List ByteArray) : Nat := (ns.map tsz).sum
def ownP (k i : Int) (s : ByteArray) (n : Nat) (ns : List ByteArray) : Nat :=
 if k = 2 then 2 else if k = 3 then 1 + (grp (zig i)).length else if k = 4 ∨ k = 5 then 1 + tsz s
 else if k = 6 then 1 + (grp n).length else if k = 7 then 1 + (grp n).length + sumN ns else 1
def ownT : VT → Nat
 | .mk k i s l ns => ownP k i s l.length ns
theorem sumN_take (ns : List ByteArray) (k : Nat) (hk : k < ns.length) : sumN (ns.take (k + 1)) = sumN (ns.take k) + tsz ns[k] := by
 unfold sumN
 rw [List.take_add_one, List.getElem?_eq_getElem hk, List.map_append, List.sum_append]
 simp
theorem sumN_all (ns : List ByteArray) (k : Nat) (hk : ns.length ≤ k) : sumN (ns.take k) = sumN ns := by rw [List.take_of_length_le hk]
theorem tsz_le (s : ByteArray) (h : s.size ≤ 140737488351232) : tsz s ≤ 140737488351300 := by have := (grp_length s.size).1; unfold tsz; omega

section
variable (i : Int) (s : ByteArray) (A A' : Option Addr) (n c c' : Nat) (ns : List ByteArray) (w : World)
set_option maxHeartbeats 1000000
set_option maxRecDepth 100000
theorem own1 (k : Int) (hk : ¬ (2 ≤ k ∧ k ≤ 7)) : Calls Tryz.prog 186 #[.agg #[.int .i64 k, .int .i64 i, .string s, .slice A n c, .slice A' ns.length c']] w fun e w' => e = .returned (.int .i64 (wrap64 (ownP k i s n ns))) ∧ Below w.heap.size w w' := by
 have e0 : ownP k i s n ns = 1 := by
  unfold ownP
  rw [if_neg (by omega), if_neg (by omega), if_neg (by omega), if_neg (by omega), if_neg (by omega)]
 rw [e0]
 have b2 : (k == 2) = false := by simp; omega
 have b3 : (k == 3) = false := by simp; omega
 have b4 : (k == 4) = false := by simp; omega
 have b5 : (k == 5) = false := by simp; omega
 have b6 : (k == 6) = false := by simp; omega
 have b7 : (k == 7) = false := by simp; omega
 clear e0 hk
 go_enter Tryz.func186, Tryz.ntmps186
 go_wp2_with fail
 go_ret
 exact ⟨ret_i64 (by rw [wrap64_id (by decide) (by decide)]; rfl), below_box _⟩
theorem own2 : Calls Tryz.prog 186 #[.agg #[.int .i64 2, .int .i64 i, .string s, .slice A n c, .slice A' ns.length c']] w fun e w' => e = .returned (.int .i64 (wrap64 (ownP 2 i s n ns))) ∧ Below w.heap.size w w' := by
 go_enter Tryz.func186, Tryz.ntmps186
 go_wp2_with fail
 go_ret
 exact ⟨ret_i64 (by unfold ownP; rw [if_pos rfl, wrap64_id (by decide) (by decide)]; rfl), below_box _⟩
theorem own3 (hi : Rng i) : Calls Tryz.prog 186 #[.agg #[.int .i64 3, .int .i64 i, .string s, .slice A n c, .slice A' ns.length c']] w fun e w' => e = .returned (.int .i64 (wrap64 (ownP 3 i s n ns))) ∧ Below w.heap.size w w' := by
 have hg := (grp_length (zig i)).1
 go_enter Tryz.func186, Tryz.ntmps186
 go_wp2_with fail
 refine (int_any i _ hi.1 hi.2).mono ?_
 rintro e w1 ⟨v, rfl, hv, hb⟩
 obtain ⟨A2, c2, rfl⟩ := hv.slice
 have HB := hid (toStart (below_box _) hb)
 clear hv hb
 go_wp2_with fail
 go_ret
 exact ⟨ret_i64 (by unfold ownP; simp; rw [wrap64_id (by omega) (by omega)]), HB.out⟩
theorem own45 (k : Int) (hk : k = 4 ∨ k = 5) (hs : s.size ≤ 140737488351232) : Calls Tryz.prog 186 #[.agg #[.int .i64 k, .int .i64 i, .string s, .slice A n c, .slice A' ns.length c']] w fun e w' => e = .returned (.int .i64 (wrap64 (ownP k i s n ns))) ∧ Below w.heap.size w w' := by
 have hg := tsz_le s hs
 have HS := hid hs
 clear hs
 have e0 : ownP k i s n ns = 1 + tsz s := by unfold ownP; rw [if_neg (by omega), if_neg (by omega), if_pos hk]
 rw [e0]
 clear e0
 rcases hk with rfl | rfl
 all_goals
  go_enter Tryz.func186, Tryz.ntmps186
  go_wp2_with fail
  refine (tsize_any s _ HS.out).mono ?_
  rintro e w1 ⟨rfl, hb⟩
  have HB := hid (toStart (below_box _) hb)
  clear hb
  go_wp2_with fail
  go_ret
  exact ⟨ret_i64 (by rw [wrap64_id (by omega) (by omega)]; omega), HB.out⟩
theorem own6 (hn : n ≤ 140737488351232) : Calls Tryz.prog 186 #[.agg #[.int .i64 6, .int .i64 i, .string s, .slice A n c, .slice A' ns.length c']] w fun e w' => e = .returned (.int .i64 (wrap64 (ownP 6 i s n ns))) ∧ Below w.heap.size w w' := by
 have hg := (grp_length n).1
 go_enter Tryz.func186, Tryz.ntmps186
 go_wp2_with fail
 refine (csize_any n _ (by omega)).mono ?_
 rintro e w1 ⟨rfl, hb⟩
 have HB := hid (toStart (below_box _) hb)
 clear hb
 go_wp2_with fail
 go_ret
 exact ⟨ret_i64 (by unfold ownP; simp; rw [wrap64_id (by omega) (by omega)]), HB.out⟩
theorem own7 (S : Nat → Prop) (hS : ∀ b, S b → b < w.heap.size) (hN : StrsAt w S A' ns) (hl : ns.length ≤ 140737488351232) (hn : n ≤ 140737488351232) :
  Calls Tryz.prog 186 #[.agg #[.int .i64 7, .int .i64 i, .string s, .slice A n c, .slice A' ns.length c']] w fun e w' => e = .returned (.int .i64 (wrap64 (ownP 7 i s n ns))) ∧ Below w.heap.size w w' := by
 have hg := (grp_length n).1
 have e0 : ownP 7 i s n ns = 1 + (grp n).length + sumN ns := by unfold ownP; simp
 have HE := hid e0
 clear e0
 generalize ownP 7 i s n ns = R at *
 have HN := hid hN
 have HL := hid hl
 clear hN
 go_enter Tryz.func186, Tryz.ntmps186
 go_wp2_with fail
 refine (csize_any n _ (by omega)).mono ?_
 rintro e w1 ⟨rfl, hb⟩
 have hcell : ∀ q, w1.cell? ⟨w.heap.size, q, none⟩ = (w.alloc (.cells #[.int .i64 7, .int .i64 i, .string s, .slice A n c, .slice A' ns.length c'] 27)).cell? ⟨w.heap.size, q, none⟩ := fun q => hb.cell (p := ⟨w.heap.size, q, none⟩) (by simp)
 have k4 := hcell 4
 simp at k4
 have HB := hid (toStart (below_box _) hb)
 clear hb hcell
 go_wp2_with fail
 go_loopw [3, 41] (fun tot j wr => ∃ k : Nat, j = .int .i64 k ∧ k ≤ ns.length ∧ tot = .int .i64 (wrap64 ((1 + (grp n).length + sumN (ns.take k) : Nat) : Int)) ∧ Hid (Below w.heap.size w wr)) (fun _ j _ => ns.length - (intOf j).toNat)
 case atStart => exact ⟨0, rfl, Nat.zero_le _, by rw [wrap64_id (by simp [sumN]; omega) (by simp [sumN]; omega)]; simp [sumN], HB.out⟩
 case round =>
  obtain ⟨k, rfl, hk, rfl, HI⟩ := hrel
  by_cases hlt : k < ns.length
  ·obtain ⟨b, off, rfl, hb, hcells⟩ := HN.out (by omega)
   obtain ⟨hc0, hsz⟩ := hcells k hlt
   have hcx : wr.cell? ⟨b, off + k, none⟩ = some (.string ns[k]) := (HI.out.cell (p := ⟨b, off + k, none⟩) (hS b hb)).trans hc0
   have hst := sumN_take ns k hlt
   generalize hgs : ns[k] = s1 at *
   have HSZ := hid hsz
   have HST := hid hst
   clear hcells hc0 hsz hst
   generalize hR : 1 + (grp n).length + sumN (ns.take k) = T at *
   go_wp2_with fail
   refine (tsize_any s1 _ HSZ.out).mono ?_
   rintro e w2 ⟨rfl, hb2⟩
   have HB2 := hid (HI.out.trans (hb2.mono HI.out.size))
   clear hb2 HI
   go_wp2_with fail
   go_roundw
   case rel => exact ⟨k + 1, by go_num, by omega, by
    have e1 : 1 + (grp n).length + sumN (ns.take (k + 1)) = T + tsz s1 := by rw [HST.out]; omega
    rw [e1, wrap64_add]; congr 2, HB2⟩
   case measure => simp [intOf]; omega
  ·have e1 := sumN_all ns k (by omega)
   rw [e1, ← HE.out]
   go_wp2_with fail
   go_ret
   exact ⟨rfl, HI.out⟩
end
theorem own_any (S : Nat → Prop) (t : VT) (v : Value) (w : World) (hS : ∀ b, S b → b < w.heap.size) (h : LV w S t v) : Calls Tryz.prog 186 #[v] w fun e w' => e = .returned (.int .i64 (wrap64 (ownT t))) ∧ Below w.heap.size w w' := by
 obtain ⟨A, c, A', c', rfl, -, h2, h3, h4, h5, h6, -⟩ := h.shape
 cases t with
 | mk k i s l ns =>
 show Calls Tryz.prog 186 #[.agg #[.int .i64 k, .int .i64 i, .string s, .slice A l.length c, .slice A' ns.length c']] w fun e w' => e = .returned (.int .i64 (wrap64 (ownP k i s l.length ns))) ∧ Below w.heap.size w w'
 by_cases hk : 2 ≤ k ∧ k ≤ 7
 ·obtain rfl | rfl | hk | rfl | rfl : k = 2 ∨ k = 3 ∨ (k = 4 ∨ k = 5) ∨ k = 6 ∨ k = 7 := by omega
  ·exact own2 _ _ _ _ _ _ _ _ _
  ·exact own3 _ _ _ _ _ _ _ _ _ h2
  ·exact own45 _ _ _ _ _ _ _ _ _ k hk h3
  ·exact own6 _ _ _ _ _ _ _ _ _ h4
  ·exact own7 _ _ _ _ _ _ _ _ _ S hS h6 h5 h4
 ·exact own1 _ _ _ _ _ _ _ _ _ k hk
theorem LV.drew {w : World} {S : Nat → Prop} {t : VT} {v : Value} (h : LV w S t v) : LV w.drew S t v := LV.keep (w := w) (w' := w.drew) (fun _ _ => rfl) h
theorem enters_size : Enters 185 := fun _ _ => by simp [callFunc, go_sem, Tryz.func185, Tryz.f185]
theorem i64wrap (x : Int) : IntKind.i64.wrap x = wrap64 x := by rw [IntKind.wrap_i64]; unfold wrap64; rfl
def sizF : VT → Nat → Int → Int × Bool := fun x _ st => (wrap64 (st + wrap64 (ownT x)), true)
mutual
def sizeT : VT → Nat
 | .mk k i s l ns => ownP k i s l.length ns + sizeL l
def sizeL : List VT → Nat
 | [] => 0
 | t :: r => sizeT t + sizeL r
end
mutual
theorem walk_siz : ∀ (t : VT) (d : Nat) (st : Int), walkT sizF t d (wrap64 st) = (wrap64 (st + sizeT t), true)
 | .mk k i s l ns, d, st => by
  rw [walkT_go (f := sizF) rfl]
  show walkL sizF l (d + 1) (wrap64 (wrap64 st + wrap64 (ownP k i s l.length ns))) = _
  rw [wrap64_add2, wrap64_add, walk_sizL l]
  unfold sizeT
  congr 2; omega
theorem walk_sizL : ∀ (l : List VT) (d : Nat) (st : Int), walkL sizF l d (wrap64 st) = (wrap64 (st + sizeL l), true)
 | [], d, st => by rw [walkL_nil]; unfold sizeL; simp
 | t :: r, d, st => by
  have h := walk_siz t d st
  rw [walkL_go (by rw [h]), h]
  show walkL sizF r d (wrap64 (st + sizeT t)) = _
  rw [walk_sizL r]
  conv => rhs; unfold sizeL
  congr 2; omega
end

set_option maxHeartbeats 1000000 in
theorem sizC_any (S : Nat → Prop) (g : Nat) (x : VT) (v : Value) (W : World) (lvl : Nat) (st : Int) (hS : ∀ b, S b → b < g) (hg : g < W.heap.size) (h : LV W S x v) (hc : Cell1 W g (.int .i64 (wrap64 st))) :
  Calls Tryz.prog 185 #[v, .int .i64 lvl, .pointer (some ⟨g, 0, none⟩)] W fun e w' => e = .returned (.bool true) ∧ Cell1 w' g (.int .i64 (wrap64 (st + wrap64 (ownT x)))) ∧ Only W w' g := by
 have HV := hid h
 obtain ⟨A, c, A', c', rfl, -, -, -, -, -, -, -⟩ := h.shape
 obtain ⟨o, ho⟩ : ∃ o : Obj, o = .cells #[.int .i64 x.kind, .int .i64 x.num, .string x.text, .slice A x.items.length c, .slice A' x.names.length c'] 27 := ⟨_, rfl⟩
 have HO := hid ho
 have HC := hid hc
 have c0 := hc.cell
 have f0 := hc.free
 have hc2 := hc.alloc hg o
 have C0 : Hid ((W.alloc o).drew.cell? ⟨g, 0, none⟩ = some (.int .i64 (wrap64 st))) := hc2.cell
 have F0 : Hid ((W.alloc o).drew.frozen? ⟨g, 0, none⟩ = false) := hc2.free
 have HG : Hid (g < (W.alloc o).drew.heap.size) := by
  show g < (W.alloc o).heap.size
  simp; omega
 have HC2 : Hid (Cell1 (W.alloc o).drew g (.int .i64 (wrap64 st))) := hc2
 have HON : Hid (Only W (W.alloc o).drew g) := Only.ofBelow ((below_box o).drew)
 have HW := hid (own_any S x _ (W.alloc o).drew (fun b hb => by have := hS b hb; simp; omega) (h.alloc (fun b hb => Nat.lt_trans (hS b hb) hg) o).drew)
 clear h hc hc2
 subst ho
 go_enter Tryz.func185, Tryz.ntmps185
 go_wp2_with fail
 go_region_with (go_at_call 186; refine HW.out.mono ?_; rintro e w1 ⟨rfl, hb⟩; have c1 := (hb.cell (p := ⟨g, 0, none⟩) HG.out).trans C0.out; have f1 := (World.frozen?_of_block (a := ⟨g, 0, none⟩) (hb.block g HG.out)).trans F0.out)
 all_goals
  have hcw : Cell1 w1 g _ := (hb.block g HG.out).trans HC2.out
  have how : Only W w1 g := HON.out.trans (Only.ofBelow hb)
  have HF := hid (And.intro (hcw.set (.int .i64 (wrap64 (st + wrap64 (ownT x))))) (how.set 0 (.int .i64 (wrap64 (st + wrap64 (ownT x))))))
  have e : IntKind.i64.wrap (wrap64 st + wrap64 (ownT x)) = wrap64 (st + wrap64 (ownT x)) := (i64wrap _).trans (wrap64_add _ _)
  rw [e]
  clear hcw how hb HW HON HC2 HG C0 F0 HV HC c0 f0 e c1 f1
  go_wp2
  go_ret
  exact ⟨rfl, HF.out⟩

set_option maxHeartbeats 400000 in
theorem size_any (S : Nat → Prop) (t : VT) (v : Value) (w : World) (hS : ∀ b, S b → b < w.heap.size) (h : LV w S t v) (hd : depthT t ≤ 4611686018427387903) : Calls Tryz.prog 163 #[v] w fun e w' => e = .returned (.int .i64 (wrap64 (sizeT t))) ∧ Below w.heap.size w w' := by
 obtain ⟨A, c, A', c', rfl, -, -, -, -, -, -, -⟩ := h.shape
 obtain ⟨o, ho⟩ : ∃ o : Obj, o = .cells #[.int .i64 t.kind, .int .i64 t.num, .string t.text, .slice A t.items.length c, .slice A' t.names.length c'] 27 := ⟨_, rfl⟩
 obtain ⟨w2, hw2⟩ : ∃ w2 : World, w2 = (w.alloc o).alloc (.cells #[.int .i64 0] 3) := ⟨_, rfl⟩
 have hsz : w2.heap.size = w.heap.size + 2 := by rw [hw2]; simp
 have hb2 : Below w.heap.size w w2 := by rw [hw2]; exact ((below_box o).alloc (by simp) _)
 have hs : Shows 185 #[.pointer (some ⟨w.heap.size + 1, 0, none⟩)] S (w.heap.size + 1) (fun W st => ∃ st0, st = wrap64 st0 ∧ Cell1 W (w.heap.size + 1) (.int .i64 (wrap64 st0))) sizF 4611686018427387904 := by
  rintro x v W lvl _ hg hv hl ⟨st, rfl, hc⟩
  refine (sizC_any S _ x v W lvl st (fun b hb => Nat.lt_succ_of_lt (hS b hb)) hg hv hc).mono fun e w' ⟨he, hb, ho⟩ => ⟨he, ⟨st + wrap64 (ownT x), ?_, hb⟩, ho⟩
  show wrap64 (wrap64 st + wrap64 (ownT x)) = _
  exact wrap64_add _ _
 have hc0 : Cell1 w2 (w.heap.size + 1) (.int .i64 (wrap64 0)) := by
  have := heap_alloc_new (w.alloc o) (.cells #[.int .i64 0] 3)
  rw [hw2, wrap64_id (by decide) (by decide)]
  unfold Cell1
  simpa using this
 have HC := hid (walk_any 185 #[.pointer (some ⟨w.heap.size + 1, 0, none⟩)] S (w.heap.size + 1) (fun W st => ∃ st0, st = wrap64 st0 ∧ Cell1 W (w.heap.size + 1) (.int .i64 (wrap64 st0))) sizF 4611686018427387904 enters_size (fun b hb => Nat.lt_succ_of_lt (hS b hb)) (Nat.le_refl _) (fun _ _ _ he ⟨st0, hi, hc⟩ => ⟨st0, hi, he.trans hc⟩) hs (depthT t) t _ w2 1 (wrap64 0) (Nat.le_refl _)
  (h.below hS hb2) (by omega) (by omega) ⟨0, rfl, hc0⟩)
 have hr := walk_siz t 1 0
 have hr1 : (walkT sizF t 1 (wrap64 0)).1 = wrap64 (sizeT t) := by rw [hr]; show wrap64 (0 + (sizeT t : Int)) = _; rw [Int.zero_add]
 rw [hr1] at HC
 have HB := hid hb2
 subst ho hw2
 clear h hs hr hr1 hc0 hb2 hsz
 go_enter Tryz.func163, Tryz.ntmps163
 go_wp2_with fail
 refine HC.out.mono ?_
 rintro e w' ⟨rfl, ⟨st0, hst, hc⟩, ho⟩
 rw [← hst] at hc
 have c0 := hc.cell
 have HB2 := hid (HB.out.trans (ho.below (B := w.heap.size) (by simp; omega) (by omega)))
 clear hc ho HC HB hst
 go_wp2_with fail
 go_ret
 exact ⟨rfl, HB2.out⟩
def Box (w : World) (g : Nat) (a b c d e : Value) : Prop := w.heap[g]? = some (.cells #[a, b, c, d, e] 27 (0, 0))
theorem Box.c0 {w : World} {g : Nat} {a b c d e : Value} (h : Box w g a b c d e) : w.cell? ⟨g, 0, none⟩ = some a := Go.Joins.cell_of_block h 0
theorem Box.c1 {w : World} {g : Nat} {a b c d e : Value} (h : Box w g a b c d e) : w.cell? ⟨g, 1, none⟩ = some b := Go.Joins.cell_of_block h 1
theorem Box.c2 {w : World} {g : Nat} {a b c d e : Value} (h : Box w g a b c d e) : w.cell? ⟨g, 2, none⟩ = some c := Go.Joins.cell_of_block h 2
theorem Box.c3 {w : World} {g : Nat} {a b c d e : Value} (h : Box w g a b c d e) : w.cell? ⟨g, 3, none⟩ = some d := Go.Joins.cell_of_block h 3
theorem Box.c4 {w : World} {g : Nat} {a b c d e : Value} (h : Box w g a b c d e) : w.cell? ⟨g, 4, none⟩ = some e := Go.Joins.cell_of_block h 4
theorem Box.free {w : World} {g : Nat} {a b c d e : Value} (h : Box w g a b c d e) (i : Nat) : w.frozen? ⟨g, i, none⟩ = false := Go.Joins.unfrozen_of_block h i
theorem Box.lt {w : World} {g : Nat} {a b c d e : Value} (h : Box w g a b c d e) : g < w.heap.size := (Array.getElem?_eq_some_iff.1 h).1
theorem Box.new {w : World} (a b c d e : Value) : Box (w.alloc (.cells #[a, b, c, d, e] 27)) w.heap.size a b c d e := heap_alloc_new w _
theorem Box.below {w w' : World} {g B : Nat} {a b c d e : Value} (h : Box w g a b c d e) (hb : Below B w w') (hg : g < B) : Box w' g a b c d e := (hb.block g hg).trans h
theorem Box.call {w w' : World} {g : Nat} {a b c d e : Value} (h : Box w g a b c d e) (hb : Below w.heap.size w w') : Box w' g a b c d e := h.below hb h.lt
theorem Box.alloc {w : World} {g : Nat} {a b c d e : Value} (h : Box w g a b c d e) (o : Obj) : Box (w.alloc o) g a b c d e := (Below.heap_alloc w o g h.lt).trans h

def checkT (t : VT) : Int := if mayT t then (if 8 < (depthT t : Int) then 21 else if 4096 < wrap64 (sizeT t) then 22 else 0) else 20

section
variable (S : Nat → Prop) (t : VT) (v : Value) (w : World)
set_option maxHeartbeats 400000

theorem check_any (hS : ∀ b, S b → b < w.heap.size) (h : LV w S t v) (hd : depthT t ≤ 4611686018427387903) : Calls Tryz.prog 127 #[v] w fun e w' => e = .returned (.int .i64 (checkT t)) ∧ Below w.heap.size w w' := by
 have HV := hid h
 obtain ⟨A, c, A', c', rfl, -, -, -, -, -, -, -⟩ := h.shape
 have HX := hid (Box.new (w := w) (.int .i64 t.kind) (.int .i64 t.num) (.string t.text) (.slice A t.items.length c) (.slice A' t.names.length c'))
 have HM := hid (may_any S t _ _ (sub_alloc hS _) (h.alloc hS (.cells #[.int .i64 t.kind, .int .i64 t.num, .string t.text, .slice A t.items.length c, .slice A' t.names.length c'] 27)) hd)
 have HD := hid hd
 have HE : Hid (checkT t = if mayT t then (if 8 < (depthT t : Int) then 21 else if 4096 < wrap64 (sizeT t) then 22 else 0) else 20) := rfl
 generalize checkT t = R at *
 clear h hd
 generalize hm : mayT t = m at *
 clear hm
 go_enter Tryz.func127, Tryz.ntmps127
 go_wp2_with fail
 refine HM.out.mono ?_
 rintro e w1 ⟨rfl, hb⟩
 have HB1 := hid (toStart (below_box _) hb)
 have hx := HX.out.call hb
 have HX1 := hid hx
 have k0 := hx.c0
 have k1 := hx.c1
 have k2 := hx.c2
 have k3 := hx.c3
 have k4 := hx.c4
 clear hx hb HM HX
 cases m
 ·go_wp2_with fail
  go_ret
  rw [HE.out]
  exact ⟨rfl, HB1.out⟩
 ·go_wp2_with fail
  refine (depth_any S t _ w1 (sub_below hS HB1.out) (HV.out.below hS HB1.out) HD.out).mono ?_
  rintro e w2 ⟨rfl, hb⟩
  have HB2 := hid (toStart HB1.out hb)
  have hx := HX1.out.call hb
  clear k0 k1 k2 k3 k4
  have k0 := hx.c0
  have k1 := hx.c1
  have k2 := hx.c2
  have k3 := hx.c3
  have k4 := hx.c4
  clear hx hb HB1 HX1
  by_cases h8 : 8 < (depthT t : Int)
  ·have e1 : R = 21 := by rw [HE.out, if_pos trivial, if_pos h8]
   go_wp2_with fail
   go_ret
   rw [e1]
   exact ⟨rfl, HB2.out⟩
  ·have HE2 : Hid (R = if 4096 < wrap64 (sizeT t) then 22 else 0) := hid (by rw [HE.out, if_pos trivial, if_neg h8])
   clear HE
   go_wp2_with fail
   refine (size_any S t _ w2 (sub_below hS HB2.out) (HV.out.below hS HB2.out) HD.out).mono ?_
   rintro e w3 ⟨rfl, hb⟩
   have HB3 := hid (toStart HB2.out hb)
   clear k0 k1 k2 k3 k4 hb HB2 HV
   generalize wrap64 (sizeT t) = z at *
   by_cases hz : 4096 < z
   ·have e1 : R = 22 := by rw [HE2.out, if_pos hz]
    go_wp2_with fail
    go_ret
    rw [e1]
    exact ⟨rfl, HB3.out⟩
   ·have e1 : R = 0 := by rw [HE2.out, if_neg hz]
    go_wp2_with fail
    go_ret
    rw [e1]
    exact ⟨rfl, HB3.out⟩
end
set_option maxHeartbeats 1000000 in
theorem rname_any (s : ByteArray) (w : World) (hs : s.size ≤ 9223372036854775807) : Calls Tryz.prog 77 #[.string s] w fun e w' => e = .returned (.bool (nameB s.data.toList)) ∧ w = w' := by
 have HS := hid hs
 clear hs
 go_enter Tryz.func77, Tryz.ntmps77
 go_wp2
 go_loopw [3] (fun i wr => ∃ k : Nat, i = .int .i64 k ∧ k ≤ s.size ∧ wr = w ∧ ∀ j (h : j < s.size), j < k → s[j].toNat ≠ 46) (fun i _ => s.size - (intOf i).toNat)
 case atStart => exact ⟨0, rfl, by omega, rfl, fun j _ h => absurd h (by omega)⟩
 case round =>
  obtain ⟨k, rfl, hk, rfl, hj⟩ := hrel
  have HJ := hid hj
  have hs := HS.out
  clear hj
  by_cases hlt : k < s.size
  ·by_cases hb : s[k].toNat = 46
   ·go_wp2
    go_ret
    exact ⟨ret_bool (name_false fun h => h.2.2.2 k hlt hb), rfl⟩
   ·go_wp2
    go_roundw
    case rel => exact ⟨k + 1, by go_num, by omega, trivial, fun j h hjk => by
     by_cases e : j = k
     ·subst e; exact hb
     ·exact HJ.out j h (by omega)⟩
    case measure => simp [intOf]; omega
  ·obtain rfl : k = s.size := by omega
   clear hlt hk
   by_cases h1 : 1 ≤ s.size
   ·by_cases h2 : s.size ≤ 32
    ·by_cases h3 : s[0].toNat = 36
     ·go_wp2
      go_ret
      exact ⟨ret_bool (name_false fun h => h.2.2.1 h1 h3), rfl⟩
     ·go_wp2
      go_ret
      exact ⟨ret_bool (((bne_iff_ne).2 fun h => h3 (by omega)).trans (name_true ⟨h1, h2, fun _ => h3, fun i h => HJ.out i h h⟩)), rfl⟩
    ·go_wp2
     go_ret
     exact ⟨ret_bool (name_false fun h => h2 h.2.1), rfl⟩
   ·go_wp2
    go_ret
    exact ⟨ret_bool (name_false fun h => h1 h.1), rfl⟩
end Go.Proofs.YtlipkmdjpligeaaGreat
