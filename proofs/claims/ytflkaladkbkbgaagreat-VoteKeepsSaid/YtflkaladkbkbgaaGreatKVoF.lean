/- The last ballot of no frames. -/
import Derived.Test.YtflkaladkbkbgaaGreatKVoD
import Derived.RangeFuncNested
import Derived.RangeFuncBound
import Derived.RangeFuncCalls
import Derived.RangeFuncLeaves
import Derived.Shelf.Abstract
import Derived.Shelf.RegionOpen
import Derived.WalkKit
import Derived.OwnWalkIn
import Derived.TacticsInMore
import Derived.LoopNIn
import Derived.LoopIn
namespace Go.Proofs.YtflkaladkbkbgaaGreat
set_option linter.unusedVariables false
set_option linter.unusedSimpArgs false
open Go.RowKit Go.Shelf
attribute [local go_sem] Oper.semAt_some
set_option maxRecDepth 100000
def KpN (m : Nat) (W W' : World) : Prop := W.heap.size ≤ W'.heap.size ∧ ∀ b, b < m → W'.heap[b]? = W.heap[b]?
theorem KpN.refl (m : Nat) (W : World) : KpN m W W := ⟨Nat.le_refl _, fun _ _ => rfl⟩
theorem KpN.trans {m : Nat} {A B C : World} (h : KpN m A B) (k : KpN m B C) : KpN m A C := ⟨Nat.le_trans h.1 k.1, fun b hb => (k.2 b hb).trans (h.2 b hb)⟩
theorem kpN_b {m : Nat} {w : World} (hn : m ≤ w.heap.size) (W : World) (l : Nat) (o o' : Obj) (hl : w.heap.size ≤ l) (h : W.heap[l]? = some o) (_ : o.isCells = false) (_ : o.isWalk = false) : KpN m W (W.putObj l o') :=
  ⟨(grownBy_putObj' W l o').size, fun b hb => (grownBy_putObj' W l o').block b (by have := (Array.getElem?_eq_some_iff.1 h).1; omega) (fun e => by injection e with e; omega)⟩
set_option maxHeartbeats 2000000 in
theorem backN_in (F : Fence) (n : Nat) (hf : F.fn 85) (hro : F.round = none) (hn : 1 ≤ n) (l Bs : Nat) (J Jx : List Value → World → Prop)
    (W : World) (hc : W.cell? ⟨Bs, 0, none⟩ = some (.slice none 0 0)) (h0 : J [] W) :
    CallsIn F n Tryz.prog 85 #[.func (.yield l) #[] #[], .pointer (some ⟨Bs, 0, none⟩)] W fun e W' => (∃ v, e = .returned v) ∧
      ((∃ ys, ys = [] ∧ J ys W') ∨ (∃ pre, False ∧ Jx pre W')) := by
  refine callsIn_of_wp Tryz.func85 rfl hf ?_ hro
  simp only [Tryz.ntmps85, List.size_toArray, List.length_cons, List.length_nil, Nat.reduceAdd, Nat.reduceSub, Array.replicate_succ, Array.replicate_zero, List.push_toArray, List.append_toArray, List.nil_append, List.cons_append]
  gi_wp2
  gi_loopw [3] (fun i wr => i = .int .i64 (-1) ∧ J [] wr) (fun i _ => 0)
  case atStart => exact ⟨rfl, h0⟩
  case round =>
    obtain ⟨rfl, hJs⟩ := hrel
    gi_wp2
    go_end0
    exact ⟨⟨_, rfl⟩, .inl ⟨_, rfl, hJs⟩⟩
theorem backN_stops (F : Fence) (n : Nat) (hf : F.fn 85) (hro : F.round = none) (hn : 1 ≤ n) (Bs m : Nat) (hBs : Bs < m) (w : World) (hm : m ≤ w.heap.size) (hc : w.cell? ⟨Bs, 0, none⟩ = some (.slice none 0 0)) :
    SeqStopsK F n Tryz.prog 85 #[.pointer (some ⟨Bs, 0, none⟩)] (fun x : Value => #[Value.int .i64 0, x]) (KpN m) (fun ys => ys = []) (fun _ => False) 0 w := fun l J Jx W hW _ _ hY h0 =>
  backN_in F n hf hro hn l Bs J Jx W ((hW.cell (p := ⟨Bs, 0, none⟩) (Nat.lt_of_lt_of_le hBs hm)).trans hc) h0
set_option maxHeartbeats 1000000 in
theorem backN0_in (F : Fence) (n : Nat) (hf : F.fn 62) (hro : F.round = none) (a : Option Addr) (len cap : Nat) (w : World) :
    CallsIn F n Tryz.prog 62 #[.slice a len cap] w fun e w' => e = .returned (.func (.func 85) #[] #[.pointer (some ⟨w.heap.size, 0, none⟩)]) ∧ w' = w.alloc (.cells #[.slice a len cap] 39) := by
  refine callsIn_of_wp Tryz.func62 rfl hf ?_ hro
  simp only [Tryz.ntmps62, List.size_toArray, List.length_cons, List.length_nil, Nat.reduceAdd, Nat.reduceSub, Array.replicate_succ, Array.replicate_zero, List.push_toArray, List.append_toArray, List.nil_append, List.cons_append]
  gi_wp2
  go_ret
  exact ⟨rfl, rfl⟩
/-- Two cells of a block, set. -/
theorem two_set {W : World} {p i j : Nat} {cs : Array Value} {t : TypeId} {fr : Nat × Nat} (h : W.heap[p]? = some (.cells cs t fr)) (a b : Value) :
    ((W.setCell ⟨p, i, none⟩ a).setCell ⟨p, j, none⟩ b).heap[p]? = some (.cells ((cs.setIfInBounds i a).setIfInBounds j b) t fr) ∧ W.grownBy ((W.setCell ⟨p, i, none⟩ a).setCell ⟨p, j, none⟩ b) (some p) ∧ ((W.setCell ⟨p, i, none⟩ a).setCell ⟨p, j, none⟩ b).heap.size = W.heap.size :=
  ⟨Go.Joins.block_setCell (Go.Joins.block_setCell h a) b, ⟨rfl, rfl, rfl, by simp, fun k _ hk => by
    have hne : k ≠ p := fun e => hk (by rw [e])
    rw [heap_setCell_other _ ⟨p, j, none⟩ k _ hne, heap_setCell_other _ ⟨p, i, none⟩ k _ hne]⟩, by simp⟩
def LastI (w : World) (_ : List Value) (W : World) : Prop := W.heap[w.heap.size]? = some (.cells #[.int .i64 0, .int .i64 0] 51 (0, 0)) ∧ w.heap.size + 2 ≤ W.heap.size ∧ Below w.heap.size w W
theorem lastI_own (w : World) (B : Nat) (hB : w.heap.size + 2 ≤ B) : OwnFrom B (LastI w) := by
  rintro pre W W' row ⟨h1, h2, h3⟩ hg hr
  exact ⟨(grownBy_keeps_cells hg (fun r e => (hr r e).2) h1 rfl).trans h1, Nat.le_trans h2 hg.size, h3.grown hg h3.size (fun k e => Nat.le_trans (by omega) (hr k e).1)⟩
set_option maxHeartbeats 4000000 in
theorem lastOf_nil (w : World) : Calls Tryz.prog 38 #[.slice none 0 0] w fun e w' => e = .returned (bv 0 (-1)) ∧ Below w.heap.size w w' := by
  have hB1 : Below w.heap.size w (w.alloc (.cells #[.int .i64 0, .int .i64 0] 51)) := two_below w _
  have hX1 : (w.alloc (.cells #[.int .i64 0, .int .i64 0] 51)).heap[w.heap.size]? = some (.cells #[.int .i64 0, .int .i64 0] 51 (0, 0)) := heap_alloc_new w _
  refine (callsIn_wide (n := 8)).1 ?_
  refine callsIn_of_wp_marks Tryz.func38 rfl trivial ?_ rfl
  simp only [Tryz.ntmps38, List.size_toArray, List.length_cons, List.length_nil, Nat.reduceAdd, Nat.reduceSub, Array.replicate_succ, Array.replicate_zero, List.push_toArray, List.append_toArray, List.nil_append, List.cons_append]
  gi_wp2
  refine ⟨trivial, ?_⟩
  refine (backN0_in Fence.wide 7 trivial rfl _ _ _ _).mono ?_
  rintro e w' ⟨rfl, rfl⟩
  gi_wp2
  have hX2 : ((w.alloc (.cells #[.int .i64 0, .int .i64 0] 51)).alloc (.cells #[.slice none 0 0] 39)).heap[w.heap.size]? = some (.cells #[.int .i64 0, .int .i64 0] 51 (0, 0)) := ((two_below _ _).block _ (by simp)).trans hX1
  have hB2 : Below w.heap.size w ((w.alloc (.cells #[.int .i64 0, .int .i64 0] 51)).alloc (.cells #[.slice none 0 0] 39)) := below_two w _ _
  have hz2 : ((w.alloc (.cells #[.int .i64 0, .int .i64 0] 51)).alloc (.cells #[.slice none 0 0] 39)).heap.size = w.heap.size + 2 := by simp
  have hs2 : ((w.alloc (.cells #[.int .i64 0, .int .i64 0] 51)).alloc (.cells #[.slice none 0 0] 39)).cell? ⟨w.heap.size + 1, 0, none⟩ = some (.slice none 0 0) := by
    have h9 := Go.Joins.cell_of_block (heap_alloc_new (w.alloc (.cells #[.int .i64 0, .int .i64 0] 51)) (.cells #[.slice none 0 0] 39)) 0
    rw [show (w.alloc (.cells #[.int .i64 0, .int .i64 0] 51)).heap.size = w.heap.size + 1 from by simp] at h9
    exact h9
  generalize (w.alloc (.cells #[.int .i64 0, .int .i64 0] 51)).alloc (.cells #[.slice none 0 0] 39) = w2 at *
  have h0 : LastI w [] w2 := ⟨hX2, by omega, hB2⟩
  clear hX1 hB1 hX2 hB2
  refine wpIn_rangeFunc_ownF rfl (by omega) (gf := 85) (lb := #[.pointer (some ⟨w.heap.size + 1, 0, none⟩)]) rfl trivial (enters_of Tryz.func85 (by kernel_rfl) rfl)
    (backN_stops Fence.wide 7 trivial rfl (by omega) (w.heap.size + 1) (w.heap.size + 2) (by omega) w2 (by omega) hs2) KpN.trans (kpN_b (by omega)) (Below.refl _ _) (fun _ => rfl)
    (LastI w) (fun _ _ _ => False) (lastI_own w _ (by omega)) (fun _ _ _ _ _ hs _ _ => hs) h0
    (fun q => { tmps := #[.slice none 0 0, undef, .pointer (some ⟨w.heap.size, 0, none⟩), undef, q, undef, undef, .slice none 0 0, .func (.func 85) #[] #[.pointer (some ⟨w.heap.size + 1, 0, none⟩)], .int .i64 0, q, undef, undef, undef, undef, undef, undef, undef, undef], defers := [] }) ?assign ?body ?done ?stop
  case assign =>
    intro l q W K hK
    gi_wp2
    exact hK
  case body =>
    rintro l pre q W hI hlen
    exact absurd hlen (Nat.not_lt_zero _)
  case done =>
    rintro D ys W hD rfl ⟨i1, i2, i3⟩ hK
    have y0 := Go.Joins.cell_of_block i1 0
    have y1 := Go.Joins.cell_of_block i1 1
    have yf := fun i => Go.Joins.unfrozen_of_block i1 i
    have HV := Lib.hid (And.intro i1 (And.intro i2 i3))
    have HKD := Lib.hid hK
    clear i1 i2 i3 hK
    gi_wp2
    obtain ⟨i1, i2, i3⟩ := HV.out
    obtain ⟨hbox, hg5, hz5⟩ := two_set (i := 0) (j := 1) i1 (.int .i64 0) (.int .i64 (-1))
    generalize (W.setCell ⟨w.heap.size, 0, none⟩ (.int .i64 0)).setCell ⟨w.heap.size, 1, none⟩ (.int .i64 (-1)) = W5 at *
    have hDW : D < W.heap.size := (Array.getElem?_eq_some_iff.1 HKD.out).1
    have hK5 : W5.heap[D]? = some (.deferred (some [])) := (hg5.block D hDW (fun e => by injection e; omega)).trans HKD.out
    have hg6 := grownBy_putObj' W5 D (.deferred none)
    have hbox6 : (W5.putObj D (.deferred none)).heap[w.heap.size]? = some (.cells #[.int .i64 0, .int .i64 (-1)] 51 (0, 0)) := (hg6.block _ (by omega) (fun e => by injection e; omega)).trans hbox
    refine ⟨by simp, .inl ⟨_, _, rfl, run_takeDeferred hK5, ?_⟩⟩
    refine ⟨_, results_cell_row rfl _ _ w.heap.size 51 _ (0, 0) _ rfl hbox6 Tryz.underlying51 rfl (by kernel_rfl), rfl, ?_⟩
    exact ⟨hg6.os.trans (hg5.os.trans i3.os), hg6.tape.trans (hg5.tape.trans i3.tape), hg6.output.trans (hg5.output.trans i3.output), by have := hg6.size; omega, fun b hb => (hg6.block b (by omega) (fun e => by injection e; omega)).trans ((hg5.block b (by omega) (fun e => by injection e; omega)).trans (i3.block b hb))⟩
  case stop =>
    rintro D c' pre W _ _ h _
    exact h.elim
end Go.Proofs.YtflkaladkbkbgaaGreat
