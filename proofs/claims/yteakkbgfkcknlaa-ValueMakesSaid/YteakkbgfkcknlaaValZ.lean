/- How large a value is: the walk's sum. -/
import Derived.Test.YteakkbgfkcknlaaValS
import Derived.Deep.RegionWith
namespace Go.Proofs.Yteakkbgfkcknlaa
open Go.RowKit

theorem LV.drew {w : World} {S : Nat → Prop} {t : VT} {v : Value} (h : LV w S t v) : LV w.drew S t v := LV.keep (w := w) (w' := w.drew) (fun _ _ => rfl) h
theorem enters_size : Enters 85 := fun _ _ => by simp [callFunc, go_sem, Try.func85, Try.f85]
theorem i64wrap (x : Int) : IntKind.i64.wrap x = wrap64 x := by rw [IntKind.wrap_i64]; unfold wrap64; rfl
def sizF : VT → Nat → Int → Int × Bool := fun x _ st => (wrap64 (st + wrap64 (ownT x)), true)
mutual
def sizeT : VT → Nat
  | .mk k i s l ns => ownP k i s l.length ns + sizeL l
def sizeL : List VT → Nat
  | [] => 0
  | t :: r => sizeT t + sizeL r
end
mutual
theorem walk_siz : ∀ (t : VT) (d : Nat) (st : Int), walkT sizF t d (wrap64 st) = (wrap64 (st + sizeT t), true)
  | .mk k i s l ns, d, st => by
    rw [walkT_go (f := sizF) rfl]
    show walkL sizF l (d + 1) (wrap64 (wrap64 st + wrap64 (ownP k i s l.length ns))) = _
    rw [wrap64_add2, wrap64_add, walk_sizL l]
    unfold sizeT
    congr 2; omega
theorem walk_sizL : ∀ (l : List VT) (d : Nat) (st : Int), walkL sizF l d (wrap64 st) = (wrap64 (st + sizeL l), true)
  | [], d, st => by rw [walkL_nil]; unfold sizeL; simp
  | t :: r, d, st => by
    have h := walk_siz t d st
    rw [walkL_go (by rw [h]), h]
    show walkL sizF r d (wrap64 (st + sizeT t)) = _
    rw [walk_sizL r]
    conv => rhs; unfold sizeL
    congr 2; omega
end

set_option maxHeartbeats 1000000 in
theorem sizC_any (S : Nat → Prop) (g : Nat) (x : VT) (v : Value) (W : World) (lvl : Nat) (st : Int) (hS : ∀ b, S b → b < g) (hg : g < W.heap.size) (h : LV W S x v) (hc : Cell1 W g (.int .i64 (wrap64 st))) :
    Calls Try.prog 85 #[v, .int .i64 lvl, .pointer (some ⟨g, 0, none⟩)] W fun e w' => e = .returned (.bool true) ∧ Cell1 w' g (.int .i64 (wrap64 (st + wrap64 (ownT x)))) ∧ Only W w' g := by
  have HV := Lib.hid h
  obtain ⟨A, c, A', c', rfl, -, -, -, -, -, -, -⟩ := h.shape
  obtain ⟨o, ho⟩ : ∃ o : Obj, o = .cells #[.int .i64 x.kind, .int .i64 x.num, .string x.text, .slice A x.items.length c, .slice A' x.names.length c'] 49 := ⟨_, rfl⟩
  have HO := Lib.hid ho
  have HC := Lib.hid hc
  have c0 := hc.cell
  have f0 := hc.free
  have hc2 := hc.alloc hg o
  have C0 : Hid ((W.alloc o).drew.cell? ⟨g, 0, none⟩ = some (.int .i64 (wrap64 st))) := hc2.cell
  have F0 : Hid ((W.alloc o).drew.frozen? ⟨g, 0, none⟩ = false) := hc2.free
  have HG : Hid (g < (W.alloc o).drew.heap.size) := by
    show g < (W.alloc o).heap.size
    simp; omega
  have HC2 : Hid (Cell1 (W.alloc o).drew g (.int .i64 (wrap64 st))) := hc2
  have HON : Hid (Only W (W.alloc o).drew g) := Only.ofBelow ((below_box o).drew)
  have HW := Lib.hid (own_any S x _ (W.alloc o).drew (fun b hb => by have := hS b hb; simp; omega) (h.alloc (fun b hb => Nat.lt_trans (hS b hb) hg) o).drew)
  clear h hc hc2
  subst ho
  go_enter Try.func85, Try.ntmps85
  go_wp2_with fail
  go_region_with (go_at_call 86; refine HW.out.mono ?_; rintro e w1 ⟨rfl, hb⟩; have c1 := (hb.cell (p := ⟨g, 0, none⟩) HG.out).trans C0.out; have f1 := (World.frozen?_of_block (a := ⟨g, 0, none⟩) (hb.block g HG.out)).trans F0.out)
  all_goals
    have hcw : Cell1 w1 g _ := (hb.block g HG.out).trans HC2.out
    have how : Only W w1 g := HON.out.trans (Only.ofBelow hb)
    have HF := Lib.hid (And.intro (hcw.set (.int .i64 (wrap64 (st + wrap64 (ownT x))))) (how.set 0 (.int .i64 (wrap64 (st + wrap64 (ownT x))))))
    have e : IntKind.i64.wrap (wrap64 st + wrap64 (ownT x)) = wrap64 (st + wrap64 (ownT x)) := (i64wrap _).trans (wrap64_add _ _)
    rw [e]
    clear hcw how hb HW HON HC2 HG C0 F0 HV HC c0 f0 e c1 f1
    go_wp2
    go_ret
    exact ⟨rfl, HF.out⟩

set_option maxHeartbeats 400000 in
theorem size_any (S : Nat → Prop) (t : VT) (v : Value) (w : World) (hS : ∀ b, S b → b < w.heap.size) (h : LV w S t v) (hd : depthT t ≤ 4611686018427387903) : Calls Try.prog 75 #[v] w fun e w' => e = .returned (.int .i64 (wrap64 (sizeT t))) ∧ Below w.heap.size w w' := by
  obtain ⟨A, c, A', c', rfl, -, -, -, -, -, -, -⟩ := h.shape
  obtain ⟨o, ho⟩ : ∃ o : Obj, o = .cells #[.int .i64 t.kind, .int .i64 t.num, .string t.text, .slice A t.items.length c, .slice A' t.names.length c'] 49 := ⟨_, rfl⟩
  obtain ⟨w2, hw2⟩ : ∃ w2 : World, w2 = (w.alloc o).alloc (.cells #[.int .i64 0] 3) := ⟨_, rfl⟩
  have hsz : w2.heap.size = w.heap.size + 2 := by rw [hw2]; simp
  have hb2 : Below w.heap.size w w2 := by rw [hw2]; exact ((below_box o).alloc (by simp) _)
  have hs : Shows 85 #[.pointer (some ⟨w.heap.size + 1, 0, none⟩)] S (w.heap.size + 1) (fun W st => ∃ st0, st = wrap64 st0 ∧ Cell1 W (w.heap.size + 1) (.int .i64 (wrap64 st0))) sizF 4611686018427387904 := by
    rintro x v W lvl _ hg hv hl ⟨st, rfl, hc⟩
    refine (sizC_any S _ x v W lvl st (fun b hb => Nat.lt_succ_of_lt (hS b hb)) hg hv hc).mono fun e w' ⟨he, hb, ho⟩ => ⟨he, ⟨st + wrap64 (ownT x), ?_, hb⟩, ho⟩
    show wrap64 (wrap64 st + wrap64 (ownT x)) = _
    exact wrap64_add _ _
  have hc0 : Cell1 w2 (w.heap.size + 1) (.int .i64 (wrap64 0)) := by
    have := heap_alloc_new (w.alloc o) (.cells #[.int .i64 0] 3)
    rw [hw2, wrap64_id (by decide) (by decide)]
    unfold Cell1
    simpa using this
  have HC := Lib.hid (walk_any 85 #[.pointer (some ⟨w.heap.size + 1, 0, none⟩)] S (w.heap.size + 1) (fun W st => ∃ st0, st = wrap64 st0 ∧ Cell1 W (w.heap.size + 1) (.int .i64 (wrap64 st0))) sizF 4611686018427387904 enters_size (fun b hb => Nat.lt_succ_of_lt (hS b hb)) (Nat.le_refl _) (fun _ _ _ he ⟨st0, hi, hc⟩ => ⟨st0, hi, he.trans hc⟩) hs (depthT t) t _ w2 1 (wrap64 0) (Nat.le_refl _)
    (h.below hS hb2) (by omega) (by omega) ⟨0, rfl, hc0⟩)
  have hr := walk_siz t 1 0
  have hr1 : (walkT sizF t 1 (wrap64 0)).1 = wrap64 (sizeT t) := by rw [hr]; show wrap64 (0 + (sizeT t : Int)) = _; rw [Int.zero_add]
  rw [hr1] at HC
  have HB := Lib.hid hb2
  subst ho hw2
  clear h hs hr hr1 hc0 hb2 hsz
  go_enter Try.func75, Try.ntmps75
  go_wp2_with fail
  refine HC.out.mono ?_
  rintro e w' ⟨rfl, ⟨st0, hst, hc⟩, ho⟩
  rw [← hst] at hc
  have c0 := hc.cell
  have HB2 := Lib.hid (HB.out.trans (ho.below (B := w.heap.size) (by simp; omega) (by omega)))
  clear hc ho HC HB hst
  go_wp2_with fail
  go_ret
  exact ⟨rfl, HB2.out⟩
end Go.Proofs.Yteakkbgfkcknlaa
