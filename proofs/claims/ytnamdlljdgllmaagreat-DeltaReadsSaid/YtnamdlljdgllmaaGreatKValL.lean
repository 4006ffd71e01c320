/- Values copied. -/
import Derived.Test.YtnamdlljdgllmaaGreatKRefD
import Derived.Test.YtnamdlljdgllmaaGreatKMath
import Derived.Test.YtnamdlljdgllmaaGreatKValB
import Derived.Test.YtnamdlljdgllmaaGreatKRefA
import Derived.Test.YtnamdlljdgllmaaGreatKRefM
import Derived.Deep.Slices
import Derived.SliceStrings
import Derived.SizedLaws
import Derived.Lib.SmallJoins
import Derived.Laws.OwnMore
import Derived.Laws.AppendOwn
import Derived.Laws.ResultCell
import Derived.Outline
namespace Go.Proofs.YtnamdlljdgllmaaGreat
set_option linter.unusedVariables false
set_option linter.unusedSimpArgs false
open Go.RowKit

theorem LVs_of_row {w : World} {S : Nat → Prop} {G n : Nat} {f : Nat → Value} (hr : w.rowIs G 29 n f) : ∀ (l : List VT) (off : Nat), off + l.length * 5 ≤ n →
    (∀ i (h : i < l.length), LV w S l[i] (.agg #[f (off + i * 5), f (off + i * 5 + 1), f (off + i * 5 + 2), f (off + i * 5 + 3), f (off + i * 5 + 4)])) → LVs w S G off l
  | [], _, _, _ => by unfold LVs; trivial
  | t :: r, off, hn, h => by
    simp only [List.length_cons] at hn
    unfold LVs
    refine ⟨⟨_, _, _, _, _, hr.cell (by omega), hr.cell (by omega), hr.cell (by omega), hr.cell (by omega), hr.cell (by omega), by have := h 0 (by simp); simpa only [Nat.zero_mul, Nat.add_zero, List.getElem_cons_zero] using this⟩, LVs_of_row hr r (off + 5) (by omega) fun i hi => ?_⟩
    have := h (i + 1) (by simpa using hi)
    have e : off + 5 + i * 5 = off + (i + 1) * 5 := by omega
    rw [e]
    simpa using this
theorem row_of_made {w : World} {G n : Nat} {v : Value} {xs : List Value} {B : Nat} (h : w.ownsRow B 29 5 (.slice (some ⟨G, 0, none⟩) n n) n xs) : ∃ f, w.rowIs G 29 (n * 5) f := by
  rcases h.2 with ⟨h1, _⟩ | ⟨g, cap, cur, hv, hg, hh, h1, h2, h3, _⟩
  · cases h1
  · injection hv with e1 e2 e3
    injection e1 with e1
    injection e1 with e1
    subst e1; subst e3
    exact ⟨fun i => cur[i]?.getD undef, cur, hh, h3, fun i hi => by show cur[i]? = some (cur[i]?.getD undef); rw [Array.getElem?_eq_getElem (by omega)]; rfl⟩

def put5 (f : Nat → Value) (p : Nat) (v0 v1 v2 v3 v4 : Value) : Nat → Value := fun i => if i = p + 4 then v4 else if i = p + 3 then v3 else if i = p + 2 then v2 else if i = p + 1 then v1 else if i = p then v0 else f i
def set5 (w : World) (G p : Nat) (v0 v1 v2 v3 v4 : Value) : World := ((((w.setCell ⟨G, p, none⟩ v0).setCell ⟨G, p + 1, none⟩ v1).setCell ⟨G, p + 2, none⟩ v2).setCell ⟨G, p + 3, none⟩ v3).setCell ⟨G, p + 4, none⟩ v4
theorem row_set5 {w : World} {G n p : Nat} {f : Nat → Value} (hr : w.rowIs G 29 n f) (v0 v1 v2 v3 v4 : Value) : (set5 w G p v0 v1 v2 v3 v4).rowIs G 29 n (put5 f p v0 v1 v2 v3 v4) :=
  ((((hr.set p v0).set (p + 1) v1).set (p + 2) v2).set (p + 3) v3).set (p + 4) v4
theorem set5_size (w : World) (G p : Nat) (v0 v1 v2 v3 v4 : Value) : (set5 w G p v0 v1 v2 v3 v4).heap.size = w.heap.size := by simp [set5, World.setCell]
theorem set5_block {w : World} {G p b : Nat} (v0 v1 v2 v3 v4 : Value) (h : b ≠ G) : (set5 w G p v0 v1 v2 v3 v4).heap[b]? = w.heap[b]? := by
  unfold set5
  rw [Below.heap_setCell _ _ _ _ h, Below.heap_setCell _ _ _ _ h, Below.heap_setCell _ _ _ _ h, Below.heap_setCell _ _ _ _ h, Below.heap_setCell _ _ _ _ h]
theorem set5_below {B : Nat} {a w : World} {G p : Nat} (v0 v1 v2 v3 v4 : Value) (h : Below B a w) (hG : B ≤ G) : Below B a (set5 w G p v0 v1 v2 v3 v4) := by
  unfold set5
  exact ((((h.setCell hG _).setCell hG _).setCell hG _).setCell hG _).setCell hG _
theorem put5_old {f : Nat → Value} {p i : Nat} {v0 v1 v2 v3 v4 : Value} (h : i < p) : put5 f p v0 v1 v2 v3 v4 i = f i := by
  unfold put5
  rw [if_neg (by omega), if_neg (by omega), if_neg (by omega), if_neg (by omega), if_neg (by omega)]
theorem put5_new (f : Nat → Value) (p : Nat) (v0 v1 v2 v3 v4 : Value) : put5 f p v0 v1 v2 v3 v4 p = v0 ∧ put5 f p v0 v1 v2 v3 v4 (p + 1) = v1 ∧ put5 f p v0 v1 v2 v3 v4 (p + 2) = v2 ∧ put5 f p v0 v1 v2 v3 v4 (p + 3) = v3 ∧ put5 f p v0 v1 v2 v3 v4 (p + 4) = v4 := by
  unfold put5
  refine ⟨?_, ?_, ?_, ?_, ?_⟩
  · rw [if_neg (by omega), if_neg (by omega), if_neg (by omega), if_neg (by omega), if_pos rfl]
  · rw [if_neg (by omega), if_neg (by omega), if_neg (by omega), if_pos rfl]
  · rw [if_neg (by omega), if_neg (by omega), if_pos rfl]
  · rw [if_neg (by omega), if_pos rfl]
  · rw [if_pos rfl]
def Part (w : World) (G : Nat) (l : List VT) (f : Nat → Value) (j : Nat) : Prop := ∀ i (h : i < l.length), i < j → LV w (fun b => G < b ∧ b < w.heap.size) l[i] (.agg #[f (i * 5), f (i * 5 + 1), f (i * 5 + 2), f (i * 5 + 3), f (i * 5 + 4)])
theorem Part.next {w w3 : World} {G j : Nat} {l : List VT} {f : Nat → Value} {v0 v1 v2 v3 v4 : Value} (h : Part w G l f j) (hj : j < l.length) (hs : w.heap.size ≤ w3.heap.size) (hG : G < w.heap.size) (hb : ∀ b, b < w.heap.size → b ≠ G → w3.heap[b]? = w.heap[b]?)
    (hx : LV w3 (fun b => w.heap.size ≤ b ∧ b < w3.heap.size) l[j] (.agg #[v0, v1, v2, v3, v4])) : Part (set5 w3 G (j * 5) v0 v1 v2 v3 v4) G l (put5 f (j * 5) v0 v1 v2 v3 v4) (j + 1) := by
  intro i hi hij
  have hkeep : ∀ {S : Nat → Prop} {t : VT} {v : Value}, (∀ b, S b → b ≠ G) → LV w3 S t v → LV (set5 w3 G (j * 5) v0 v1 v2 v3 v4) S t v := fun hS hv => hv.keep fun b hb => set5_block v0 v1 v2 v3 v4 (hS b hb)
  by_cases e : i = j
  · subst e
    obtain ⟨e0, e1, e2, e3, e4⟩ := put5_new f (i * 5) v0 v1 v2 v3 v4
    rw [e0, e1, e2, e3, e4]
    refine (hkeep (fun b hb => by have := hb.1; omega) hx).imp fun b hb => ⟨by have := hb.1; omega, by rw [set5_size]; exact hb.2⟩
  · rw [put5_old (by omega), put5_old (by omega), put5_old (by omega), put5_old (by omega), put5_old (by omega)]
    have h1 := h i hi (by omega)
    have h2 := h1.keep (w' := w3) fun b hb' => hb b hb'.2 (by have := hb'.1; omega)
    exact (hkeep (fun b hb => by have := hb.1; omega) h2).imp fun b hb => ⟨hb.1, by rw [set5_size]; omega⟩

def CloneOK (n : Nat) : Prop := ∀ (S : Nat → Prop) (t : VT) (v : Value) (w : World), depthT t ≤ n → (∀ b, S b → b < w.heap.size) → LV w S t v →
  Calls Tryz.prog 51 #[v] w fun e w' => ∃ v', e = .returned v' ∧ LV w' (New w.heap.size w') t v' ∧ Below w.heap.size w w'

set_option maxHeartbeats 2000000 in
set_option maxRecDepth 100000 in
theorem all_of_clone {n : Nat} (hcl : CloneOK n) (S : Nat → Prop) (A : Option Addr) (c : Nat) (l : List VT) (w : World) (hd : depthL l ≤ n) (hS : ∀ b, S b → b < w.heap.size) (h : LVA w S A l) (hl : l.length ≤ 1759218604390) :
    Calls Tryz.prog 87 #[.slice A l.length c] w fun e w' => ∃ A' c', e = .returned (.slice A' l.length c') ∧ LVA w' (New w.heap.size w') A' l ∧ Below w.heap.size w w' := by
  by_cases hl0 : l.length = 0
  · have hnil := List.eq_nil_of_length_eq_zero hl0
    subst hnil
    go_enter Tryz.func87, Tryz.ntmps87
    go_wp2_with fail
    go_ret
    exact ⟨none, 0, rfl, lva_nil _ _ _, Below.refl _ _⟩
  · obtain ⟨b, off, rfl, hb, hls⟩ := h (by omega)
    obtain ⟨i0, hi, hz0, hz1, hz2⟩ := info_parts Tryz.infoVal
    have HL := Lib.hid hl
    have HLS := Lib.hid hls
    have hne : ((l.length : Int) == 0) = false := by simp; intro h; simp [h] at hl0
    have hlb : l.length ≤ 4611686018427387904 := by omega
    clear h hls hl
    go_enter Tryz.func87, Tryz.ntmps87
    go_wp2_with (at_make; go_must (refine wpList_make_full _ rfl _ _ 27 rfl w.heap.size 29 i0 _ 5 Tryz.underlying27 hi hz0 hz1 .i64 .i64 _ _ l.length rfl rfl rfl rfl ?b0 ?b1 ?b2 ?_))
    case b0 => have := HL.out; rw [hz2]; omega
    case b1 => have := HL.out; unfold maxLen; omega
    case b2 => exact Nat.le_refl _
    intro w1 hown hg
    obtain ⟨f0, hrow⟩ := row_of_made hown (v := .slice none 0 0)
    have hb1 : Below w.heap.size w w1 := below_of_grown hg (Nat.le_refl _) (fun k hk => by cases hk)
    have HROW := Lib.hid hrow
    have HB1 := Lib.hid hb1
    clear hown hg hrow hb1
    obtain ⟨G, hG⟩ : ∃ G, G = w.heap.size := ⟨_, rfl⟩
    rw [← hG] at HROW ⊢
    have HG := Lib.hid hG
    clear hG
    go_wp2_with fail
    have hGlt := HROW.out.lt
    go_loopw [14] (fun i wr => ∃ (j : Nat) (f : Nat → Value), i = .int .i64 j ∧ j ≤ l.length ∧ Hid (wr.rowIs G 29 (l.length * 5) f ∧ Part wr G l f j ∧ Below w.heap.size w wr)) (fun i _ => l.length - (intOf i).toNat)
    case atStart => exact ⟨0, f0, rfl, Nat.zero_le _, HROW.out, fun i _ h => absurd h (by omega), HB1.out⟩
    case round =>
      obtain ⟨j, f, rfl, hj, HI⟩ := hrel
      by_cases hlt : j < l.length
      · obtain ⟨c0, c1, c2, c3, c4, h0, h1, h2, h3, h4, hx⟩ := HLS.out.at j hlt
        obtain ⟨A2, e2, A3, e3, hag, -⟩ := hx.shape
        injection hag with hag; injection hag with hag
        injection hag with y0 hag; injection hag with y1 hag; injection hag with y2 hag; injection hag with y3 hag; injection hag with y4 hag
        subst y0 y1 y2 y3 y4
        have hw : ∀ o, wr.cell? ⟨b, o, none⟩ = w.cell? ⟨b, o, none⟩ := fun o => HI.out.2.2.cell (p := ⟨b, o, none⟩) (hS b hb)
        rw [← hw] at h0 h1 h2 h3 h4
        have hS1 := sub_below hS HI.out.2.2
        have hS2 : ∀ b, S b → b < (wr.alloc (.cells #[.int .i64 l[j].kind, .int .i64 l[j].num, .string l[j].text, .slice A2 l[j].items.length e2, .slice A3 l[j].names.length e3] 29)).heap.size := sub_alloc hS1 _
        have IH := Lib.hid (hcl S l[j] _ _ (Nat.le_trans (depthL_le (List.getElem_mem hlt)) hd) hS2 ((hx.below hS HI.out.2.2).alloc hS1 _))
        have hGr := HI.out.1.lt
        clear hx hw hS1 hS2
        go_wp2_with fail
        refine IH.out.mono ?_
        rintro e w3 ⟨v', rfl, hv, hb3⟩
        obtain ⟨A4, e4, A5, e5, rfl, -⟩ := hv.shape
        have hb3' : Below wr.heap.size wr w3 := toStart (below_box _) hb3
        have hrow3 : w3.rowIs G 29 (l.length * 5) f := HI.out.1.of_block (hb3'.block G hGr)
        have hpart := HI.out.2.1.next hlt hb3'.size hGr (fun b hb _ => hb3'.block b hb) (hv.imp fun b hb => ⟨Nat.le_trans (by simp) hb.1, hb.2⟩)
        have HF : Hid ((set5 w3 G (j * 5) (.int .i64 l[j].kind) (.int .i64 l[j].num) (.string l[j].text) (.slice A4 l[j].items.length e4) (.slice A5 l[j].names.length e5)).rowIs G 29 (l.length * 5) _ ∧ Part _ G l _ (j + 1) ∧ Below w.heap.size w (set5 w3 G (j * 5) (.int .i64 l[j].kind) (.int .i64 l[j].num) (.string l[j].text) (.slice A4 l[j].items.length e4) (.slice A5 l[j].names.length e5))) :=
          Lib.hid ⟨row_set5 hrow3 _ _ _ _ _, hpart, set5_below _ _ _ _ _ (HI.out.2.2.trans (hb3'.mono HI.out.2.2.size)) (by have := HG.out; omega)⟩
        have m0 := hrow3.cell (i := j * 5) (by omega)
        have m1 := hrow3.cell (i := j * 5 + 1) (by omega)
        have m2 := hrow3.cell (i := j * 5 + 2) (by omega)
        have m3 := hrow3.cell (i := j * 5 + 3) (by omega)
        have m4 := hrow3.cell (i := j * 5 + 4) (by omega)
        have n0 := hrow3.frozen (j * 5)
        have n1 := hrow3.frozen (j * 5 + 1)
        have n2 := hrow3.frozen (j * 5 + 2)
        have n3 := hrow3.frozen (j * 5 + 3)
        have n4 := hrow3.frozen (j * 5 + 4)
        have hlb2 := HL.out
        clear hv hb3 hb3' hrow3 hpart IH h0 h1 h2 h3 h4
        go_wp2_with fail
        go_roundw
        case rel => exact ⟨j + 1, _, by go_num, by omega, HF.out⟩
        case measure => simp [intOf]; omega
      · go_wp2_with fail
        go_ret
        refine ⟨some ⟨G, 0, none⟩, l.length, rfl, fun _ => ⟨G, 0, rfl, ⟨by have := HG.out; omega, HI.out.1.lt⟩, LVs_of_row HI.out.1 l 0 (by omega) fun i hi => ?_⟩, HI.out.2.2⟩
        rw [Nat.zero_add]
        exact (HI.out.2.1 i hi (by omega)).imp fun b hb => ⟨by have := hb.1; have := HG.out; omega, hb.2⟩

theorem Box.set0 {w : World} {g : Nat} {a b c d e : Value} (h : Box w g a b c d e) (u : Value) : Box (w.setCell ⟨g, 0, none⟩ u) g u b c d e := Go.Joins.block_setCell (i := 0) h u
theorem Box.set1 {w : World} {g : Nat} {a b c d e : Value} (h : Box w g a b c d e) (u : Value) : Box (w.setCell ⟨g, 1, none⟩ u) g a u c d e := Go.Joins.block_setCell (i := 1) h u
theorem Box.set2 {w : World} {g : Nat} {a b c d e : Value} (h : Box w g a b c d e) (u : Value) : Box (w.setCell ⟨g, 2, none⟩ u) g a b u d e := Go.Joins.block_setCell (i := 2) h u
theorem Box.set3 {w : World} {g : Nat} {a b c d e : Value} (h : Box w g a b c d e) (u : Value) : Box (w.setCell ⟨g, 3, none⟩ u) g a b c u e := Go.Joins.block_setCell (i := 3) h u
theorem Box.set4 {w : World} {g : Nat} {a b c d e : Value} (h : Box w g a b c d e) (u : Value) : Box (w.setCell ⟨g, 4, none⟩ u) g a b c d u := Go.Joins.block_setCell (i := 4) h u
theorem Box.far {w : World} {g : Nat} {a b c d e : Value} (h : Box w g a b c d e) {p : Addr} (hne : g ≠ p.block) (u : Value) : Box (w.setCell p u) g a b c d e := (Below.heap_setCell w p u g hne).trans h
theorem New.mono {B B' : Nat} {w w' : World} (hB : B' ≤ B) (hs : w.heap.size ≤ w'.heap.size) : ∀ b, New B w b → New B' w' b := fun b hb => ⟨Nat.le_trans hB hb.1, Nat.lt_of_lt_of_le hb.2 hs⟩

set_option maxHeartbeats 1000000 in
set_option maxRecDepth 100000 in
theorem clone_of_all {n : Nat} (hcl : CloneOK n) : CloneOK (n + 1) := by
  intro S t v w hd hS h
  have HLEN := Lib.hid h.lens
  obtain ⟨A, c, A', c', rfl, k1, k2, k3, k4, k5, k6, k7⟩ := h.shape
  clear h
  cases t with
  | mk k i s l ns =>
  simp only [VT.kind, VT.num, VT.text, VT.items, VT.names] at *
  have HK := Lib.hid (And.intro k1 (And.intro k2 k3))
  have hdl : depthL l ≤ n := by rw [depthT_mk] at hd; omega
  have hb0 : Below w.heap.size w ((w.alloc (.cells #[.int .i64 k, .int .i64 i, .string s, .slice A l.length c, .slice A' ns.length c'] 29)).alloc (.cells #[.int .i64 0, .int .i64 0, .string ⟨#[]⟩, .slice none 0 0, .slice none 0 0] 29)) := (below_box _).alloc (by simp) _
  have hX : Box ((w.alloc (.cells #[.int .i64 k, .int .i64 i, .string s, .slice A l.length c, .slice A' ns.length c'] 29)).alloc (.cells #[.int .i64 0, .int .i64 0, .string ⟨#[]⟩, .slice none 0 0, .slice none 0 0] 29)) w.heap.size (.int .i64 k) (.int .i64 i) (.string s) (.slice A l.length c) (.slice A' ns.length c') := (Box.new _ _ _ _ _).alloc _
  have hY : Box ((w.alloc (.cells #[.int .i64 k, .int .i64 i, .string s, .slice A l.length c, .slice A' ns.length c'] 29)).alloc (.cells #[.int .i64 0, .int .i64 0, .string ⟨#[]⟩, .slice none 0 0, .slice none 0 0] 29)) (w.heap.size + 1) (.int .i64 0) (.int .i64 0) (.string ⟨#[]⟩) (.slice none 0 0) (.slice none 0 0) := by
    have := Box.new (w := (w.alloc (.cells #[.int .i64 k, .int .i64 i, .string s, .slice A l.length c, .slice A' ns.length c'] 29))) (.int .i64 0) (.int .i64 0) (.string ⟨#[]⟩) (.slice none 0 0) (.slice none 0 0)
    simpa using this
  have HA := Lib.hid (all_of_clone hcl S A c l _ hdl (sub_below hS hb0) (k7.keep fun b hb => hb0.block b (hS b hb)) HLEN.out.1)
  have K6 := Lib.hid k6
  have HB0 := Lib.hid hb0
  have HX := Lib.hid hX
  have HY := Lib.hid hY
  clear k1 k2 k3 k4 k5 k6 k7 hb0 hX hY
  go_enter Tryz.func51, Tryz.ntmps51
  go_wp2_with fail
  refine HA.out.mono ?_
  rintro e w1 ⟨A2, c2, rfl, hla, hb1⟩
  have hx := HX.out.call hb1
  have HX1 := Lib.hid hx
  have HY1 := Lib.hid (HY.out.call hb1)
  have HB1 := Lib.hid (toStart HB0.out hb1)
  have HLA := Lib.hid hla
  have x3 := hx.c3
  have x4 := hx.c4
  have xf := hx.free 3
  clear hx hla hb1 HA HX HY
  go_wp2_with fail
  obtain ⟨h, hh⟩ : ∃ h, h = w.heap.size := ⟨_, rfl⟩
  rw [← hh] at HX1 HY1 x3 x4 xf ⊢
  have HH := Lib.hid hh
  clear hh
  obtain ⟨W1, hW1⟩ : ∃ W1 : World, W1 = w1.setCell ⟨h, 3, none⟩ (.slice A2 l.length c2) := ⟨_, rfl⟩
  rw [← hW1]
  have sz1 : W1.heap.size = w1.heap.size := by rw [hW1]; simp [World.setCell]
  have bk1 : ∀ b, b ≠ h → W1.heap[b]? = w1.heap[b]? := fun b hb => by rw [hW1]; exact Below.heap_setCell _ _ _ _ hb
  have BX1 := HX1.out.set3 (.slice A2 l.length c2)
  rw [← hW1] at BX1
  have BY1 := HY1.out.far (p := ⟨h, 3, none⟩) (by simp) (.slice A2 l.length c2)
  rw [← hW1] at BY1
  have bw1 : Below w.heap.size w W1 := by rw [hW1]; exact HB1.out.setCell (by have := HH.out; simp; omega) _
  have hw1s : h + 1 < w1.heap.size := HY1.out.lt
  have hla1 : LVA W1 (New (h + 2) W1) A2 l := by
    have e := HH.out
    refine (LVA.keep (w' := W1) HLA.out (fun b hb => bk1 b (by have := hb.1; simp at this; omega))).imp fun b hb => ⟨by have := hb.1; simp at this; omega, by rw [sz1]; exact hb.2⟩
  have HN := Lib.hid (copyNames_any S A' c' ns W1 (K6.out.keep fun b hb => bw1.block b (hS b hb)) HLEN.out.2)
  have BX1 := Lib.hid BX1
  have BY1 := Lib.hid BY1
  have HBW1 := Lib.hid bw1
  have HLA1 := Lib.hid hla1
  clear hW1 sz1 bk1 bw1 hla1 HX1 HY1 HB1 HLA x3 x4 xf K6 HB0 hw1s
  refine HN.out.mono ?_
  rintro e w2 ⟨A3, c3, rfl, hst, hb2⟩
  have BX2 := Lib.hid (BX1.out.call hb2)
  have BY2 := Lib.hid (BY1.out.call hb2)
  have HBW2 := Lib.hid (toStart HBW1.out hb2)
  have hla2 : LVA w2 (New (h + 2) w2) A2 l := (LVA.keep (w' := w2) HLA1.out (fun b hb => hb2.block b hb.2)).imp (New.mono (Nat.le_refl _) hb2.size)
  have hst2 : StrsAt w2 (New (h + 2) w2) A3 ns := hst.imp (New.mono (by have := BY1.out.lt; omega) (Nat.le_refl _))
  have HLA2 := Lib.hid hla2
  have HST2 := Lib.hid hst2
  have y0 := BX2.out.c0
  have y1 := BX2.out.c1
  have y2 := BX2.out.c2
  have y3 := BX2.out.c3
  have y4 := BX2.out.c4
  have yf := BX2.out.free 4
  have z0 := BY2.out.c0
  have z1 := BY2.out.c1
  have z2 := BY2.out.c2
  have z3 := BY2.out.c3
  have z4 := BY2.out.c4
  have zf0 := BY2.out.free 0
  have zf1 := BY2.out.free 1
  have zf2 := BY2.out.free 2
  have zf3 := BY2.out.free 3
  have zf4 := BY2.out.free 4
  obtain ⟨W2, hW2⟩ : ∃ W2 : World, W2 = w2.setCell ⟨h, 4, none⟩ (.slice A3 ns.length c3) := ⟨_, rfl⟩
  have BX3 := BX2.out.set4 (.slice A3 ns.length c3)
  rw [← hW2] at BX3
  have BY3 := BY2.out.far (p := ⟨h, 4, none⟩) (by simp) (.slice A3 ns.length c3)
  rw [← hW2] at BY3
  have HBW3 : Hid (Below w.heap.size w W2) := Lib.hid (by rw [hW2]; exact HBW2.out.setCell (by have := HH.out; simp; omega) _)
  have sz2 : W2.heap.size = w2.heap.size := by rw [hW2]; simp [World.setCell]
  have bk2 : ∀ b, b ≠ h → W2.heap[b]? = w2.heap[b]? := fun b hb => by rw [hW2]; exact Below.heap_setCell _ _ _ _ hb
  have HLA3 : Hid (LVA W2 (New (h + 2) W2) A2 l) := Lib.hid ((LVA.keep (w' := W2) HLA2.out (fun b hb => bk2 b (by have := hb.1; omega))).imp fun b hb => ⟨hb.1, by rw [sz2]; exact hb.2⟩)
  have HST3 : Hid (StrsAt W2 (New (h + 2) W2) A3 ns) := Lib.hid ((StrsAt.keep (w' := W2) HST2.out (fun b hb => bk2 b (by have := hb.1; omega))).imp fun b hb => ⟨hb.1, by rw [sz2]; exact hb.2⟩)
  have BX3 := Lib.hid BX3
  have BY3 := Lib.hid BY3
  have EW := Lib.hid hW2
  clear hst hb2 hla2 hst2 BX1 BY1 HBW1 HLA1 BX2 BY2 HBW2 HLA2 HST2 hW2 sz2 bk2 HN
  clear hcl hd hdl
  go_wp2_with fail
  rw [← EW.out]
  (try simp only [Exit.inBlock, Exit.then])
  have FIN := ((((BY3.out.set0 (.int .i64 k)).set1 (.int .i64 i)).set2 (.string s)).set3 (.slice A2 l.length c2)).set4 (.slice A3 ns.length c3)
  have hk : ∀ b, New (h + 2) W2 b → (set5 W2 (h + 1) 0 (.int .i64 k) (.int .i64 i) (.string s) (.slice A2 l.length c2) (.slice A3 ns.length c3)).heap[b]? = W2.heap[b]? := fun b hb => set5_block _ _ _ _ _ (by have := hb.1; omega)
  have hn : ∀ b, New (h + 2) W2 b → New w.heap.size (set5 W2 (h + 1) 0 (.int .i64 k) (.int .i64 i) (.string s) (.slice A2 l.length c2) (.slice A3 ns.length c3)) b := fun b hb => ⟨by have := hb.1; have := HH.out; omega, by rw [set5_size]; exact hb.2⟩
  have hla := (LVA.keep HLA3.out hk).imp hn
  have hst := (StrsAt.keep HST3.out hk).imp hn
  have hbw := set5_below (p := 0) (.int .i64 k) (.int .i64 i) (.string s) (.slice A2 l.length c2) (.slice A3 ns.length c3) HBW3.out (G := h + 1) (by have := HH.out; omega)
  refine bodyPost_ret (results_cell_row rfl _ _ (h + 1) 29 _ (0, 0) _ rfl FIN Tryz.underlying29 rfl (by kernel_rfl)) rfl ?_
  exact ⟨_, rfl, LV.mk HK.out.1 HK.out.2.1 HK.out.2.2 HLEN.out.1 HLEN.out.2 hst hla, hbw⟩

theorem clone_ok : ∀ n, CloneOK n
  | 0 => fun S t v w hd _ _ => by cases t; rw [depthT_mk] at hd; omega
  | n + 1 => clone_of_all (clone_ok n)
theorem clone_any (S : Nat → Prop) (t : VT) (v : Value) (w : World) (hS : ∀ b, S b → b < w.heap.size) (h : LV w S t v) :
    Calls Tryz.prog 51 #[v] w fun e w' => ∃ v', e = .returned v' ∧ LV w' (New w.heap.size w') t v' ∧ Below w.heap.size w w' := clone_ok (depthT t) S t v w (Nat.le_refl _) hS h
end Go.Proofs.YtnamdlljdgllmaaGreat

/- A value that came in reads as a tree: of the row's reading. -/
namespace Go.Proofs.YtnamdlljdgllmaaGreat
set_option linter.unusedVariables false
set_option linter.unusedSimpArgs false
set_option maxRecDepth 100000
open Go.ChangeShapes Go.WideShapes Go.RowKit Go.Joins Go.Deep

theorem LVs.intro {w : World} {S : Nat → Prop} {b : Nat} : ∀ {l : List VT} {off : Nat}, (∀ j (h : j < l.length), ∃ c0 c1 c2 c3 c4, w.cell? ⟨b, off + j * 5, none⟩ = some c0 ∧ w.cell? ⟨b, off + j * 5 + 1, none⟩ = some c1 ∧ w.cell? ⟨b, off + j * 5 + 2, none⟩ = some c2 ∧
    w.cell? ⟨b, off + j * 5 + 3, none⟩ = some c3 ∧ w.cell? ⟨b, off + j * 5 + 4, none⟩ = some c4 ∧ LV w S l[j] (.agg #[c0, c1, c2, c3, c4])) → LVs w S b off l
  | [], _, _ => by unfold LVs; trivial
  | t :: r, off, h => by
    unfold LVs
    have h0 := h 0 (by simp)
    simp only [Nat.zero_mul, Nat.add_zero] at h0
    refine ⟨h0, LVs.intro fun j hj => ?_⟩
    have := h (j + 1) (by simpa using hj)
    have e : off + (j + 1) * 5 = off + 5 + j * 5 := by omega
    rw [e] at this
    simpa using this

section
variable {H : Type} {enc : TypeId × Value → H} {W : World} {sp : Nat → Bool}

end
end Go.Proofs.YtnamdlljdgllmaaGreat

/- append, and where the new row lies. -/
namespace Go.Proofs.YtnamdlljdgllmaaGreat
set_option linter.unusedVariables false
set_option linter.unusedSimpArgs false
open Go
variable {P : Program} (w : World)

def WhereRow (w : World) (v v' : Value) : Prop := v'.ownBlock = v.ownBlock ∨ ∃ q, w.heap.size ≤ q ∧ v'.ownBlock = some q

theorem run_append_moved (base : Nat) (t ty e : TypeId) (i : TypeInfo) (z : Value) (size bytes : Nat) (ht : P.underlying t = some (.slice e)) (hi : P.info? e = some i) (hz : i.zero = some z)
    (hsize : i.size = size) (hby : i.bytes = bytes) (hzs : z.cells.size = size) (hsz : 0 < size)
    (v : Value) (n : Nat) (xs : List Value) (hown : w.ownsRow base e size v n xs)
    (a : Addr) (m c : Nat) (news : List Value) (hl : news.length = m * size) (hnews : ∀ j u, news[j]? = some u → w.cell? (a.add j) = some u) (h1 : ∀ u ∈ news, u.oneCell' = true)
    (h63 : n + m ≤ maxLen) (hbytes : (n + m) * bytes ≤ 140737488355328) (hbase : base ≤ w.heap.size) :
    ∃ v' w', (Builtin.append_ #[t, t] ty #[v, .slice (some a) m c]).run P w = .ok v' w' ∧ w'.ownsRow base e size v' (n + m) (xs ++ news) ∧ w.grownBy w' v.ownBlock ∧ WhereRow w v v' := by
  obtain ⟨v', w', hr, h2, h3, h4⟩ := run_append_own (P := P) w base t ty e i z size bytes ht hi hz hsize hby hzs hsz v n xs hown a m c news hl hnews h1 h63 hbytes hbase
  refine ⟨v', w', hr, h2, h3, ?_⟩
  subst hsize
  subst hby
  have hsmall : n + m ≤ 9223372036854775807 := by simp only [maxLen] at h63; omega
  rcases hown.2 with ⟨rfl, rfl⟩ | ⟨g, cap, cur, rfl, hbg, hg, hnc, hcm, hcs, htake⟩
  · by_cases hm : m = 0
    · exact .inl (by rw [h4.2 ⟨rfl, hm⟩])
    · have hr2 := run_append_nil (P := P) w t ty e i z ht hi hz a m c news hl hnews (by omega) (by omega) (by have hb := hbytes; simp only [Nat.zero_add] at hb; omega)
      rw [hr] at hr2
      simp only [Result.ok.injEq] at hr2
      exact .inr ⟨w.heap.size, Nat.le_refl _, by rw [hr2.1]; rfl⟩
  · by_cases hroom : n + m ≤ cap
    · obtain ⟨w2, hr2, -⟩ := run_append_fits (P := P) w base t ty e i i.size ht hi rfl g n cap xs hown a m c news hl hnews h1 hroom
      rw [hr] at hr2
      simp only [Result.ok.injEq] at hr2
      exact .inl (by rw [hr2.1]; rfl)
    · have holds : ∀ j u, xs[j]? = some u → w.cell? ((⟨g, 0, none⟩ : Addr).add j) = some u := hown.cells (g := g) rfl
      have hr2 := run_append_grow (P := P) w t ty e i z ht hi hz ⟨g, 0, none⟩ n cap xs hown.1 holds a m c news hl hnews (by omega) (by omega) (growslice_fits (by omega) hbytes)
      rw [hr] at hr2
      simp only [Result.ok.injEq] at hr2
      exact .inr ⟨w.heap.size, Nat.le_refl _, by rw [hr2.1]; rfl⟩

theorem wp_append_moved {o : Oper} {a : Act} {K : Act → World → Prop} {Q : Exit → Act → World → Prop} (s x : Operand) (t : TypeId)
    (ho : o.op = .call { callee := .builtin .append, args := #[s, x], argTypes := #[t, t] })
    (base : Nat) (e : TypeId) (i : TypeInfo) (z : Value) (size bytes : Nat) (ht : P.underlying t = some (.slice e)) (hi : P.info? e = some i) (hz : i.zero = some z)
    (hsize : i.size = size) (hby : i.bytes = bytes) (hzs : z.cells.size = size) (hsz : 0 < size)
    (v : Value) (n : Nat) (xs : List Value) (hs : a.eval s = v) (hown : w.ownsRow base e size v n xs)
    (ad : Addr) (m c : Nat) (news : List Value) (hx : a.eval x = .slice (some ad) m c) (hl : news.length = m * size) (hnews : ∀ j u, news[j]? = some u → w.cell? (ad.add j) = some u) (h1 : ∀ u ∈ news, u.oneCell' = true)
    (h63 : n + m ≤ maxLen) (hbytes : (n + m) * bytes ≤ 140737488355328) (hbase : base ≤ w.heap.size)
    (h : ∀ v' w', w'.ownsRow base e size v' (n + m) (xs ++ news) → w.grownBy w' v.ownBlock → WhereRow w v v' → K (a.put o.dst v') w') : o.wp P a w K Q := by
  obtain ⟨v', w', hr, h2, h3, h4⟩ := run_append_moved (P := P) w base t o.type e i z size bytes ht hi hz hsize hby hzs hsz v n xs hown ad m c news hl hnews h1 h63 hbytes hbase
  unfold Oper.wp execOp
  simp only [ho, resolve, invoke, builtin, Sem.run_bind, Sem.run_pure, Result.andThen_ok, List.map_toArray, List.map_cons, List.map_nil, hs, hx, hr]
  exact h v' w' h2 h3 h4
end Go.Proofs.YtnamdlljdgllmaaGreat

/- Five cells behind one another: a value that is stored in a variable. -/
namespace Go.Proofs.YtnamdlljdgllmaaGreat
set_option linter.unusedVariables false
set_option linter.unusedSimpArgs false
open Go.RowKit
def five (w : World) (p o : Nat) (c0 c1 c2 c3 c4 : Value) : World := ((((w.setCell ⟨p, o, none⟩ c0).setCell ⟨p, o + 1, none⟩ c1).setCell ⟨p, o + 2, none⟩ c2).setCell ⟨p, o + 3, none⟩ c3).setCell ⟨p, o + 4, none⟩ c4
theorem five_other (w : World) (p o : Nat) (c0 c1 c2 c3 c4 : Value) (b : Nat) (h : b ≠ p) : (five w p o c0 c1 c2 c3 c4).heap[b]? = w.heap[b]? := by
  unfold five
  rw [heap_setCell_other _ ⟨p, _, none⟩ b _ h, heap_setCell_other _ ⟨p, _, none⟩ b _ h, heap_setCell_other _ ⟨p, _, none⟩ b _ h, heap_setCell_other _ ⟨p, _, none⟩ b _ h, heap_setCell_other _ ⟨p, _, none⟩ b _ h]
theorem five_size (w : World) (p o : Nat) (c0 c1 c2 c3 c4 : Value) : (five w p o c0 c1 c2 c3 c4).heap.size = w.heap.size := by simp [five]
theorem five_rest (w : World) (p o : Nat) (c0 c1 c2 c3 c4 : Value) : (five w p o c0 c1 c2 c3 c4).os = w.os ∧ (five w p o c0 c1 c2 c3 c4).tape = w.tape ∧ (five w p o c0 c1 c2 c3 c4).output = w.output := by
  have h : ∀ (w : World) (a : Addr) (u : Value), (w.setCell a u).os = w.os ∧ (w.setCell a u).tape = w.tape ∧ (w.setCell a u).output = w.output := fun _ _ _ => ⟨rfl, rfl, rfl⟩
  unfold five
  refine ⟨?_, ?_, ?_⟩
  · rw [(h _ _ _).1, (h _ _ _).1, (h _ _ _).1, (h _ _ _).1, (h _ _ _).1]
  · rw [(h _ _ _).2.1, (h _ _ _).2.1, (h _ _ _).2.1, (h _ _ _).2.1, (h _ _ _).2.1]
  · rw [(h _ _ _).2.2, (h _ _ _).2.2, (h _ _ _).2.2, (h _ _ _).2.2, (h _ _ _).2.2]
theorem five_box {w : World} {p : Nat} {a0 a1 a2 a3 a4 c0 c1 c2 c3 c4 : Value} (h : Box w p a0 a1 a2 a3 a4) : Box (five w p 0 c0 c1 c2 c3 c4) p c0 c1 c2 c3 c4 := by
  have h1 := (((h.set0 c0).set1 c1).set2 c2).set3 c3
  exact Go.Joins.block_setCell (i := 4) h1 c4
theorem Box.other {w : World} {p : Nat} {a0 a1 a2 a3 a4 : Value} (h : Box w p a0 a1 a2 a3 a4) (D i : Nat) (u : Value) (hne : p ≠ D) : Box (w.setCell ⟨D, i, none⟩ u) p a0 a1 a2 a3 a4 := (heap_setCell_other _ ⟨D, i, none⟩ p _ hne).trans h
theorem box_only {w w' : World} {p g : Nat} {a0 a1 a2 a3 a4 : Value} (h : Box w p a0 a1 a2 a3 a4) (ho : Only w w' g) (hne : p ≠ g) : Box w' p a0 a1 a2 a3 a4 := (ho.block p h.lt (by rintro ⟨⟩; exact hne rfl)).trans h
theorem results_cell_two {fn : Func} {p u : Tmp} (h : fn.results = #[.cell p 29, .tmp u]) (tmps : Array Value) (w : World) (g : Nat) (t : TypeId) (cs : Array Value) (fr : Nat × Nat)
    (hp : tmps.getD p undef = .pointer (some ⟨g, 0, none⟩)) (hg : w.heap[g]? = some (.cells cs t fr)) (hi : (Tryz.prog.info? 29).map (·.size) = some cs.size) :
    (results fn tmps).run Tryz.prog w = .ok (.tuple #[.agg cs, tmps.getD u undef]) w := by
  rw [results_cell_tmp h, hp]
  have e : (asAddr (.pointer (some ⟨g, 0, none⟩))).run Tryz.prog w = .ok ⟨g, 0, none⟩ w := by simp [asAddr]
  rw [e]
  simp only [Result.andThen]
  rw [run_loadVar_row w g t 29 cs fr _ hg Tryz.underlying29 rfl hi]
end Go.Proofs.YtnamdlljdgllmaaGreat

/- The decoder's parts: what is read, and the variable that a value is read into. -/
namespace Go.Proofs.YtnamdlljdgllmaaGreat
set_option linter.unusedVariables false
set_option linter.unusedSimpArgs false
set_option maxRecDepth 100000
open Go.RowKit

def Dec (w : World) (D g : Nat) (least lv : Int) : Prop := w.heap[D]? = some (.cells #[.pointer (some ⟨g, 0, none⟩), .int .i64 least, .int .i64 lv] 141 (0, 0))
def PB (w : World) (bb D : Nat) : Prop := w.heap[bb]? = some (.cells #[.pointer (some ⟨D, 0, none⟩)] 156 (0, 0))
theorem Dec.lt {w : World} {D g : Nat} {least lv : Int} (h : Dec w D g least lv) : D < w.heap.size := (Array.getElem?_eq_some_iff.1 h).1
theorem PB.lt {w : World} {bb D : Nat} (h : PB w bb D) : bb < w.heap.size := (Array.getElem?_eq_some_iff.1 h).1
structure Far (B g : Nat) (w w' : World) : Prop where
  os : w'.os = w.os
  tape : w'.tape = w.tape
  output : w'.output = w.output
  size : w.heap.size ≤ w'.heap.size
  block : ∀ k, k < B → k ≠ g → w'.heap[k]? = w.heap[k]?
theorem Far.trans {B g : Nat} {a b c : World} (h : Far B g a b) (k : Far B g b c) : Far B g a c :=
  ⟨k.os.trans h.os, k.tape.trans h.tape, k.output.trans h.output, Nat.le_trans h.size k.size, fun i hi hg => (k.block i hi hg).trans (h.block i hi hg)⟩
theorem Far.ofOnly {B g : Nat} {w w' : World} (h : Only w w' g) (hB : B ≤ w.heap.size) : Far B g w w' := ⟨h.os, h.tape, h.output, h.size, fun k hk hg => h.block k (by omega) (by rintro ⟨⟩; exact hg rfl)⟩
theorem Far.drew {B g : Nat} {a w : World} (h : Far B g a w) : Far B g a w.drew := ⟨h.os, h.tape, h.output, h.size, h.block⟩

def Rel (d : Nat) (least : Int) (st : Option (List UInt8)) (t : VT) : Option (List UInt8) → Prop
  | some r' => ∃ l, st = some l ∧ rdW d l = some (t, r')
  | none => ∀ l u r, st = some l → rdW d l = some (u, r) → mayT u = false ∨ (r.length : Int) < least

def NewB (B : Nat) (w : World) : Nat → Prop := fun b => B ≤ b ∧ b < w.heap.size
def RowV (w : World) (B : Nat) (S : Nat → Prop) (v : Value) (ts : List VT) : Prop :=
  ∃ xs, w.ownsRow B 29 5 v ts.length xs ∧ ∀ j (h : j < ts.length), ∃ c0 c1 c2 c3 c4, (xs.drop (j * 5)).take 5 = [c0, c1, c2, c3, c4] ∧ LV w S ts[j] (.agg #[c0, c1, c2, c3, c4])
theorem ownsRow_keep {w w' : World} {B sz n : Nat} {e : TypeId} {v : Value} {xs : List Value} (h : w.ownsRow B e sz v n xs) (hk : ∀ g, v.ownBlock = some g → w'.heap[g]? = w.heap[g]?) : w'.ownsRow B e sz v n xs := by
  refine ⟨h.1, ?_⟩
  rcases h.2 with h0 | ⟨g, cap, cur, h1, h2, h3, h4⟩
  · exact .inl h0
  · exact .inr ⟨g, cap, cur, h1, h2, (hk g (by rw [h1]; rfl)).trans h3, h4⟩
theorem RowV.keep {w w' : World} {B : Nat} {S : Nat → Prop} {v : Value} {ts : List VT} (h : RowV w B S v ts) (hv : ∀ g, v.ownBlock = some g → w'.heap[g]? = w.heap[g]?) (hS : ∀ b, S b → w'.heap[b]? = w.heap[b]?) : RowV w' B S v ts := by
  obtain ⟨xs, h1, h2⟩ := h
  refine ⟨xs, ownsRow_keep h1 hv, fun j hj => ?_⟩
  obtain ⟨c0, c1, c2, c3, c4, e, hx⟩ := h2 j hj
  exact ⟨c0, c1, c2, c3, c4, e, hx.keep hS⟩
theorem RowV.more {w w' : World} {B : Nat} {S S' : Nat → Prop} {v v' : Value} {ts : List VT} {t : VT} {xs : List Value} {c0 c1 c2 c3 c4 : Value} (h1 : w.ownsRow B 29 5 v ts.length xs)
    (h2 : ∀ j (h : j < ts.length), ∃ c0 c1 c2 c3 c4, (xs.drop (j * 5)).take 5 = [c0, c1, c2, c3, c4] ∧ LV w S ts[j] (.agg #[c0, c1, c2, c3, c4]))
    (hk : ∀ b, S b → w'.heap[b]? = w.heap[b]?) (hS : ∀ b, S b → S' b) (ho : w'.ownsRow B 29 5 v' (ts.length + 1) (xs ++ [c0, c1, c2, c3, c4])) (ht : LV w' S' t (.agg #[c0, c1, c2, c3, c4])) : RowV w' B S' v' (ts ++ [t]) := by
  have hx : xs.length = ts.length * 5 := h1.1
  refine ⟨xs ++ [c0, c1, c2, c3, c4], by rw [List.length_append]; exact ho, fun j hj => ?_⟩
  by_cases hjl : j < ts.length
  · obtain ⟨d0, d1, d2, d3, d4, e, hx'⟩ := h2 j hjl
    refine ⟨d0, d1, d2, d3, d4, ?_, ?_⟩
    · rw [List.drop_append_of_le_length (by omega), List.take_append_of_le_length (by rw [List.length_drop]; omega)]
      exact e
    · rw [List.getElem_append_left hjl]
      exact (hx'.keep hk).imp hS
  · obtain rfl : j = ts.length := by simp at hj; omega
    refine ⟨c0, c1, c2, c3, c4, ?_, ?_⟩
    · rw [← hx, List.drop_left]; rfl
    · rw [List.getElem_append_right (Nat.le_refl _)]
      simpa using ht
theorem set_five (xs : List Value) (z0 z1 z2 z3 z4 c0 c1 c2 c3 c4 : Value) (n : Nat) (hn : n = xs.length) :
    (((((xs ++ [z0, z1, z2, z3, z4]).set n c0).set (n + 1) c1).set (n + 2) c2).set (n + 3) c3).set (n + 4) c4 = xs ++ [c0, c1, c2, c3, c4] := by
  subst hn
  rw [List.set_append_right _ _ (by omega), List.set_append_right _ _ (by omega), List.set_append_right _ _ (by omega), List.set_append_right _ _ (by omega), List.set_append_right _ _ (by omega)]
  simp
theorem store_five {w : World} {B q cap n : Nat} {xs : List Value} {z0 z1 z2 z3 z4 : Value} (c0 c1 c2 c3 c4 : Value) (h : w.ownsRow B 29 5 (.slice (some ⟨q, 0, none⟩) (n + 1) cap) (n + 1) (xs ++ [z0, z1, z2, z3, z4])) (hx : xs.length = n * 5) :
    (((((w.setCell ⟨q, n * 5, none⟩ c0).setCell ⟨q, n * 5 + 1, none⟩ c1).setCell ⟨q, n * 5 + 2, none⟩ c2).setCell ⟨q, n * 5 + 3, none⟩ c3).setCell ⟨q, n * 5 + 4, none⟩ c4).ownsRow B 29 5 (.slice (some ⟨q, 0, none⟩) (n + 1) cap) (n + 1) (xs ++ [c0, c1, c2, c3, c4]) := by
  have h0 := (World.ownsRow.stored h (n * 5) c0).1
  have h1 := (World.ownsRow.stored h0 (n * 5 + 1) c1).1
  have h2 := (World.ownsRow.stored h1 (n * 5 + 2) c2).1
  have h3 := (World.ownsRow.stored h2 (n * 5 + 3) c3).1
  have h4 := (World.ownsRow.stored h3 (n * 5 + 4) c4).1
  rw [set_five _ _ _ _ _ _ _ _ _ _ _ _ hx.symm] at h4
  exact h4

structure PV (w : World) (B vb : Nat) (k : Int) (ts : List VT) (ns : List ByteArray) (VI VN : Value) (S : Nat → Prop) : Prop where
  box : Box w vb (.int .i64 k) (.int .i64 0) (.string eS) VI VN
  items : RowV w B S VI ts
  names : w.ownsRow B 9 1 VN ns.length (ns.map Value.string)
  small : ∀ s ∈ ns, s.size ≤ 140737488351232
  new : ∀ b, S b → B ≤ b ∧ b < w.heap.size ∧ some b ≠ VI.ownBlock ∧ some b ≠ VN.ownBlock
  vb : vb < B

def ValR (d g : Nat) (least : Int) (st : Option (List UInt8)) (w : World) (e : Ending) (w' : World) : Prop :=
  ∃ v t st', e = .returned v ∧ SrcL w' g st' ∧ Only w w' g ∧ LV w' (NewB w.heap.size w') t v ∧ Rel d least st t st'
def ValOK (d : Nat) : Prop := ∀ (D g : Nat) (least : Int) (st : Option (List UInt8)) (w : World), Dec w D g least (8 - (d : Int)) → SrcL w g st → D ≠ g →
  Calls Tryz.prog 145 #[.pointer (some ⟨D, 0, none⟩)] w (ValR d g least st w)

def KeepR (vb bb : Nat) (w w' : World) : Prop := w'.heap[vb]? = w.heap[vb]? ∧ w'.heap[bb]? = w.heap[bb]?
theorem KeepR.refl (vb bb : Nat) (w : World) : KeepR vb bb w w := ⟨rfl, rfl⟩
theorem KeepR.trans {vb bb : Nat} {a b c : World} (h : KeepR vb bb a b) (k : KeepR vb bb b c) : KeepR vb bb a c := ⟨k.1.trans h.1, k.2.trans h.2⟩
instance (vb bb : Nat) (w : World) : Inhabited (LaterR (KeepR vb bb) w) := ⟨⟨w, KeepR.refl vb bb w⟩⟩
theorem keep_cells {vb bb : Nat} {w : World} : (∀ p : LaterR (KeepR vb bb) w, ∀ o, p.u.cell? ⟨vb, o, none⟩ = w.cell? ⟨vb, o, none⟩) ∧ (∀ p : LaterR (KeepR vb bb) w, ∀ o, p.u.cell? ⟨bb, o, none⟩ = w.cell? ⟨bb, o, none⟩) :=
  ⟨fun p o => World.cell?_of_block (a := ⟨vb, o, none⟩) p.h.1, fun p o => World.cell?_of_block (a := ⟨bb, o, none⟩) p.h.2⟩

def ItemR (d g vb B : Nat) (k : Int) (least : Int) (st : Option (List UInt8)) (ts : List VT) (ns : List ByteArray) (w : World) (e : Ending) (w' : World) : Prop :=
  ∃ t st' VI VN S, e = .returned (.tuple #[]) ∧ PV w' B vb k (ts ++ [t]) ns VI VN S ∧ SrcL w' g st' ∧ Far vb g w w' ∧ Rel d least st t st'
theorem item_end {d g vb B : Nat} {k least : Int} {st st' : Option (List UInt8)} {ts : List VT} {ns : List ByteArray} {VI VN : Value} {S : Nat → Prop} {w w4 : World} {xs : List Value} {p cap : Nat} {t : VT} {c0 c1 c2 c3 c4 : Value}
    (hpv : PV w B vb k ts ns VI VN S) (hown : w.ownsRow B 29 5 VI ts.length xs)
    (hitems : ∀ j (h : j < ts.length), ∃ c0 c1 c2 c3 c4, (xs.drop (j * 5)).take 5 = [c0, c1, c2, c3, c4] ∧ LV w S ts[j] (.agg #[c0, c1, c2, c3, c4]))
    (hg : g < vb) (ho : w4.os = w.os) (htp : w4.tape = w.tape) (hot : w4.output = w.output) (hsz : w.heap.size ≤ w4.heap.size)
    (hold : ∀ b, b < w.heap.size → b ≠ g → b ≠ vb → some b ≠ VI.ownBlock → w4.heap[b]? = w.heap[b]?)
    (hp : VI.ownBlock = some p ∨ w.heap.size ≤ p)
    (hown4 : w4.ownsRow B 29 5 (.slice (some ⟨p, 0, none⟩) (ts.length + 1) cap) (ts.length + 1) (xs ++ [c0, c1, c2, c3, c4]))
    (hbox : Box w4 vb (.int .i64 k) (.int .i64 0) (.string eS) (.slice (some ⟨p, 0, none⟩) (ts.length + 1) cap) VN)
    (ht : LV w4 (fun b => w.heap.size ≤ b ∧ b < w4.heap.size ∧ b ≠ p) t (.agg #[c0, c1, c2, c3, c4])) (hs : SrcL w4 g st') (hrel : Rel d least st t st') (hB : B ≤ w.heap.size) :
    ItemR d g vb B k least st ts ns w (.returned (.tuple #[])) w4 := by
  have hvb := hpv.vb
  have hVI : ∀ q, VI.ownBlock = some q → B ≤ q ∧ q < w.heap.size := fun q hq => World.ownsRow.lt hown q hq
  have hVN : ∀ q, VN.ownBlock = some q → B ≤ q ∧ q < w.heap.size := fun q hq => World.ownsRow.lt hpv.names q hq
  have hap : ∀ q, VN.ownBlock = some q → VI.ownBlock ≠ some q := by
    intro q hq hq'
    rcases hown.2 with ⟨rfl, -⟩ | ⟨g1, cap1, cur1, rfl, -, h1, -⟩
    · simp [Value.ownBlock] at hq'
    · rcases hpv.names.2 with ⟨rfl, -⟩ | ⟨g2, cap2, cur2, rfl, -, h2, -⟩
      · simp [Value.ownBlock] at hq
      · simp only [Value.ownBlock, Option.some.injEq] at hq hq'
        subst hq hq'
        rw [h1] at h2
        simp at h2
  have hSk : ∀ b, S b → w4.heap[b]? = w.heap[b]? := fun b hb => by
    obtain ⟨h1, h2, h3, h4⟩ := hpv.new b hb
    exact hold b h2 (by omega) (by omega) h3
  refine ⟨t, st', .slice (some ⟨p, 0, none⟩) (ts.length + 1) cap, VN, fun b => S b ∨ (w.heap.size ≤ b ∧ b < w4.heap.size ∧ b ≠ p), rfl, ⟨hbox, ?_, ?_, hpv.small, ?_, hvb⟩, hs, ⟨ho, htp, hot, hsz, fun b hb hbg => ?_⟩, hrel⟩
  · exact RowV.more hown hitems hSk (fun _ h => .inl h) hown4 (ht.imp fun _ h => .inr h)
  · refine ownsRow_keep hpv.names fun q hq => ?_
    have := hVN q hq
    exact hold q this.2 (by omega) (by omega) (fun e => hap q hq e.symm)
  · rintro b (hb | ⟨h1, h2, h3⟩)
    · obtain ⟨h1, h2, h3, h4⟩ := hpv.new b hb
      refine ⟨h1, by omega, fun e => ?_, h4⟩
      obtain rfl : b = p := by simpa [Value.ownBlock] using e
      rcases hp with hp | hp
      · exact h3 hp.symm
      · omega
    · refine ⟨by omega, h2, fun e => h3 (by cases e; rfl), fun e => ?_⟩
      have := hVN b e.symm
      omega
  · refine hold b (by omega) hbg (by omega) fun e => ?_
    have := hVI b e.symm
    omega
end Go.Proofs.YtnamdlljdgllmaaGreat
