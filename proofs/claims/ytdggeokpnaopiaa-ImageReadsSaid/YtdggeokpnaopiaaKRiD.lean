/- The document's own images: a note. -/
import Derived.Test.YtdggeokpnaopiaaKRiC
namespace Go.Proofs.Ytdggeokpnaopiaa
set_option linter.unusedVariables false
set_option linter.unusedSimpArgs false
open Go.RowKit
set_option maxRecDepth 100000
def RefI.note (r : RefI) (o : Option VT) : RefI := { r with l := r.l ++ [o] }
abbrev BelowR (B : Nat) : World → World → Prop := fun a b => Below B a b
instance belowR_inh (B : Nat) (w : World) : Inhabited (LaterR (BelowR B) w) := ⟨⟨w, Below.refl B w⟩⟩
theorem cell_br {B : Nat} {w : World} {a : Addr} {v : Value} (h : w.cell? a = some v) (hB : a.block < B) : ∀ p : LaterR (BelowR B) w, p.u.cell? a = some v := fun p => (p.h.cell hB).trans h
def RNoteR (w : World) (S : Nat → Prop) (x : Nat) (r : RefI) (e : Ending) (w' : World) : Prop := e = .returned (.int .i64 0) ∧ RIAt w' S w.heap.size x r ∧ Only w w' x
theorem own_news {w u : World} {B : Nat} {A : Option Addr} {n c : Nat} {xs : List Value} (h : w.ownsRow B 71 6 (.slice A n c) n xs) (hb : Below w.heap.size w u) :
    (A = none → n = 0 ∧ c = 0 ∧ xs = []) ∧ ∀ ad, A = some ad → ∀ j v, xs[j]? = some v → u.cell? (ad.add j) = some v := by
  rcases h.2 with ⟨h1, h2⟩ | ⟨g, cap, cur, h1, hB, hh, hr⟩
  · injection h1 with e1 e2 e3
    subst e1 e3
    exact ⟨fun _ => ⟨h2, rfl, List.eq_nil_of_length_eq_zero (by rw [h.1, h2])⟩, fun ad e => by cases e⟩
  · injection h1 with e1 e2 e3
    subst e1 e3
    refine ⟨fun e => (by cases e), fun ad e j v hj => ?_⟩
    injection e with e
    subst e
    have h3 := h.cells (g := g) rfl j v hj
    rw [add_at] at h3 ⊢
    exact (hb.cell (p := ⟨g, 0 + j, none⟩) (Array.getElem?_eq_some_iff.1 hh).1).trans h3
theorem below_da (w : World) (o : Obj) : Below w.heap.size w.drew (w.alloc o).drew := ⟨rfl, rfl, rfl, by show w.heap.size ≤ (w.alloc o).heap.size; simp, fun b hb => Below.heap_alloc w o b hb⟩
theorem own_shape {w : World} {B n : Nat} {v : Value} {xs : List Value} (h : w.ownsRow B 71 6 v n xs) (hn : 0 < n) : ∃ p cap, v = .slice (some ⟨p, 0, none⟩) n cap ∧ B ≤ p ∧ p < w.heap.size := by
  rcases h.2 with ⟨-, h0⟩ | ⟨g, cap, cur, h1, h2, h3, -⟩
  · omega
  · exact ⟨g, cap, h1, h2, (Array.getElem?_eq_some_iff.1 h3).1⟩
/-- A row that is laid empty. -/
theorem own_empty (w : World) (B : Nat) (hB : B ≤ w.heap.size) : (w.alloc (.cells #[] 71)).ownsRow B 71 6 (.slice (some ⟨w.heap.size, 0, none⟩) 0 0) 0 [] :=
  ⟨rfl, .inr ⟨_, 0, #[], rfl, hB, heap_alloc_new w _, Nat.le_refl _, by decide, rfl, rfl⟩⟩
theorem below_grow {B : Nat} {a b c : World} {v : Value} {n : Nat} {xs : List Value} (h : Below B a b) (hown : b.ownsRow B 71 6 v n xs) (hB : B ≤ b.heap.size) (hg : b.grownBy c v.ownBlock) : Below B a c := h.grown hg hB (fun k hk => (World.ownsRow.lt hown k hk).1)
theorem row_other {b c : World} {v : Value} {q : Nat} {o : Obj} (hq : b.heap[q]? = some o) (hne : ∀ k, v.ownBlock = some k → k ≠ q) (hg : b.grownBy c v.ownBlock) : c.heap[q]? = some o :=
  (hg.block q (Array.getElem?_eq_some_iff.1 hq).1 (fun e => hne q e.symm rfl)).trans hq
theorem rnote_end {w w1 W : World} {S S2 : Nat → Prop} {x p cap n c : Nat} {A : Option Addr} {xs cs : List Value} {o : Option VT} {r : RefI} (hb1 : Below w.heap.size w w1) (hx : w1.heap[x]? = some (.cells #[.int .i64 r.keep, .int .i64 r.base, .slice A n c] 32 (0, 0)))
    (hxw : x < w.heap.size) (hn : n = r.l.length) (hb : Below w1.heap.size w1 W) (hown : W.ownsRow w1.heap.size 71 6 (.slice (some ⟨p, 0, none⟩) (n + 1) cap) (n + 1) (xs ++ cs)) (hones : OnesL w1 S r.l xs) (hone : OneL w1 S2 o cs)
    (hS : ∀ b, S b → b < w1.heap.size) (hxS : ¬ S x) (hS2 : ∀ b, S2 b → b < w1.heap.size) (hxS2 : ¬ S2 x) :
    RNoteR w (fun b => S b ∨ S2 b) x (r.note o) (.returned (.int .i64 0)) (W.setCell ⟨x, 2, none⟩ (.slice (some ⟨p, 0, none⟩) (n + 1) cap)) := by
  subst hn
  have hxl : x < w1.heap.size := (Array.getElem?_eq_some_iff.1 hx).1
  have hxW : W.heap[x]? = _ := (hb.block x hxl).trans hx
  have hpx : x ≠ p := by
    rcases hown.2 with ⟨h, -⟩ | ⟨g, _, _, h, hB, -⟩
    · cases h
    · injection h with h; injection h with h; injection h with h; omega
  have hlen : (r.note o).l.length = r.l.length + 1 := by show (r.l ++ [o]).length = _; simp
  have hkS : ∀ b, S b → (W.setCell ⟨x, 2, none⟩ (.slice (some ⟨p, 0, none⟩) (r.l.length + 1) cap)).heap[b]? = w1.heap[b]? := fun b hb' => (heap_setCell_other _ ⟨x, 2, none⟩ b _ (by rintro rfl; exact hxS hb')).trans (hb.block b (hS b hb'))
  have hkS2 : ∀ b, S2 b → (W.setCell ⟨x, 2, none⟩ (.slice (some ⟨p, 0, none⟩) (r.l.length + 1) cap)).heap[b]? = w1.heap[b]? := fun b hb' => (heap_setCell_other _ ⟨x, 2, none⟩ b _ (by rintro rfl; exact hxS2 hb')).trans (hb.block b (hS2 b hb'))
  refine ⟨rfl, ⟨some ⟨p, 0, none⟩, cap, xs ++ cs, ?_, ?_, ?_⟩, ?_⟩
  · rw [hlen]; exact Go.Joins.block_setCell (i := 2) hxW _
  · rw [hlen]
    refine ⟨hown.1, hown.2.imp id ?_⟩
    rintro ⟨g, cap', cur, h1, h2, h3, h4⟩
    refine ⟨g, cap', cur, h1, Nat.le_trans hb1.size h2, ?_, h4⟩
    rw [heap_setCell_other _ ⟨x, 2, none⟩ g _ (by show g ≠ x; omega)]
    exact h3
  · exact OnesL.push ((hone.keep hkS2).imp fun b h => .inr h) ((OnesL.keep hkS hones).imp fun b h => .inl h)
  · refine ⟨hb.os.trans hb1.os, hb.tape.trans hb1.tape, hb.output.trans hb1.output, by simp; exact Nat.le_trans hb1.size hb.size, fun i hi hne => ?_⟩
    rw [heap_setCell_other _ ⟨x, 2, none⟩ i _ (by rintro rfl; exact hne rfl)]
    exact (hb.block i (by have := hb1.size; omega)).trans (hb1.block i hi)
section
variable {w : World} {S S' : Nat → Prop} {B x : Nat} {r : RefI} {t : VT} {v : Value}
set_option maxHeartbeats 8000000 in
theorem rnote_refused (hS : ∀ b, S' b → b < w.heap.size) (hv : LV w S' t v) (hd : depthT t ≤ 1000) (hc : checkT t ≠ 0) :
    Calls Try.prog 14 #[.pointer (some ⟨x, 0, none⟩), v, .bool true] w fun e w' => e = .returned (.int .i64 20) ∧ Below w.heap.size w w' := by
  obtain ⟨A0, c0, A0', c0', rfl, -, -, -, v1, hb0⟩ := one_var hS hv
  have HC := Lib.hid (rcheck_any S' t _ _ hd v1.s v1.v)
  have q0 := v1.x.c0
  have q1 := v1.x.c1
  have q2 := v1.x.c2
  have q3 := v1.x.c3
  have q4 := v1.x.c4
  have HB0 := Lib.hid hb0
  obtain ⟨y, hy⟩ : ∃ y, y = checkT t := ⟨_, rfl⟩
  rw [← hy] at HC hc
  have h2 : (y != 0) = true := by simp [hc]
  have h3 : (y == 0) = false := beq_false_of_ne hc
  clear hv hS hb0 v1 hd hy
  go_enter Try.func14, Try.ntmps14
  go_wp2_with fail
  refine HC.out.mono ?_
  rintro e w1 ⟨rfl, hb⟩
  have HB1 := Lib.hid (HB0.out.trans (hb.mono HB0.out.size))
  clear hb HB0 HC q0 q1 q2 q3 q4
  go_wp2_with fail
  go_ret
  exact ⟨rfl, HB1.out⟩
set_option maxHeartbeats 16000000 in
theorem rnote_some (h : RIAt w S B x r) (hS : ∀ b, S b → b < w.heap.size) (hxS : ¬ S x) (hS' : ∀ b, S' b → b < w.heap.size) (hxS' : ¬ S' x) (hv : LV w S' t v) (hd : depthT t ≤ 1000) (hc : checkT t = 0) (hn : r.l.length ≤ 1000000) :
    Calls Try.prog 14 #[.pointer (some ⟨x, 0, none⟩), v, .bool true] w (RNoteR w (fun b => S b ∨ S' b) x (r.note (some t))) := by
  obtain ⟨A0, c0, A0', c0', rfl, -, -, -, v1, hb0⟩ := one_var hS' hv
  have HC := Lib.hid (rcheck_any S' t _ _ hd v1.s v1.v)
  rw [hc] at HC
  have q0 := v1.x.c0
  have q1 := v1.x.c1
  have q2 := v1.x.c2
  have q3 := v1.x.c3
  have q4 := v1.x.c4
  have HB0 := Lib.hid hb0
  have HV0 := Lib.hid v1
  have HR := Lib.hid h
  have HS := Lib.hid hS
  have HXS := Lib.hid hxS
  have HXS' := Lib.hid hxS'
  have HS' := Lib.hid hS'
  clear hv h hS hxS hxS' hS' hb0 v1 hd hc
  go_enter Try.func14, Try.ntmps14
  go_wp2_with fail
  refine HC.out.mono ?_
  rintro e w1 ⟨rfl, hb⟩
  have hv1 := HV0.out.call hb
  have HB1 := Lib.hid (HB0.out.trans (hb.mono HB0.out.size))
  have hr1 := HR.out.below HS.out HB1.out
  obtain ⟨A, c, xs, hx, hown, hones⟩ := hr1
  have hxl : x < w1.heap.size := (Array.getElem?_eq_some_iff.1 hx).1
  have hpl : w.heap.size < w1.heap.size := hv1.x.lt
  have hn1 := hn
  obtain ⟨n, hnn⟩ : ∃ n, n = r.l.length := ⟨_, rfl⟩
  rw [← hnn] at hx hown hn1
  have z2 := cell_br (B := w1.heap.size) (w := w1.drew) (a := ⟨x, 2, none⟩) (Go.Joins.cell_of_block hx 2) hxl
  have p0 := cell_br (B := w1.heap.size) (w := w1.drew) (a := ⟨w.heap.size, 0, none⟩) hv1.x.c0 hpl
  have p1 := cell_br (B := w1.heap.size) (w := w1.drew) (a := ⟨w.heap.size, 1, none⟩) hv1.x.c1 hpl
  have p2 := cell_br (B := w1.heap.size) (w := w1.drew) (a := ⟨w.heap.size, 2, none⟩) hv1.x.c2 hpl
  have p3 := cell_br (B := w1.heap.size) (w := w1.drew) (a := ⟨w.heap.size, 3, none⟩) hv1.x.c3 hpl
  have p4 := cell_br (B := w1.heap.size) (w := w1.drew) (a := ⟨w.heap.size, 4, none⟩) hv1.x.c4 hpl
  have HX := Lib.hid hx
  have HOWN := Lib.hid hown
  have HONES := Lib.hid hones
  have HV1 := Lib.hid hv1
  have HNN := Lib.hid hnn
  have HXL := Lib.hid hxl
  have HPL := Lib.hid hpl
  have HXW := Lib.hid HR.out.lt
  have HONE : Hid (OneL w1 S' (some t) [.bool true, .int .i64 t.kind, .int .i64 t.num, .string t.text, .slice A0 t.items.length c0, .slice A0' t.names.length c0']) := Lib.hid ⟨_, _, _, _, _, rfl, HV1.out.v⟩
  have HS2 : Hid (∀ b, S' b → b < w1.heap.size) := Lib.hid HV1.out.s
  have HXS2 := HXS'
  clear hb HC q0 q1 q2 q3 q4 HV0 HB0 HR hx hown hones hv1 hnn hxl hpl
  go_wp2_with fail
  refine wp_region_OTB (BelowR w1.heap.size) (fun w => Below.refl _ w) (fun _ _ _ h k => h.trans k) [14] (.pure [0, 2, 3, 4, 5, 7, 8, 9] (.fork 1 (.fork 6 (.step 10 (.step 11 (.free [12, 13] (.tail [14])))) 10 (.step 6 (.step 11 (.free [12, 13] (.tail [14]))))) 10 (.step 1 (.step 6 (.step 11 (.free [12, 13] (.tail [14]))))))) (by kernel_rfl) (by kernel_rfl) (fun _ d _ _ _ h => by cases d <;> exact h) ?_
  refine ot_pure ?_
  simp only [atNats, List.filterMap_cons, List.filterMap_nil, List.getElem?_toArray, List.getElem?_cons_succ, List.getElem?_cons_zero]
  show wpQuiet _ _ _ _ [_, _, _, _, _, _, _, _] _
  repeat (go_big_quiet_step (fail))
  refine wpQuiet_nil ?_
  clear p0 p1 p2 p3 p4 z2
  refine ot_fork rfl rfl (fun K hK => ?_) (fun K hK => ?_)
  · skip
    go_simp
    refine hK _ _ (.inr (below_da _ _)) ?_
    clear hK K
    have hb5 : Below w1.heap.size w1 (w1.alloc (.cells #[] 71)).drew := ((Below.refl _ _).alloc (Nat.le_refl _) _).drew
    have HB5 := Lib.hid hb5
    have HO5 : Hid ((w1.alloc (.cells #[] 71)).drew.ownsRow w1.heap.size 71 6 (.slice (some ⟨w1.heap.size, 0, none⟩) 0 0) 0 []) := Lib.hid (own_empty w1 _ (Nat.le_refl _))
    have hq5 : (w1.alloc (.cells #[] 71)).drew.heap.size = w1.heap.size + 1 := by simp
    generalize (w1.alloc (.cells #[] 71)).drew = w5 at *
    have HSZ5 := Lib.hid hq5
    clear hb5 hq5
    refine ot_fork rfl rfl (fun K hK => ?_) (fun K hK => ?_)
    · skip
      rw [if_pos (wanted_none rfl)]
      refine wp_append_ones _ _ rfl w1.heap.size (.slice (some ⟨w1.heap.size, 0, none⟩) 0 0) 0 [] rfl HO5.out A n c xs rfl (own_news HOWN.out HB5.out).1 (by have := HONES.out.len; rw [← HNN.out] at this; exact this) (own_news HOWN.out HB5.out).2 (OnesL.one HONES.out) (by omega) HB5.out.size fun v6 w6 ho6 hg6 hw6 => ?_
      have hb6 := below_grow HB5.out HO5.out HB5.out.size hg6
      refine hK _ _ (.inr ((Below.refl _ _).grown hg6 HB5.out.size (fun k hk => (World.ownsRow.lt HO5.out k hk).1))) ?_
      clear hK K
      simp only [List.getElem_toArray, List.getElem_cons_succ, List.getElem_cons_zero, Act.put, List.setIfInBounds_toArray, List.set_cons_succ, List.set_cons_zero]
      have HB6 := Lib.hid hb6
      have HO6 := Lib.hid ho6
      clear hb6 ho6 hg6 hw6
      refine ot_step rfl (fun K hK => ?_)
      go_simp
      refine hK _ _ (.inr ((Below.refl _ _).alloc HB6.out.size _)) ?_
      clear hK K
      have HB8 : Hid (Below w1.heap.size w1 (w6.alloc (.cells #[.bool true, .int .i64 t.kind, .int .i64 t.num, .string t.text, .slice A0 t.items.length c0, .slice A0' t.names.length c0'] 71))) := Lib.hid (HB6.out.alloc HB6.out.size _)
      have HO8 : Hid ((w6.alloc (.cells #[.bool true, .int .i64 t.kind, .int .i64 t.num, .string t.text, .slice A0 t.items.length c0, .slice A0' t.names.length c0'] 71)).ownsRow w1.heap.size 71 6 v6 (0 + n) ([] ++ xs)) := Lib.hid (ownsRow_belowR HO6.out ((Below.refl _ _).alloc (Nat.le_refl _) _))
      have HQ8 : Hid ((w6.alloc (.cells #[.bool true, .int .i64 t.kind, .int .i64 t.num, .string t.text, .slice A0 t.items.length c0, .slice A0' t.names.length c0'] 71)).heap[w6.heap.size]? = some (.cells #[.bool true, .int .i64 t.kind, .int .i64 t.num, .string t.text, .slice A0 t.items.length c0, .slice A0' t.names.length c0'] 71 (0, 0))) := Lib.hid (heap_alloc_new w6 _)
      refine ot_act rfl rfl (fun K hK => ?_)
      refine wp_append_ones _ _ rfl w1.heap.size v6 (0 + n) ([] ++ xs) rfl HO8.out (some ⟨w6.heap.size, 0, none⟩) 1 1 [.bool true, .int .i64 t.kind, .int .i64 t.num, .string t.text, .slice A0 t.items.length c0, .slice A0' t.names.length c0'] rfl (fun h => by cases h) rfl (fun ad e j u hj => by injection e with e; subst e; rw [add_at, Nat.zero_add]; exact (Go.Joins.cell_of_block HQ8.out j).trans (by simpa using hj)) (OneL.one HONE.out) (by omega) HB8.out.size fun v9 w9 ho9 hg9 _ => ?_
      have hb9 := below_grow HB8.out HO8.out HB8.out.size hg9
      refine hK _ _ (.inr ((Below.refl _ _).grown hg9 HB8.out.size (fun k hk => (World.ownsRow.lt HO8.out k hk).1))) ?_
      clear hK K
      simp only [List.getElem_toArray, List.getElem_cons_succ, List.getElem_cons_zero, Act.put, List.setIfInBounds_toArray, List.set_cons_succ, List.set_cons_zero]
      obtain ⟨p9, cap9, rfl, hp9, hpl9⟩ := own_shape ho9 (by omega)
      have HB9 := Lib.hid hb9
      have HO9 : Hid (w9.ownsRow w1.heap.size 71 6 (.slice (some ⟨p9, 0, none⟩) (n + 1) cap9) (n + 1) (xs ++ [.bool true, .int .i64 t.kind, .int .i64 t.num, .string t.text, .slice A0 t.items.length c0, .slice A0' t.names.length c0'])) := Lib.hid (by simpa using ho9)
      rw [show 0 + n + 1 = n + 1 by omega]
      clear ho9 hg9 hb9 hp9 hpl9 HO8 HB8 HQ8
      refine ot_free ?_
      simp only [atNats, List.filterMap_cons, List.filterMap_nil, List.getElem?_toArray, List.getElem?_cons_succ, List.getElem?_cons_zero]
      show wpQuiet _ _ _ _ [_, _] _
      repeat (go_big_quiet_step (fail))
      refine wpQuiet_nil ?_
      have yf : w9.frozen? ⟨x, 2, none⟩ = false := Go.Joins.unfrozen_of_block ((HB9.out.block x HXL.out).trans HX.out) 2
      have yc : w9.cell? ⟨x, 2, none⟩ = some (.slice A n c) := Go.Joins.cell_of_block ((HB9.out.block x HXL.out).trans HX.out) 2
      refine ot_last rfl (fun K hK => ?_)
      go_simp
      refine hK _ _ ?_
      clear hK K
      refine ot_end ?_
      go_wp2_with fail
      go_ret
      exact rnote_end HB1.out HX.out HXW.out HNN.out HB9.out HO9.out HONES.out HONE.out (fun b hb => Nat.lt_of_lt_of_le (HS.out b hb) HB1.out.size) HXS.out HS2.out HXS2.out
    · skip
      go_simp
      refine hK _ _ (.inr ((Below.refl _ _).alloc HB5.out.size _)) ?_
      clear hK K
      have HB7 : Hid (Below w1.heap.size w1 (w5.alloc (.cells #[.bool true, .int .i64 t.kind, .int .i64 t.num, .string t.text, .slice A0 t.items.length c0, .slice A0' t.names.length c0'] 71))) := Lib.hid (HB5.out.alloc HB5.out.size _)
      have HO7 : Hid ((w5.alloc (.cells #[.bool true, .int .i64 t.kind, .int .i64 t.num, .string t.text, .slice A0 t.items.length c0, .slice A0' t.names.length c0'] 71)).ownsRow w1.heap.size 71 6 (.slice (some ⟨w1.heap.size, 0, none⟩) 0 0) 0 []) := Lib.hid (ownsRow_belowR HO5.out ((Below.refl _ _).alloc (Nat.le_refl _) _))
      have HQ7 : Hid ((w5.alloc (.cells #[.bool true, .int .i64 t.kind, .int .i64 t.num, .string t.text, .slice A0 t.items.length c0, .slice A0' t.names.length c0'] 71)).heap[w5.heap.size]? = some (.cells #[.bool true, .int .i64 t.kind, .int .i64 t.num, .string t.text, .slice A0 t.items.length c0, .slice A0' t.names.length c0'] 71 (0, 0))) := Lib.hid (heap_alloc_new w5 _)
      refine ot_act rfl rfl (fun K hK => ?_)
      refine wp_append_ones _ _ rfl w1.heap.size (.slice (some ⟨w1.heap.size, 0, none⟩) 0 0) 0 [] rfl HO7.out A n c xs rfl (own_news HOWN.out HB7.out).1 (by have := HONES.out.len; rw [← HNN.out] at this; exact this) (own_news HOWN.out HB7.out).2 (OnesL.one HONES.out) (by omega) HB7.out.size fun v6 w8 ho6 hg6 hw6 => ?_
      have hb6 := below_grow HB7.out HO7.out HB7.out.size hg6
      refine hK _ _ (.inr ((Below.refl _ _).grown hg6 HB7.out.size (fun k hk => (World.ownsRow.lt HO7.out k hk).1))) ?_
      clear hK K
      simp only [List.getElem_toArray, List.getElem_cons_succ, List.getElem_cons_zero, Act.put, List.setIfInBounds_toArray, List.set_cons_succ, List.set_cons_zero]
      have HB8 := Lib.hid hb6
      have HO8 := Lib.hid ho6
      have HQ8 := Lib.hid (row_other HQ7.out (fun k hk => by have := HSZ5.out; simp only [Value.ownBlock, Option.some.injEq] at hk; omega) hg6)
      clear hb6 ho6 hg6 hw6
      refine ot_act rfl rfl (fun K hK => ?_)
      refine wp_append_ones _ _ rfl w1.heap.size v6 (0 + n) ([] ++ xs) rfl HO8.out (some ⟨w5.heap.size, 0, none⟩) 1 1 [.bool true, .int .i64 t.kind, .int .i64 t.num, .string t.text, .slice A0 t.items.length c0, .slice A0' t.names.length c0'] rfl (fun h => by cases h) rfl (fun ad e j u hj => by injection e with e; subst e; rw [add_at, Nat.zero_add]; exact (Go.Joins.cell_of_block HQ8.out j).trans (by simpa using hj)) (OneL.one HONE.out) (by omega) HB8.out.size fun v9 w9 ho9 hg9 _ => ?_
      have hb9 := below_grow HB8.out HO8.out HB8.out.size hg9
      refine hK _ _ (.inr ((Below.refl _ _).grown hg9 HB8.out.size (fun k hk => (World.ownsRow.lt HO8.out k hk).1))) ?_
      clear hK K
      simp only [List.getElem_toArray, List.getElem_cons_succ, List.getElem_cons_zero, Act.put, List.setIfInBounds_toArray, List.set_cons_succ, List.set_cons_zero]
      obtain ⟨p9, cap9, rfl, hp9, hpl9⟩ := own_shape ho9 (by omega)
      have HB9 := Lib.hid hb9
      have HO9 : Hid (w9.ownsRow w1.heap.size 71 6 (.slice (some ⟨p9, 0, none⟩) (n + 1) cap9) (n + 1) (xs ++ [.bool true, .int .i64 t.kind, .int .i64 t.num, .string t.text, .slice A0 t.items.length c0, .slice A0' t.names.length c0'])) := Lib.hid (by simpa using ho9)
      rw [show 0 + n + 1 = n + 1 by omega]
      clear ho9 hg9 hb9 hp9 hpl9 HO8 HB8 HQ8
      refine ot_free ?_
      simp only [atNats, List.filterMap_cons, List.filterMap_nil, List.getElem?_toArray, List.getElem?_cons_succ, List.getElem?_cons_zero]
      show wpQuiet _ _ _ _ [_, _] _
      repeat (go_big_quiet_step (fail))
      refine wpQuiet_nil ?_
      have yf : w9.frozen? ⟨x, 2, none⟩ = false := Go.Joins.unfrozen_of_block ((HB9.out.block x HXL.out).trans HX.out) 2
      have yc : w9.cell? ⟨x, 2, none⟩ = some (.slice A n c) := Go.Joins.cell_of_block ((HB9.out.block x HXL.out).trans HX.out) 2
      refine ot_last rfl (fun K hK => ?_)
      go_simp
      refine hK _ _ ?_
      clear hK K
      refine ot_end ?_
      go_wp2_with fail
      go_ret
      exact rnote_end HB1.out HX.out HXW.out HNN.out HB9.out HO9.out HONES.out HONE.out (fun b hb => Nat.lt_of_lt_of_le (HS.out b hb) HB1.out.size) HXS.out HS2.out HXS2.out
  · skip
    go_simp
    refine hK _ _ (.inr (below_da _ _)) ?_
    clear hK K
    have hb5 : Below w1.heap.size w1 (w1.alloc (.cells #[.bool true, .int .i64 t.kind, .int .i64 t.num, .string t.text, .slice A0 t.items.length c0, .slice A0' t.names.length c0'] 71)).drew := ((Below.refl _ _).alloc (Nat.le_refl _) _).drew
    have HB5 := Lib.hid hb5
    have HQ5 : Hid ((w1.alloc (.cells #[.bool true, .int .i64 t.kind, .int .i64 t.num, .string t.text, .slice A0 t.items.length c0, .slice A0' t.names.length c0'] 71)).drew.heap[w1.heap.size]? = some (.cells #[.bool true, .int .i64 t.kind, .int .i64 t.num, .string t.text, .slice A0 t.items.length c0, .slice A0' t.names.length c0'] 71 (0, 0))) := Lib.hid (heap_alloc_new w1 _)
    have hq5 : (w1.alloc (.cells #[.bool true, .int .i64 t.kind, .int .i64 t.num, .string t.text, .slice A0 t.items.length c0, .slice A0' t.names.length c0'] 71)).drew.heap.size = w1.heap.size + 1 := by simp
    generalize (w1.alloc (.cells #[.bool true, .int .i64 t.kind, .int .i64 t.num, .string t.text, .slice A0 t.items.length c0, .slice A0' t.names.length c0'] 71)).drew = w5 at *
    have HSZ5 := Lib.hid hq5
    clear hb5 hq5
    refine ot_step rfl (fun K hK => ?_)
    go_simp
    refine hK _ _ (.inr ((Below.refl _ _).alloc HB5.out.size _)) ?_
    clear hK K
    have HB7 : Hid (Below w1.heap.size w1 (w5.alloc (.cells #[] 71))) := Lib.hid (HB5.out.alloc HB5.out.size _)
    have HO7 : Hid ((w5.alloc (.cells #[] 71)).ownsRow w1.heap.size 71 6 (.slice (some ⟨w5.heap.size, 0, none⟩) 0 0) 0 []) := Lib.hid (own_empty w5 _ HB5.out.size)
    have HQ7 : Hid ((w5.alloc (.cells #[] 71)).heap[w1.heap.size]? = some (.cells #[.bool true, .int .i64 t.kind, .int .i64 t.num, .string t.text, .slice A0 t.items.length c0, .slice A0' t.names.length c0'] 71 (0, 0))) := Lib.hid ((Below.heap_alloc _ _ _ (by have := HSZ5.out; omega)).trans HQ5.out)
    refine ot_act rfl rfl (fun K hK => ?_)
    refine wp_append_ones _ _ rfl w1.heap.size (.slice (some ⟨w5.heap.size, 0, none⟩) 0 0) 0 [] rfl HO7.out A n c xs rfl (own_news HOWN.out HB7.out).1 (by have := HONES.out.len; rw [← HNN.out] at this; exact this) (own_news HOWN.out HB7.out).2 (OnesL.one HONES.out) (by omega) HB7.out.size fun v6 w8 ho6 hg6 hw6 => ?_
    have hb6 := below_grow HB7.out HO7.out HB7.out.size hg6
    refine hK _ _ (.inr ((Below.refl _ _).grown hg6 HB7.out.size (fun k hk => (World.ownsRow.lt HO7.out k hk).1))) ?_
    clear hK K
    simp only [List.getElem_toArray, List.getElem_cons_succ, List.getElem_cons_zero, Act.put, List.setIfInBounds_toArray, List.set_cons_succ, List.set_cons_zero]
    have HB8 := Lib.hid hb6
    have HO8 := Lib.hid ho6
    have HQ8 := Lib.hid (row_other HQ7.out (fun k hk => by have := HSZ5.out; simp only [Value.ownBlock, Option.some.injEq] at hk; omega) hg6)
    clear hb6 ho6 hg6 hw6
    refine ot_act rfl rfl (fun K hK => ?_)
    refine wp_append_ones _ _ rfl w1.heap.size v6 (0 + n) ([] ++ xs) rfl HO8.out (some ⟨w1.heap.size, 0, none⟩) 1 1 [.bool true, .int .i64 t.kind, .int .i64 t.num, .string t.text, .slice A0 t.items.length c0, .slice A0' t.names.length c0'] rfl (fun h => by cases h) rfl (fun ad e j u hj => by injection e with e; subst e; rw [add_at, Nat.zero_add]; exact (Go.Joins.cell_of_block HQ8.out j).trans (by simpa using hj)) (OneL.one HONE.out) (by omega) HB8.out.size fun v9 w9 ho9 hg9 _ => ?_
    have hb9 := below_grow HB8.out HO8.out HB8.out.size hg9
    refine hK _ _ (.inr ((Below.refl _ _).grown hg9 HB8.out.size (fun k hk => (World.ownsRow.lt HO8.out k hk).1))) ?_
    clear hK K
    simp only [List.getElem_toArray, List.getElem_cons_succ, List.getElem_cons_zero, Act.put, List.setIfInBounds_toArray, List.set_cons_succ, List.set_cons_zero]
    obtain ⟨p9, cap9, rfl, hp9, hpl9⟩ := own_shape ho9 (by omega)
    have HB9 := Lib.hid hb9
    have HO9 : Hid (w9.ownsRow w1.heap.size 71 6 (.slice (some ⟨p9, 0, none⟩) (n + 1) cap9) (n + 1) (xs ++ [.bool true, .int .i64 t.kind, .int .i64 t.num, .string t.text, .slice A0 t.items.length c0, .slice A0' t.names.length c0'])) := Lib.hid (by simpa using ho9)
    rw [show 0 + n + 1 = n + 1 by omega]
    clear ho9 hg9 hb9 hp9 hpl9 HO8 HB8 HQ8
    refine ot_free ?_
    simp only [atNats, List.filterMap_cons, List.filterMap_nil, List.getElem?_toArray, List.getElem?_cons_succ, List.getElem?_cons_zero]
    show wpQuiet _ _ _ _ [_, _] _
    repeat (go_big_quiet_step (fail))
    refine wpQuiet_nil ?_
    have yf : w9.frozen? ⟨x, 2, none⟩ = false := Go.Joins.unfrozen_of_block ((HB9.out.block x HXL.out).trans HX.out) 2
    have yc : w9.cell? ⟨x, 2, none⟩ = some (.slice A n c) := Go.Joins.cell_of_block ((HB9.out.block x HXL.out).trans HX.out) 2
    refine ot_last rfl (fun K hK => ?_)
    go_simp
    refine hK _ _ ?_
    clear hK K
    refine ot_end ?_
    go_wp2_with fail
    go_ret
    exact rnote_end HB1.out HX.out HXW.out HNN.out HB9.out HO9.out HONES.out HONE.out (fun b hb => Nat.lt_of_lt_of_le (HS.out b hb) HB1.out.size) HXS.out HS2.out HXS2.out
set_option maxHeartbeats 16000000 in
theorem rnote_none (h : RIAt w S B x r) (hS : ∀ b, S b → b < w.heap.size) (hxS : ¬ S x) (hS' : ∀ b, S' b → b < w.heap.size) (hv : LV w S' t v) (hn : r.l.length ≤ 1000000) :
    Calls Try.prog 14 #[.pointer (some ⟨x, 0, none⟩), v, .bool false] w (RNoteR w (fun b => S b ∨ False) x (r.note none)) := by
  obtain ⟨A0, c0, A0', c0', rfl, -, -, -, v1, hb0⟩ := one_var hS' hv
  obtain ⟨w1, hw1⟩ : ∃ W, W = w.alloc (.cells #[.int .i64 0, .int .i64 0, .string ⟨#[]⟩, .slice none 0 0, .slice none 0 0] 36) := ⟨_, rfl⟩
  have hbx : Box w1 w.heap.size (.int .i64 0) (.int .i64 0) (.string eS) (.slice none 0 0) (.slice none 0 0) := by rw [hw1]; exact Box.new _ _ _ _ _
  have hb1 : Below w.heap.size w w1 := by rw [hw1]; exact (Below.refl _ _).alloc (Nat.le_refl _) _
  have HB1 := Lib.hid hb1
  have HW1 := Lib.hid hw1
  have HBX := Lib.hid hbx
  have HXW := Lib.hid h.lt
  have HS := Lib.hid hS
  have HXS := Lib.hid hxS
  have hr1 := h.below hS hb1
  obtain ⟨A, c, xs, hx, hown, hones⟩ := hr1
  have hxl : x < w1.heap.size := (Array.getElem?_eq_some_iff.1 hx).1
  have hpl : w.heap.size < w1.heap.size := hbx.lt
  have hn1 := hn
  obtain ⟨n, hnn⟩ : ∃ n, n = r.l.length := ⟨_, rfl⟩
  rw [← hnn] at hx hown hn1
  have z2 := cell_br (B := w1.heap.size) (w := w1.drew) (a := ⟨x, 2, none⟩) (Go.Joins.cell_of_block hx 2) hxl
  have p0 := cell_br (B := w1.heap.size) (w := w1.drew) (a := ⟨w.heap.size, 0, none⟩) hbx.c0 hpl
  have p1 := cell_br (B := w1.heap.size) (w := w1.drew) (a := ⟨w.heap.size, 1, none⟩) hbx.c1 hpl
  have p2 := cell_br (B := w1.heap.size) (w := w1.drew) (a := ⟨w.heap.size, 2, none⟩) hbx.c2 hpl
  have p3 := cell_br (B := w1.heap.size) (w := w1.drew) (a := ⟨w.heap.size, 3, none⟩) hbx.c3 hpl
  have p4 := cell_br (B := w1.heap.size) (w := w1.drew) (a := ⟨w.heap.size, 4, none⟩) hbx.c4 hpl
  have HX := Lib.hid hx
  have HOWN := Lib.hid hown
  have HONES := Lib.hid hones
  have HNN := Lib.hid hnn
  have HXL := Lib.hid hxl
  have HONE : Hid (OneL w1 (fun _ => False) (none : Option VT) [.bool false, .int .i64 0, .int .i64 0, .string eS, .slice none 0 0, .slice none 0 0]) := Lib.hid rfl
  have HS2 : Hid (∀ b : Nat, False → b < w1.heap.size) := Lib.hid fun _ h => h.elim
  have HXS2 : Hid (¬ False) := Lib.hid fun h => h
  clear hv h hS hxS hS' hb0 v1 hw1 hbx hb1 hx hown hones hnn hxl hpl
  go_enter Try.func14, Try.ntmps14
  go_wp2_with fail
  rw [← HW1.out]
  clear HW1
  refine wp_region_OTB (BelowR w1.heap.size) (fun w => Below.refl _ w) (fun _ _ _ h k => h.trans k) [14] (.pure [0, 2, 3, 4, 5, 7, 8, 9] (.fork 1 (.fork 6 (.step 10 (.step 11 (.free [12, 13] (.tail [14])))) 10 (.step 6 (.step 11 (.free [12, 13] (.tail [14]))))) 10 (.step 1 (.step 6 (.step 11 (.free [12, 13] (.tail [14]))))))) (by kernel_rfl) (by kernel_rfl) (fun _ d _ _ _ h => by cases d <;> exact h) ?_
  refine ot_pure ?_
  simp only [atNats, List.filterMap_cons, List.filterMap_nil, List.getElem?_toArray, List.getElem?_cons_succ, List.getElem?_cons_zero]
  show wpQuiet _ _ _ _ [_, _, _, _, _, _, _, _] _
  repeat (go_big_quiet_step (fail))
  refine wpQuiet_nil ?_
  clear p0 p1 p2 p3 p4 z2
  refine ot_fork rfl rfl (fun K hK => ?_) (fun K hK => ?_)
  · skip
    go_simp
    refine hK _ _ (.inr (below_da _ _)) ?_
    clear hK K
    have hb5 : Below w1.heap.size w1 (w1.alloc (.cells #[] 71)).drew := ((Below.refl _ _).alloc (Nat.le_refl _) _).drew
    have HB5 := Lib.hid hb5
    have HO5 : Hid ((w1.alloc (.cells #[] 71)).drew.ownsRow w1.heap.size 71 6 (.slice (some ⟨w1.heap.size, 0, none⟩) 0 0) 0 []) := Lib.hid (own_empty w1 _ (Nat.le_refl _))
    have hq5 : (w1.alloc (.cells #[] 71)).drew.heap.size = w1.heap.size + 1 := by simp
    generalize (w1.alloc (.cells #[] 71)).drew = w5 at *
    have HSZ5 := Lib.hid hq5
    clear hb5 hq5
    refine ot_fork rfl rfl (fun K hK => ?_) (fun K hK => ?_)
    · skip
      rw [if_pos (wanted_none rfl)]
      refine wp_append_ones _ _ rfl w1.heap.size (.slice (some ⟨w1.heap.size, 0, none⟩) 0 0) 0 [] rfl HO5.out A n c xs rfl (own_news HOWN.out HB5.out).1 (by have := HONES.out.len; rw [← HNN.out] at this; exact this) (own_news HOWN.out HB5.out).2 (OnesL.one HONES.out) (by omega) HB5.out.size fun v6 w6 ho6 hg6 hw6 => ?_
      have hb6 := below_grow HB5.out HO5.out HB5.out.size hg6
      refine hK _ _ (.inr ((Below.refl _ _).grown hg6 HB5.out.size (fun k hk => (World.ownsRow.lt HO5.out k hk).1))) ?_
      clear hK K
      simp only [List.getElem_toArray, List.getElem_cons_succ, List.getElem_cons_zero, Act.put, List.setIfInBounds_toArray, List.set_cons_succ, List.set_cons_zero]
      have HB6 := Lib.hid hb6
      have HO6 := Lib.hid ho6
      clear hb6 ho6 hg6 hw6
      refine ot_step rfl (fun K hK => ?_)
      go_simp
      refine hK _ _ (.inr ((Below.refl _ _).alloc HB6.out.size _)) ?_
      clear hK K
      have HB8 : Hid (Below w1.heap.size w1 (w6.alloc (.cells #[.bool false, .int .i64 0, .int .i64 0, .string eS, .slice none 0 0, .slice none 0 0] 71))) := Lib.hid (HB6.out.alloc HB6.out.size _)
      have HO8 : Hid ((w6.alloc (.cells #[.bool false, .int .i64 0, .int .i64 0, .string eS, .slice none 0 0, .slice none 0 0] 71)).ownsRow w1.heap.size 71 6 v6 (0 + n) ([] ++ xs)) := Lib.hid (ownsRow_belowR HO6.out ((Below.refl _ _).alloc (Nat.le_refl _) _))
      have HQ8 : Hid ((w6.alloc (.cells #[.bool false, .int .i64 0, .int .i64 0, .string eS, .slice none 0 0, .slice none 0 0] 71)).heap[w6.heap.size]? = some (.cells #[.bool false, .int .i64 0, .int .i64 0, .string eS, .slice none 0 0, .slice none 0 0] 71 (0, 0))) := Lib.hid (heap_alloc_new w6 _)
      refine ot_act rfl rfl (fun K hK => ?_)
      refine wp_append_ones _ _ rfl w1.heap.size v6 (0 + n) ([] ++ xs) rfl HO8.out (some ⟨w6.heap.size, 0, none⟩) 1 1 [.bool false, .int .i64 0, .int .i64 0, .string eS, .slice none 0 0, .slice none 0 0] rfl (fun h => by cases h) rfl (fun ad e j u hj => by injection e with e; subst e; rw [add_at, Nat.zero_add]; exact (Go.Joins.cell_of_block HQ8.out j).trans (by simpa using hj)) (OneL.one HONE.out) (by omega) HB8.out.size fun v9 w9 ho9 hg9 _ => ?_
      have hb9 := below_grow HB8.out HO8.out HB8.out.size hg9
      refine hK _ _ (.inr ((Below.refl _ _).grown hg9 HB8.out.size (fun k hk => (World.ownsRow.lt HO8.out k hk).1))) ?_
      clear hK K
      simp only [List.getElem_toArray, List.getElem_cons_succ, List.getElem_cons_zero, Act.put, List.setIfInBounds_toArray, List.set_cons_succ, List.set_cons_zero]
      obtain ⟨p9, cap9, rfl, hp9, hpl9⟩ := own_shape ho9 (by omega)
      have HB9 := Lib.hid hb9
      have HO9 : Hid (w9.ownsRow w1.heap.size 71 6 (.slice (some ⟨p9, 0, none⟩) (n + 1) cap9) (n + 1) (xs ++ [.bool false, .int .i64 0, .int .i64 0, .string eS, .slice none 0 0, .slice none 0 0])) := Lib.hid (by simpa using ho9)
      rw [show 0 + n + 1 = n + 1 by omega]
      clear ho9 hg9 hb9 hp9 hpl9 HO8 HB8 HQ8
      refine ot_free ?_
      simp only [atNats, List.filterMap_cons, List.filterMap_nil, List.getElem?_toArray, List.getElem?_cons_succ, List.getElem?_cons_zero]
      show wpQuiet _ _ _ _ [_, _] _
      repeat (go_big_quiet_step (fail))
      refine wpQuiet_nil ?_
      have yf : w9.frozen? ⟨x, 2, none⟩ = false := Go.Joins.unfrozen_of_block ((HB9.out.block x HXL.out).trans HX.out) 2
      have yc : w9.cell? ⟨x, 2, none⟩ = some (.slice A n c) := Go.Joins.cell_of_block ((HB9.out.block x HXL.out).trans HX.out) 2
      refine ot_last rfl (fun K hK => ?_)
      go_simp
      refine hK _ _ ?_
      clear hK K
      refine ot_end ?_
      go_wp2_with fail
      go_ret
      exact rnote_end HB1.out HX.out HXW.out HNN.out HB9.out HO9.out HONES.out HONE.out (fun b hb => Nat.lt_of_lt_of_le (HS.out b hb) HB1.out.size) HXS.out HS2.out HXS2.out
    · skip
      go_simp
      refine hK _ _ (.inr ((Below.refl _ _).alloc HB5.out.size _)) ?_
      clear hK K
      have HB7 : Hid (Below w1.heap.size w1 (w5.alloc (.cells #[.bool false, .int .i64 0, .int .i64 0, .string eS, .slice none 0 0, .slice none 0 0] 71))) := Lib.hid (HB5.out.alloc HB5.out.size _)
      have HO7 : Hid ((w5.alloc (.cells #[.bool false, .int .i64 0, .int .i64 0, .string eS, .slice none 0 0, .slice none 0 0] 71)).ownsRow w1.heap.size 71 6 (.slice (some ⟨w1.heap.size, 0, none⟩) 0 0) 0 []) := Lib.hid (ownsRow_belowR HO5.out ((Below.refl _ _).alloc (Nat.le_refl _) _))
      have HQ7 : Hid ((w5.alloc (.cells #[.bool false, .int .i64 0, .int .i64 0, .string eS, .slice none 0 0, .slice none 0 0] 71)).heap[w5.heap.size]? = some (.cells #[.bool false, .int .i64 0, .int .i64 0, .string eS, .slice none 0 0, .slice none 0 0] 71 (0, 0))) := Lib.hid (heap_alloc_new w5 _)
      refine ot_act rfl rfl (fun K hK => ?_)
      refine wp_append_ones _ _ rfl w1.heap.size (.slice (some ⟨w1.heap.size, 0, none⟩) 0 0) 0 [] rfl HO7.out A n c xs rfl (own_news HOWN.out HB7.out).1 (by have := HONES.out.len; rw [← HNN.out] at this; exact this) (own_news HOWN.out HB7.out).2 (OnesL.one HONES.out) (by omega) HB7.out.size fun v6 w8 ho6 hg6 hw6 => ?_
      have hb6 := below_grow HB7.out HO7.out HB7.out.size hg6
      refine hK _ _ (.inr ((Below.refl _ _).grown hg6 HB7.out.size (fun k hk => (World.ownsRow.lt HO7.out k hk).1))) ?_
      clear hK K
      simp only [List.getElem_toArray, List.getElem_cons_succ, List.getElem_cons_zero, Act.put, List.setIfInBounds_toArray, List.set_cons_succ, List.set_cons_zero]
      have HB8 := Lib.hid hb6
      have HO8 := Lib.hid ho6
      have HQ8 := Lib.hid (row_other HQ7.out (fun k hk => by have := HSZ5.out; simp only [Value.ownBlock, Option.some.injEq] at hk; omega) hg6)
      clear hb6 ho6 hg6 hw6
      refine ot_act rfl rfl (fun K hK => ?_)
      refine wp_append_ones _ _ rfl w1.heap.size v6 (0 + n) ([] ++ xs) rfl HO8.out (some ⟨w5.heap.size, 0, none⟩) 1 1 [.bool false, .int .i64 0, .int .i64 0, .string eS, .slice none 0 0, .slice none 0 0] rfl (fun h => by cases h) rfl (fun ad e j u hj => by injection e with e; subst e; rw [add_at, Nat.zero_add]; exact (Go.Joins.cell_of_block HQ8.out j).trans (by simpa using hj)) (OneL.one HONE.out) (by omega) HB8.out.size fun v9 w9 ho9 hg9 _ => ?_
      have hb9 := below_grow HB8.out HO8.out HB8.out.size hg9
      refine hK _ _ (.inr ((Below.refl _ _).grown hg9 HB8.out.size (fun k hk => (World.ownsRow.lt HO8.out k hk).1))) ?_
      clear hK K
      simp only [List.getElem_toArray, List.getElem_cons_succ, List.getElem_cons_zero, Act.put, List.setIfInBounds_toArray, List.set_cons_succ, List.set_cons_zero]
      obtain ⟨p9, cap9, rfl, hp9, hpl9⟩ := own_shape ho9 (by omega)
      have HB9 := Lib.hid hb9
      have HO9 : Hid (w9.ownsRow w1.heap.size 71 6 (.slice (some ⟨p9, 0, none⟩) (n + 1) cap9) (n + 1) (xs ++ [.bool false, .int .i64 0, .int .i64 0, .string eS, .slice none 0 0, .slice none 0 0])) := Lib.hid (by simpa using ho9)
      rw [show 0 + n + 1 = n + 1 by omega]
      clear ho9 hg9 hb9 hp9 hpl9 HO8 HB8 HQ8
      refine ot_free ?_
      simp only [atNats, List.filterMap_cons, List.filterMap_nil, List.getElem?_toArray, List.getElem?_cons_succ, List.getElem?_cons_zero]
      show wpQuiet _ _ _ _ [_, _] _
      repeat (go_big_quiet_step (fail))
      refine wpQuiet_nil ?_
      have yf : w9.frozen? ⟨x, 2, none⟩ = false := Go.Joins.unfrozen_of_block ((HB9.out.block x HXL.out).trans HX.out) 2
      have yc : w9.cell? ⟨x, 2, none⟩ = some (.slice A n c) := Go.Joins.cell_of_block ((HB9.out.block x HXL.out).trans HX.out) 2
      refine ot_last rfl (fun K hK => ?_)
      go_simp
      refine hK _ _ ?_
      clear hK K
      refine ot_end ?_
      go_wp2_with fail
      go_ret
      exact rnote_end HB1.out HX.out HXW.out HNN.out HB9.out HO9.out HONES.out HONE.out (fun b hb => Nat.lt_of_lt_of_le (HS.out b hb) HB1.out.size) HXS.out HS2.out HXS2.out
  · skip
    go_simp
    refine hK _ _ (.inr (below_da _ _)) ?_
    clear hK K
    have hb5 : Below w1.heap.size w1 (w1.alloc (.cells #[.bool false, .int .i64 0, .int .i64 0, .string eS, .slice none 0 0, .slice none 0 0] 71)).drew := ((Below.refl _ _).alloc (Nat.le_refl _) _).drew
    have HB5 := Lib.hid hb5
    have HQ5 : Hid ((w1.alloc (.cells #[.bool false, .int .i64 0, .int .i64 0, .string eS, .slice none 0 0, .slice none 0 0] 71)).drew.heap[w1.heap.size]? = some (.cells #[.bool false, .int .i64 0, .int .i64 0, .string eS, .slice none 0 0, .slice none 0 0] 71 (0, 0))) := Lib.hid (heap_alloc_new w1 _)
    have hq5 : (w1.alloc (.cells #[.bool false, .int .i64 0, .int .i64 0, .string eS, .slice none 0 0, .slice none 0 0] 71)).drew.heap.size = w1.heap.size + 1 := by simp
    generalize (w1.alloc (.cells #[.bool false, .int .i64 0, .int .i64 0, .string eS, .slice none 0 0, .slice none 0 0] 71)).drew = w5 at *
    have HSZ5 := Lib.hid hq5
    clear hb5 hq5
    refine ot_step rfl (fun K hK => ?_)
    go_simp
    refine hK _ _ (.inr ((Below.refl _ _).alloc HB5.out.size _)) ?_
    clear hK K
    have HB7 : Hid (Below w1.heap.size w1 (w5.alloc (.cells #[] 71))) := Lib.hid (HB5.out.alloc HB5.out.size _)
    have HO7 : Hid ((w5.alloc (.cells #[] 71)).ownsRow w1.heap.size 71 6 (.slice (some ⟨w5.heap.size, 0, none⟩) 0 0) 0 []) := Lib.hid (own_empty w5 _ HB5.out.size)
    have HQ7 : Hid ((w5.alloc (.cells #[] 71)).heap[w1.heap.size]? = some (.cells #[.bool false, .int .i64 0, .int .i64 0, .string eS, .slice none 0 0, .slice none 0 0] 71 (0, 0))) := Lib.hid ((Below.heap_alloc _ _ _ (by have := HSZ5.out; omega)).trans HQ5.out)
    refine ot_act rfl rfl (fun K hK => ?_)
    refine wp_append_ones _ _ rfl w1.heap.size (.slice (some ⟨w5.heap.size, 0, none⟩) 0 0) 0 [] rfl HO7.out A n c xs rfl (own_news HOWN.out HB7.out).1 (by have := HONES.out.len; rw [← HNN.out] at this; exact this) (own_news HOWN.out HB7.out).2 (OnesL.one HONES.out) (by omega) HB7.out.size fun v6 w8 ho6 hg6 hw6 => ?_
    have hb6 := below_grow HB7.out HO7.out HB7.out.size hg6
    refine hK _ _ (.inr ((Below.refl _ _).grown hg6 HB7.out.size (fun k hk => (World.ownsRow.lt HO7.out k hk).1))) ?_
    clear hK K
    simp only [List.getElem_toArray, List.getElem_cons_succ, List.getElem_cons_zero, Act.put, List.setIfInBounds_toArray, List.set_cons_succ, List.set_cons_zero]
    have HB8 := Lib.hid hb6
    have HO8 := Lib.hid ho6
    have HQ8 := Lib.hid (row_other HQ7.out (fun k hk => by have := HSZ5.out; simp only [Value.ownBlock, Option.some.injEq] at hk; omega) hg6)
    clear hb6 ho6 hg6 hw6
    refine ot_act rfl rfl (fun K hK => ?_)
    refine wp_append_ones _ _ rfl w1.heap.size v6 (0 + n) ([] ++ xs) rfl HO8.out (some ⟨w1.heap.size, 0, none⟩) 1 1 [.bool false, .int .i64 0, .int .i64 0, .string eS, .slice none 0 0, .slice none 0 0] rfl (fun h => by cases h) rfl (fun ad e j u hj => by injection e with e; subst e; rw [add_at, Nat.zero_add]; exact (Go.Joins.cell_of_block HQ8.out j).trans (by simpa using hj)) (OneL.one HONE.out) (by omega) HB8.out.size fun v9 w9 ho9 hg9 _ => ?_
    have hb9 := below_grow HB8.out HO8.out HB8.out.size hg9
    refine hK _ _ (.inr ((Below.refl _ _).grown hg9 HB8.out.size (fun k hk => (World.ownsRow.lt HO8.out k hk).1))) ?_
    clear hK K
    simp only [List.getElem_toArray, List.getElem_cons_succ, List.getElem_cons_zero, Act.put, List.setIfInBounds_toArray, List.set_cons_succ, List.set_cons_zero]
    obtain ⟨p9, cap9, rfl, hp9, hpl9⟩ := own_shape ho9 (by omega)
    have HB9 := Lib.hid hb9
    have HO9 : Hid (w9.ownsRow w1.heap.size 71 6 (.slice (some ⟨p9, 0, none⟩) (n + 1) cap9) (n + 1) (xs ++ [.bool false, .int .i64 0, .int .i64 0, .string eS, .slice none 0 0, .slice none 0 0])) := Lib.hid (by simpa using ho9)
    rw [show 0 + n + 1 = n + 1 by omega]
    clear ho9 hg9 hb9 hp9 hpl9 HO8 HB8 HQ8
    refine ot_free ?_
    simp only [atNats, List.filterMap_cons, List.filterMap_nil, List.getElem?_toArray, List.getElem?_cons_succ, List.getElem?_cons_zero]
    show wpQuiet _ _ _ _ [_, _] _
    repeat (go_big_quiet_step (fail))
    refine wpQuiet_nil ?_
    have yf : w9.frozen? ⟨x, 2, none⟩ = false := Go.Joins.unfrozen_of_block ((HB9.out.block x HXL.out).trans HX.out) 2
    have yc : w9.cell? ⟨x, 2, none⟩ = some (.slice A n c) := Go.Joins.cell_of_block ((HB9.out.block x HXL.out).trans HX.out) 2
    refine ot_last rfl (fun K hK => ?_)
    go_simp
    refine hK _ _ ?_
    clear hK K
    refine ot_end ?_
    go_wp2_with fail
    go_ret
    exact rnote_end HB1.out HX.out HXW.out HNN.out HB9.out HO9.out HONES.out HONE.out (fun b hb => Nat.lt_of_lt_of_le (HS.out b hb) HB1.out.size) HXS.out HS2.out HXS2.out
end
end Go.Proofs.Ytdggeokpnaopiaa
