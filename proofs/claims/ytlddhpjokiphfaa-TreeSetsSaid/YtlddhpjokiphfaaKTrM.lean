/- A value stored at an item. -/
import Derived.Test.YtlddhpjokiphfaaKTrJ
import Derived.Test.YtlddhpjokiphfaaKFive
namespace Go.Proofs.Ytlddhpjokiphfaa
set_option linter.unusedVariables false
set_option linter.unusedSimpArgs false
open Go.RowKit
/-- Five cells stored in a block. -/
theorem five_block {w : World} {G o : Nat} {C : Array Value} {ty : TypeId} {fz : Nat × Nat} {c0 c1 c2 c3 c4 : Value} (h : w.heap[G]? = some (.cells C ty fz)) (ho : o + 4 < C.size) :
    ∃ C', (five w G o c0 c1 c2 c3 c4).heap[G]? = some (.cells C' ty fz) ∧ C'.size = C.size ∧ C'[o]? = some c0 ∧ C'[o + 1]? = some c1 ∧ C'[o + 2]? = some c2 ∧ C'[o + 3]? = some c3 ∧ C'[o + 4]? = some c4 ∧ ∀ i, (i < o ∨ o + 5 ≤ i) → C'[i]? = C[i]? := by
  have h1 := Go.Joins.block_setCell (i := o) h c0
  have h2 := Go.Joins.block_setCell (i := o + 1) h1 c1
  have h3 := Go.Joins.block_setCell (i := o + 2) h2 c2
  have h4 := Go.Joins.block_setCell (i := o + 3) h3 c3
  have h5 := Go.Joins.block_setCell (i := o + 4) h4 c4
  refine ⟨_, h5, by simp, ?_, ?_, ?_, ?_, ?_, fun i hi => ?_⟩
  all_goals simp only [Array.getElem?_setIfInBounds, Array.size_setIfInBounds]
  · rw [if_neg (by omega), if_neg (by omega), if_neg (by omega), if_neg (by omega), if_pos trivial, if_pos (by omega)]
  · rw [if_neg (by omega), if_neg (by omega), if_neg (by omega), if_pos trivial, if_pos (by omega)]
  · rw [if_neg (by omega), if_neg (by omega), if_pos trivial, if_pos (by omega)]
  · rw [if_neg (by omega), if_pos trivial, if_pos (by omega)]
  · rw [if_pos trivial, if_pos (by omega)]
  · rw [if_neg (by omega), if_neg (by omega), if_neg (by omega), if_neg (by omega), if_neg (by omega)]
theorem OAt.store {w : World} {F : Nat → Prop} {t : VT} {g o : Nat} (h : OAt w F t g o) {j : Nat} (hj : j < t.items.length) :
    ∃ G, (∃ c, w.cell? ⟨g, o + 3, none⟩ = some (.slice (some ⟨G, 0, none⟩) t.items.length c)) ∧ F G ∧ (∃ C ty, w.heap[G]? = some (.cells C ty (0, 0)) ∧ j * 5 + 4 < C.size) ∧
      ∀ w5 F' u A c A' c', Below w.heap.size w w5 → OV w5 F' u (.agg #[.int .i64 u.kind, .int .i64 u.num, .string u.text, .slice A u.items.length c, .slice A' u.names.length c']) → (∀ b, F' b → w.heap.size ≤ b ∧ b < w5.heap.size) →
        ∃ F'', Own F w F'' ∧ OAt (five w5 G (j * 5) (.int .i64 u.kind) (.int .i64 u.num) (.string u.text) (.slice A u.items.length c) (.slice A' u.names.length c')) F'' (setT t j u) g o ∧
          Mut F g o w (five w5 G (j * 5) (.int .i64 u.kind) (.int .i64 u.num) (.string u.text) (.slice A u.items.length c) (.slice A' u.names.length c')) := by
  obtain ⟨G, Fj, hc, hFG, hoj, hsub, hup⟩ := h.item hj
  obtain ⟨C, ty, B, b, B', b', hg, g0, g1, g2, g3, g4, hv, hFg, hlt⟩ := hoj
  have hGs := (Array.getElem?_eq_some_iff.1 hg).1
  have h4 : j * 5 + 4 < C.size := (Array.getElem?_eq_some_iff.1 g4).1
  refine ⟨G, hc, hFG, ⟨C, ty, hg, h4⟩, fun w5 F' u A c A' c' hb hu hF => ?_⟩
  have hr5 := five_rest w5 G (j * 5) (.int .i64 u.kind) (.int .i64 u.num) (.string u.text) (.slice A u.items.length c) (.slice A' u.names.length c')
  have hk := five_other w5 G (j * 5) (.int .i64 u.kind) (.int .i64 u.num) (.string u.text) (.slice A u.items.length c) (.slice A' u.names.length c')
  have hz := five_size w5 G (j * 5) (.int .i64 u.kind) (.int .i64 u.num) (.string u.text) (.slice A u.items.length c) (.slice A' u.names.length c')
  obtain ⟨C', hC', hsz, k0, k1, k2, k3, k4, kout⟩ := five_block (c0 := .int .i64 u.kind) (c1 := .int .i64 u.num) (c2 := .string u.text) (c3 := .slice A u.items.length c) (c4 := .slice A' u.names.length c') ((hb.block G hGs).trans hg) h4
  refine hup _ u F' ⟨by rw [hz]; exact hb.size, fun x hx _ hne => (hk x hne).trans (hb.block x hx), fun C2 ty2 fz2 h2 => ?_, hr5.1.trans hb.os, hr5.2.1.trans hb.tape, hr5.2.2.trans hb.output⟩ ⟨C', ty, A, c, A', c', hC', k0, k1, k2, k3, k4, hu.keep fun x hx => hk x (by have := (hF x hx).1; omega), fun hx => by have := (hF G hx).1; omega, fun x hx => by rw [hz]; exact (hF x hx).2⟩ fun x hx => .inr (hF x hx).1
  have := hg.symm.trans h2
  injection this with this
  injection this with e1 e2 e3
  subst e1 e2 e3
  exact ⟨C', hC', hsz, kout⟩
end Go.Proofs.Ytlddhpjokiphfaa

/- Whether a step is the one just behind an array's last item. -/
namespace Go.Proofs.Ytlddhpjokiphfaa
set_option linter.unusedVariables false
set_option linter.unusedSimpArgs false
open Go.RowKit
/-- Just behind the last item, and nothing after. -/
def nextT (t : VT) (s : ByteArray) (r : List ByteArray) : Bool := decide (idxI s.data.toList = (t.items.length : Int)) && decide (r.length = 0)
set_option maxHeartbeats 2000000 in
set_option maxRecDepth 100000 in
theorem tnext_any (S S2 : Nat → Prop) (t : VT) (g o : Nat) (A : Option Addr) (c : Nat) (A' : Option Addr) (c' : Nat) (P : Int) (R : Option Addr) (cR : Nat) (s : ByteArray) (r : List ByteArray) (w : World) (h : AtV w S t g o A c A' c') (hg : g < w.heap.size) (hr : StrsAt w S2 R (s :: r)) (hS : ∀ b, S2 b → b < w.heap.size) (hn : r.length + 1 ≤ 9223372036854775807) :
    Calls Try.prog 54 #[.agg #[.pointer (some ⟨g, o, none⟩), .int .i64 P, .slice R (r.length + 1) cR]] w fun e w' => e = .returned (.bool (nextT t s r)) ∧ Below w.heap.size w w' := by
  obtain ⟨b, off, rfl, hb, hx⟩ := hr (by simp)
  have hs0 := (hx 0 (by simp)).1
  have hsz := (hx 0 (by simp)).2
  simp only [List.getElem_cons_zero, Nat.add_zero] at hs0 hsz
  have hbs := hS b hb
  have hlen := h.names.2.2
  have c3 := h.c3
  obtain ⟨Q, hQ⟩ : ∃ Q, Q = nextT t s r := ⟨_, rfl⟩
  rw [← hQ]
  have HQ := Lib.hid hQ
  clear hQ h hx hr
  have hb1 : Below w.heap.size w (w.alloc (.cells #[.pointer (some ⟨g, o, none⟩), .int .i64 P, .slice (some ⟨b, off, none⟩) (r.length + 1) cR] 51)) := below_box _
  have HB1 := Lib.hid hb1
  have hs1 : (w.alloc (.cells #[.pointer (some ⟨g, o, none⟩), .int .i64 P, .slice (some ⟨b, off, none⟩) (r.length + 1) cR] 51)).heap[w.heap.size]? = some (.cells #[.pointer (some ⟨g, o, none⟩), .int .i64 P, .slice (some ⟨b, off, none⟩) (r.length + 1) cR] 51 (0, 0)) := heap_alloc_new w _
  have HS1 := Lib.hid hs1
  clear hb1 hs1
  go_enter Try.func54, Try.ntmps54
  go_wp2_with fail
  refine (index_any s _ hsz).mono ?_
  rintro e w2 hi
  have hlt1 : 0 ≤ r.length := Nat.zero_le _
  unfold IdxR at hi
  cases hix : idxP s.data.toList with
  | none =>
    rw [hix] at hi
    obtain ⟨rfl, hb2⟩ := hi
    have hI := idxI_none hix
    have hq : Q = false := by rw [HQ.out]; unfold nextT; rw [hI, decide_eq_false (by omega)]; rfl
    have HB2 := Lib.hid (toStart HB1.out hb2)
    clear hb2
    go_wp2_with fail
    go_ret
    exact ⟨by rw [hq]; rfl, HB2.out⟩
  | some n =>
    rw [hix] at hi
    obtain ⟨rfl, hb2⟩ := hi
    have hI := idxI_some hix
    have hz1 : (w.alloc (.cells #[.pointer (some ⟨g, o, none⟩), .int .i64 P, .slice (some ⟨b, off, none⟩) (r.length + 1) cR] 51)).heap.size = w.heap.size + 1 := by simp
    have k0 := (World.cell?_of_block (a := ⟨w.heap.size, 0, none⟩) (hb2.block w.heap.size (by omega))).trans (Go.Joins.cell_of_block HS1.out 0)
    have k2 := (World.cell?_of_block (a := ⟨w.heap.size, 2, none⟩) (hb2.block w.heap.size (by omega))).trans (Go.Joins.cell_of_block HS1.out 2)
    have HB2 := Lib.hid (toStart HB1.out hb2)
    have k3 := (World.cell?_of_block (a := ⟨g, o + 3, none⟩) (HB2.out.block g hg)).trans c3
    clear hb2 hz1 HS1
    have hnx : nextT t s r = (decide ((n : Int) = (t.items.length : Int)) && decide (r.length = 0)) := by unfold nextT; rw [hI]
    by_cases hnl : (n : Int) = (t.items.length : Int)
    · have hb : ((n : Int) == (t.items.length : Int)) = true := by simp [hnl]
      by_cases hr0 : r.length = 0
      · have hb' : ((r.length : Int) + 1 == 1) = true := by simp [hr0]
        have hq : Q = true := by rw [HQ.out, hnx, decide_eq_true hnl, decide_eq_true hr0]; rfl
        have HQ2 := Lib.hid hq
        clear hq hnx
        go_wp2_with fail
        go_ret
        exact ⟨by rw [HQ2.out]; rfl, HB2.out⟩
      · have hb' : ((r.length : Int) + 1 == 1) = false := beq_false_of_ne (by omega)
        have hq : Q = false := by rw [HQ.out, hnx, decide_eq_false hr0, Bool.and_false]
        have HQ2 := Lib.hid hq
        clear hq hnx
        go_wp2_with fail
        go_ret
        exact ⟨by rw [HQ2.out]; rfl, HB2.out⟩
    · have hb : ((n : Int) == (t.items.length : Int)) = false := beq_false_of_ne hnl
      have hq : Q = false := by rw [HQ.out, hnx, decide_eq_false hnl, Bool.false_and]
      have HQ2 := Lib.hid hq
      clear hq hnx
      go_wp2_with fail
      go_ret
      exact ⟨by rw [HQ2.out]; rfl, HB2.out⟩
end Go.Proofs.Ytlddhpjokiphfaa

/- What put does where something lies. -/
namespace Go.Proofs.Ytlddhpjokiphfaa
set_option linter.unusedVariables false
set_option linter.unusedSimpArgs false
open Go.RowKit
set_option maxHeartbeats 4000000 in
set_option maxRecDepth 100000 in
theorem tput_item (F : Nat → Prop) (t u : VT) (g o : Nat) (j : Nat) (hj : j < t.items.length) (rest : Value) (w w1 : World) (B : Option Addr) (k : Nat) (B' : Option Addr) (k' : Nat) (h : OAt w F t g o) (hb1 : Below w.heap.size w w1)
    (hu : OV w1 (Iv w.heap.size w1.heap.size) u (.agg #[.int .i64 u.kind, .int .i64 u.num, .string u.text, .slice B u.items.length k, .slice B' u.names.length k'])) :
    Calls Try.prog 37 #[.agg #[.pointer (some ⟨g, o, none⟩), .int .i64 j, rest], .agg #[.int .i64 u.kind, .int .i64 u.num, .string u.text, .slice B u.items.length k, .slice B' u.names.length k']] w1 (DidAt F g o w (0, setT t j u)) := by
  have hneg : decide (0 ≤ (j : Int)) = true := decide_eq_true (by omega)
  obtain ⟨A, cA, A', cA', hat⟩ := (h.keep hb1).at
  have hlen := hat.names.2.2
  have hgl := (h.keep hb1).lt
  have hgl0 := h.lt
  obtain ⟨G, ⟨cp, hc3⟩, hFG, ⟨C, ty, hG, hGs⟩, hst⟩ := h.store hj
  have hgG : g ≠ G := by
    obtain ⟨_, _, _, _, _, _, _, _, _, _, _, _, _, hn, _⟩ := h
    exact fun e => hn (e ▸ hFG)
  have HST := Lib.hid hst
  have hGl := (Array.getElem?_eq_some_iff.1 hG).1
  have hGl1 := Nat.lt_of_lt_of_le hGl hb1.size
  have hc31 := (World.cell?_of_block (a := ⟨g, o + 3, none⟩) (hb1.block g hgl0)).trans hc3
  have hG1 := (hb1.block G hGl).trans hG
  have HB1 := Lib.hid hb1
  have HU := Lib.hid hu
  have hz1 := hb1.size
  clear h hat hst hb1 hu hc3 hG
  go_enter Try.func37, Try.ntmps37
  go_wp2_with fail
  refine wp_region_OT (Keep2 G G) (Keep2.refl _ _) (Keep2.trans _ _) [] (.pure [0, 1, 2, 3, 4, 5, 6, 7] (.step 8 (.step 9 (.tail [])))) (by kernel_rfl) (by kernel_rfl) (fun _ d _ _ _ h => by cases d <;> exact h) ?_
  have hza : (w1.alloc (.cells #[.pointer (some ⟨g, o, none⟩), .int .i64 j, rest] 51)).heap.size = w1.heap.size + 1 := by simp
  have hz0 : ((w1.alloc (.cells #[.pointer (some ⟨g, o, none⟩), .int .i64 j, rest] 51)).alloc (.cells #[.int .i64 u.kind, .int .i64 u.num, .string u.text, .slice B u.items.length k, .slice B' u.names.length k'] 25)).drew.heap.size = w1.heap.size + 2 := by simp
  have hb0 : Below w1.heap.size w1 ((w1.alloc (.cells #[.pointer (some ⟨g, o, none⟩), .int .i64 j, rest] 51)).alloc (.cells #[.int .i64 u.kind, .int .i64 u.num, .string u.text, .slice B u.items.length k, .slice B' u.names.length k'] 25)).drew := ((below_box _).alloc (by simp) _).drew
  have hs : ((w1.alloc (.cells #[.pointer (some ⟨g, o, none⟩), .int .i64 j, rest] 51)).alloc (.cells #[.int .i64 u.kind, .int .i64 u.num, .string u.text, .slice B u.items.length k, .slice B' u.names.length k'] 25)).drew.heap[w1.heap.size]? = some (.cells #[.pointer (some ⟨g, o, none⟩), .int .i64 j, rest] 51 (0, 0)) := (Below.heap_alloc (w1.alloc (.cells #[.pointer (some ⟨g, o, none⟩), .int .i64 j, rest] 51)) _ w1.heap.size (by omega)).trans (heap_alloc_new w1 _)
  have hx : Box ((w1.alloc (.cells #[.pointer (some ⟨g, o, none⟩), .int .i64 j, rest] 51)).alloc (.cells #[.int .i64 u.kind, .int .i64 u.num, .string u.text, .slice B u.items.length k, .slice B' u.names.length k'] 25)).drew (w1.heap.size + 1) (.int .i64 u.kind) (.int .i64 u.num) (.string u.text) (.slice B u.items.length k) (.slice B' u.names.length k') := by
    have := Box.new (w := (w1.alloc (.cells #[.pointer (some ⟨g, o, none⟩), .int .i64 j, rest] 51))) (.int .i64 u.kind) (.int .i64 u.num) (.string u.text) (.slice B u.items.length k) (.slice B' u.names.length k')
    rw [hza] at this
    exact this
  generalize ((w1.alloc (.cells #[.pointer (some ⟨g, o, none⟩), .int .i64 j, rest] 51)).alloc (.cells #[.int .i64 u.kind, .int .i64 u.num, .string u.text, .slice B u.items.length k, .slice B' u.names.length k'] 25)).drew = w0 at *
  have s0 : ∀ p : LaterR (Keep2 G G) w0, p.u.cell? ⟨w1.heap.size, 0, none⟩ = some (.pointer (some ⟨g, o, none⟩)) := fun p => (World.cell?_of_block (a := ⟨w1.heap.size, 0, none⟩) (p.h.2 w1.heap.size (by omega) (by omega) (by omega))).trans (Go.Joins.cell_of_block hs 0)
  have s1 : ∀ p : LaterR (Keep2 G G) w0, p.u.cell? ⟨w1.heap.size, 1, none⟩ = some (.int .i64 j) := fun p => (World.cell?_of_block (a := ⟨w1.heap.size, 1, none⟩) (p.h.2 w1.heap.size (by omega) (by omega) (by omega))).trans (Go.Joins.cell_of_block hs 1)
  have q3 : ∀ p : LaterR (Keep2 G G) w0, p.u.cell? ⟨g, o + 3, none⟩ = some (.slice (some ⟨G, 0, none⟩) t.items.length cp) := fun p => (World.cell?_of_block (a := ⟨g, o + 3, none⟩) (p.h.2 g (by omega) hgG hgG)).trans ((World.cell?_of_block (a := ⟨g, o + 3, none⟩) (hb0.block g hgl)).trans hc31)
  have kx : ∀ (p : LaterR (Keep2 G G) w0) (i : Nat), p.u.cell? ⟨w1.heap.size + 1, i, none⟩ = w0.cell? ⟨w1.heap.size + 1, i, none⟩ := fun p i => World.cell?_of_block (a := ⟨w1.heap.size + 1, i, none⟩) (p.h.2 (w1.heap.size + 1) (by omega) (by omega) (by omega))
  have y0 := fun p : LaterR (Keep2 G G) w0 => (kx p 0).trans hx.c0
  have y1 := fun p : LaterR (Keep2 G G) w0 => (kx p 1).trans hx.c1
  have y2 := fun p : LaterR (Keep2 G G) w0 => (kx p 2).trans hx.c2
  have y3 := fun p : LaterR (Keep2 G G) w0 => (kx p 3).trans hx.c3
  have y4 := fun p : LaterR (Keep2 G G) w0 => (kx p 4).trans hx.c4
  have hG0 := (hb0.block G hGl1).trans hG1
  have HFIN := Lib.hid (HST.out w0 (Iv w.heap.size w1.heap.size) u B k B' k' (HB1.out.trans (hb0.mono hz1)) (HU.out.keep fun b hb => hb0.block b hb.2) (fun b hb => ⟨hb.1, by have := hb.2; omega⟩))
  have x0 := (Go.Joins.cell_of_block hG0 (j * 5)).trans (Array.getElem?_eq_getElem (show j * 5 < C.size by omega))
  have x1 := (Go.Joins.cell_of_block hG0 (j * 5 + 1)).trans (Array.getElem?_eq_getElem (show j * 5 + 1 < C.size by omega))
  have x2 := (Go.Joins.cell_of_block hG0 (j * 5 + 2)).trans (Array.getElem?_eq_getElem (show j * 5 + 2 < C.size by omega))
  have x3 := (Go.Joins.cell_of_block hG0 (j * 5 + 3)).trans (Array.getElem?_eq_getElem (show j * 5 + 3 < C.size by omega))
  have x4 := (Go.Joins.cell_of_block hG0 (j * 5 + 4)).trans (Array.getElem?_eq_getElem (show j * 5 + 4 < C.size by omega))
  have xf := fun i => Go.Joins.unfrozen_of_block hG0 i
  have h5 := five_other w0 G (j * 5) (.int .i64 u.kind) (.int .i64 u.num) (.string u.text) (.slice B u.items.length k) (.slice B' u.names.length k')
  have hz5 := five_size w0 G (j * 5) (.int .i64 u.kind) (.int .i64 u.num) (.string u.text) (.slice B u.items.length k) (.slice B' u.names.length k')
  clear hs hb0 hc31 HST hG0 hx kx hza HB1 HU hG1
  refine ot_pure ?_
  simp only [atNats, List.filterMap_cons, List.filterMap_nil, List.getElem?_toArray, List.getElem?_cons_succ, List.getElem?_cons_zero]
  show wpQuiet _ _ _ _ [_, _, _, _, _, _, _, _] _
  try simp only [List.getElem_toArray, List.getElem_cons_succ, List.getElem_cons_zero, Act.put, List.setIfInBounds_toArray, List.set_cons_succ, List.set_cons_zero]
  repeat (go_big_quiet_step (fail))
  refine wpQuiet_nil ?_
  clear s0 s1 q3 y0 y1 y2 y3 y4
  refine ot_step rfl (fun K hK => ?_)
  go_simp
  refine hK _ _ (.inr (Keep2.refl _ _ _)) ?_
  clear hK K
  refine ot_step rfl (fun K hK => ?_)
  go_simp
  refine hK _ (five w0 G (j * 5) (.int .i64 u.kind) (.int .i64 u.num) (.string u.text) (.slice B u.items.length k) (.slice B' u.names.length k')) (.inr ⟨by omega, fun b hb hg hh => h5 b hg⟩) ?_
  clear hK K x0 x1 x2 x3 x4 xf h5 hz5
  generalize five w0 G (j * 5) (.int .i64 u.kind) (.int .i64 u.num) (.string u.text) (.slice B u.items.length k) (.slice B' u.names.length k') = w6 at *
  refine ot_end ?_
  go_wp2_with fail
  go_ret
  exact ⟨rfl, HFIN.out⟩
end Go.Proofs.Ytlddhpjokiphfaa

/- What drop does where nothing lies, and at an array's item. -/
namespace Go.Proofs.Ytlddhpjokiphfaa
set_option linter.unusedVariables false
set_option linter.unusedSimpArgs false
open Go.RowKit
/-- What is left of an item of an array. -/
def nullT : VT := .mk 1 0 ⟨#[]⟩ [] []
set_option maxHeartbeats 2000000 in
set_option maxRecDepth 100000 in
theorem tdrop_none (F : Nat → Prop) (t : VT) (g o : Nat) (P : Int) (hP : P < 0) (rest : Value) (w : World) (h : OAt w F t g o) :
    Calls Try.prog 43 #[.agg #[.pointer (some ⟨g, o, none⟩), .int .i64 P, rest]] w fun e w' => e = .returned (.tuple #[]) ∧ ∃ F', Own F w F' ∧ OAt w' F' t g o ∧ Mut F g o w w' := by
  have hneg : decide (P < 0) = true := decide_eq_true hP
  have hb : Below w.heap.size w (w.alloc (.cells #[.pointer (some ⟨g, o, none⟩), .int .i64 P, rest] 51)) := below_box _
  have hfin : ∃ F', Own F w F' ∧ OAt (w.alloc (.cells #[.pointer (some ⟨g, o, none⟩), .int .i64 P, rest] 51)) F' t g o ∧ Mut F g o w (w.alloc (.cells #[.pointer (some ⟨g, o, none⟩), .int .i64 P, rest] 51)) :=
    ⟨F, fun _ => .inl, h.keep hb, hb.size, fun b hb1 _ _ => hb.block b hb1, fun C ty fz hC => ⟨C, (hb.block g h.lt).trans hC, rfl, fun _ _ => rfl⟩, hb.os, hb.tape, hb.output⟩
  have HFIN := Lib.hid hfin
  clear h hb hfin
  go_enter Try.func43, Try.ntmps43
  go_wp2_with fail
  go_end0
  exact ⟨rfl, HFIN.out⟩
set_option maxHeartbeats 4000000 in
set_option maxRecDepth 100000 in
theorem tdrop_item (F : Nat → Prop) (t : VT) (g o : Nat) (j : Nat) (hj : j < t.items.length) (hk : t.kind ≠ 7) (rest : Value) (w : World) (h : OAt w F t g o) :
    Calls Try.prog 43 #[.agg #[.pointer (some ⟨g, o, none⟩), .int .i64 j, rest]] w fun e w' => e = .returned (.tuple #[]) ∧ ∃ F', Own F w F' ∧ OAt w' F' (setT t j nullT) g o ∧ Mut F g o w w' := by
  have hneg : decide ((j : Int) < 0) = false := decide_eq_false (by omega)
  obtain ⟨A, cA, A', cA', hat⟩ := h.at
  have hlen := hat.names.2.2
  have hgl := h.lt
  obtain ⟨G, ⟨cp, hc3⟩, hFG, ⟨C, ty, hG, hGs⟩, hst⟩ := h.store hj
  have hgG : g ≠ G := by
    obtain ⟨_, _, _, _, _, _, _, _, _, _, _, _, _, hn, _⟩ := h
    exact fun e => hn (e ▸ hFG)
  have hc0 := hat.c0
  obtain ⟨k, hkk⟩ : ∃ k, k = t.kind := ⟨_, rfl⟩
  rw [← hkk] at hc0 hk
  have hk7 : (k == 7) = false := beq_false_of_ne hk
  have HST := Lib.hid hst
  have hGl := (Array.getElem?_eq_some_iff.1 hG).1
  clear h hat hst hkk
  go_enter Try.func43, Try.ntmps43
  go_wp2_with fail
  refine wp_region_OT (Keep2 G G) (Keep2.refl _ _) (Keep2.trans _ _) [] (.pure [0, 1, 2, 3, 4, 5, 6] (.step 7 (.step 8 (.step 9 (.tail []))))) (by kernel_rfl) (by kernel_rfl) (fun _ d _ _ _ h => by cases d <;> exact h) ?_
  have hz0 : (w.alloc (.cells #[.pointer (some ⟨g, o, none⟩), .int .i64 j, rest] 51)).drew.heap.size = w.heap.size + 1 := by simp
  have hb0 : Below w.heap.size w (w.alloc (.cells #[.pointer (some ⟨g, o, none⟩), .int .i64 j, rest] 51)).drew := (below_box _).drew
  have hs : (w.alloc (.cells #[.pointer (some ⟨g, o, none⟩), .int .i64 j, rest] 51)).drew.heap[w.heap.size]? = some (.cells #[.pointer (some ⟨g, o, none⟩), .int .i64 j, rest] 51 (0, 0)) := heap_alloc_new w _
  generalize (w.alloc (.cells #[.pointer (some ⟨g, o, none⟩), .int .i64 j, rest] 51)).drew = w0 at *
  have s0 : ∀ p : LaterR (Keep2 G G) w0, p.u.cell? ⟨w.heap.size, 0, none⟩ = some (.pointer (some ⟨g, o, none⟩)) := fun p => (World.cell?_of_block (a := ⟨w.heap.size, 0, none⟩) (p.h.2 w.heap.size (by omega) (by omega) (by omega))).trans (Go.Joins.cell_of_block hs 0)
  have s1 : ∀ p : LaterR (Keep2 G G) w0, p.u.cell? ⟨w.heap.size, 1, none⟩ = some (.int .i64 j) := fun p => (World.cell?_of_block (a := ⟨w.heap.size, 1, none⟩) (p.h.2 w.heap.size (by omega) (by omega) (by omega))).trans (Go.Joins.cell_of_block hs 1)
  have q3 : ∀ p : LaterR (Keep2 G G) w0, p.u.cell? ⟨g, o + 3, none⟩ = some (.slice (some ⟨G, 0, none⟩) t.items.length cp) := fun p => (World.cell?_of_block (a := ⟨g, o + 3, none⟩) (p.h.2 g (by omega) hgG hgG)).trans ((World.cell?_of_block (a := ⟨g, o + 3, none⟩) (hb0.block g hgl)).trans hc3)
  have hG0 := (hb0.block G hGl).trans hG
  have HFIN := Lib.hid (HST.out w0 (fun _ => False) nullT none 0 none 0 hb0 (leaf_ov _ _ 1 0 ⟨#[]⟩ (by unfold Rng; omega) (by unfold Rng; omega) (by decide)) (fun _ h => h.elim))
  have x0 := (Go.Joins.cell_of_block hG0 (j * 5)).trans (Array.getElem?_eq_getElem (show j * 5 < C.size by omega))
  have x1 := (Go.Joins.cell_of_block hG0 (j * 5 + 1)).trans (Array.getElem?_eq_getElem (show j * 5 + 1 < C.size by omega))
  have x2 := (Go.Joins.cell_of_block hG0 (j * 5 + 2)).trans (Array.getElem?_eq_getElem (show j * 5 + 2 < C.size by omega))
  have x3 := (Go.Joins.cell_of_block hG0 (j * 5 + 3)).trans (Array.getElem?_eq_getElem (show j * 5 + 3 < C.size by omega))
  have x4 := (Go.Joins.cell_of_block hG0 (j * 5 + 4)).trans (Array.getElem?_eq_getElem (show j * 5 + 4 < C.size by omega))
  have xf := fun i => Go.Joins.unfrozen_of_block hG0 i
  have h5 := five_other w0 G (j * 5) (.int .i64 1) (.int .i64 0) (.string ⟨#[]⟩) (.slice none 0 0) (.slice none 0 0)
  have hz5 := five_size w0 G (j * 5) (.int .i64 1) (.int .i64 0) (.string ⟨#[]⟩) (.slice none 0 0) (.slice none 0 0)
  clear hs hb0 hc3 HST hG0
  refine ot_pure ?_
  simp only [atNats, List.filterMap_cons, List.filterMap_nil, List.getElem?_toArray, List.getElem?_cons_succ, List.getElem?_cons_zero]
  show wpQuiet _ _ _ _ [_, _, _, _, _, _, _] _
  try simp only [List.getElem_toArray, List.getElem_cons_succ, List.getElem_cons_zero, Act.put, List.setIfInBounds_toArray, List.set_cons_succ, List.set_cons_zero]
  repeat (go_big_quiet_step (fail))
  refine wpQuiet_nil ?_
  clear s0 s1 q3
  refine ot_step rfl (fun K hK => ?_)
  go_simp
  refine hK _ _ (.inr (Keep2.refl _ _ _)) ?_
  clear hK K
  refine ot_step rfl (fun K hK => ?_)
  go_simp
  refine hK _ _ (.inr (Keep2.refl _ _ _)) ?_
  clear hK K
  refine ot_step rfl (fun K hK => ?_)
  go_simp
  refine hK _ (five w0 G (j * 5) (.int .i64 1) (.int .i64 0) (.string ⟨#[]⟩) (.slice none 0 0) (.slice none 0 0)) (.inr ⟨by omega, fun b hb hg hh => h5 b hg⟩) ?_
  clear hK K x0 x1 x2 x3 x4 xf h5 hz5
  change Hid (∃ F', Own F w F' ∧ OAt (five w0 G (j * 5) (.int .i64 1) (.int .i64 0) (.string ⟨#[]⟩) (.slice none 0 0) (.slice none 0 0)) F' (setT t j nullT) g o ∧ Mut F g o w (five w0 G (j * 5) (.int .i64 1) (.int .i64 0) (.string ⟨#[]⟩) (.slice none 0 0) (.slice none 0 0))) at HFIN
  generalize five w0 G (j * 5) (.int .i64 1) (.int .i64 0) (.string ⟨#[]⟩) (.slice none 0 0) (.slice none 0 0) = w6 at *
  refine ot_end ?_
  go_wp2_with fail
  go_end0
  exact ⟨rfl, HFIN.out⟩
end Go.Proofs.Ytlddhpjokiphfaa
