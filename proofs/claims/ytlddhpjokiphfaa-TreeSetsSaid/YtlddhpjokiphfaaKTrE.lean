/- The program's Get: what its closure does at the end of a path. -/
import Derived.Test.YtlddhpjokiphfaaKTrC
import Derived.Test.YtlddhpjokiphfaaKReg
namespace Go.Proofs.Ytlddhpjokiphfaa
set_option linter.unusedVariables false
set_option linter.unusedSimpArgs false
open Go.RowKit
/-- All blocks that are there stay, but g and h. -/
def Keep2 (g h : Nat) (w w' : World) : Prop := w.heap.size ≤ w'.heap.size ∧ ∀ b, b < w.heap.size → b ≠ g → b ≠ h → w'.heap[b]? = w.heap[b]?
theorem Keep2.refl (g h : Nat) (w : World) : Keep2 g h w w := ⟨Nat.le_refl _, fun _ _ _ _ => rfl⟩
theorem Keep2.trans (g h : Nat) (a b c : World) (x : Keep2 g h a b) (y : Keep2 g h b c) : Keep2 g h a c := ⟨Nat.le_trans x.1 y.1, fun i hi hg hh => (y.2 i (Nat.lt_of_lt_of_le hi x.1) hg hh).trans (x.2 i hi hg hh)⟩
theorem Keep2.of {g h : Nat} {w w' : World} (x : Below w.heap.size w w') : Keep2 g h w w' := ⟨x.size, fun b hb _ _ => x.block b hb⟩
instance (g h : Nat) (w : World) : Inhabited (LaterR (Keep2 g h) w) := ⟨⟨w, Keep2.refl g h w⟩⟩
theorem cell_later2 {g h : Nat} {w : World} {b o : Nat} {v : Value} (x : w.cell? ⟨b, o, none⟩ = some v) (hB : b < w.heap.size) (hg : b < g) (hh : g < h) : ∀ p : LaterR (Keep2 g h) w, p.u.cell? ⟨b, o, none⟩ = some v := fun p => (World.cell?_of_block (a := ⟨b, o, none⟩) (p.h.2 b hB (by omega) (by omega))).trans x
/-- What the closure leaves: something was found, or nothing. -/
def GotC (gF : Nat) (w : World) (r : Option VT) (e : Ending) (w' : World) : Prop :=
  e = .returned (.int .i64 0) ∧ Below gF w w' ∧ ∃ A c A' c', Box w' gF (.int .i64 (r.getD (.mk 0 0 ⟨#[]⟩ [] [])).kind) (.int .i64 (r.getD (.mk 0 0 ⟨#[]⟩ [] [])).num) (.string (r.getD (.mk 0 0 ⟨#[]⟩ [] [])).text) (.slice A (r.getD (.mk 0 0 ⟨#[]⟩ [] [])).items.length c) (.slice A' (r.getD (.mk 0 0 ⟨#[]⟩ [] [])).names.length c') ∧
    LV w' (fun b => gF + 1 < b ∧ b < w'.heap.size) (r.getD (.mk 0 0 ⟨#[]⟩ [] [])) (.agg #[.int .i64 (r.getD (.mk 0 0 ⟨#[]⟩ [] [])).kind, .int .i64 (r.getD (.mk 0 0 ⟨#[]⟩ [] [])).num, .string (r.getD (.mk 0 0 ⟨#[]⟩ [] [])).text, .slice A (r.getD (.mk 0 0 ⟨#[]⟩ [] [])).items.length c, .slice A' (r.getD (.mk 0 0 ⟨#[]⟩ [] [])).names.length c']) ∧
    w'.heap[gF + 1]? = some (.cells #[.bool r.isSome] 4 (0, 0))
set_option maxHeartbeats 2000000 in
set_option maxRecDepth 100000 in
theorem getc_none (P : Int) (hP : P < 0) (pin rest : Value) (gF : Nat) (w : World) (hx : Box w gF (.int .i64 0) (.int .i64 0) (.string ⟨#[]⟩) (.slice none 0 0) (.slice none 0 0)) (ho : w.heap[gF + 1]? = some (.cells #[.bool false] 4 (0, 0))) :
    Calls Try.prog 29 #[.agg #[pin, .int .i64 P, rest], .pointer (some ⟨gF, 0, none⟩), .pointer (some ⟨gF + 1, 0, none⟩)] w (GotC gF w none) := by
  have HX := Lib.hid hx
  have HO := Lib.hid ho
  have hneg : decide (0 ≤ P) = false := decide_eq_false (by omega)
  have hlt := hx.lt
  have hlt1 : gF + 1 < w.heap.size := (Array.getElem?_eq_some_iff.1 ho).1
  clear hx ho
  go_enter Try.func29, Try.ntmps29
  go_wp2_with fail
  go_ret
  refine ⟨rfl, (below_box _).mono (by omega), none, 0, none, 0, HX.out.alloc _, leaf_lv _ _ 0 0 ⟨#[]⟩ (by unfold Rng; omega) (by unfold Rng; omega) (by decide), (Below.heap_alloc w _ _ hlt1).trans HO.out⟩
set_option maxHeartbeats 2000000 in
set_option maxRecDepth 100000 in
theorem getc_some (S : Nat → Prop) (t : VT) (g o : Nat) (A : Option Addr) (c : Nat) (A' : Option Addr) (c' : Nat) (j : Nat) (hj : j < t.items.length) (rest : Value) (gF : Nat) (w : World) (h : AtV w S t g o A c A' c') (hg : g < gF) (hS : ∀ b, S b → b < gF)
    (hx : Box w gF (.int .i64 0) (.int .i64 0) (.string ⟨#[]⟩) (.slice none 0 0) (.slice none 0 0)) (ho : w.heap[gF + 1]? = some (.cells #[.bool false] 4 (0, 0))) :
    Calls Try.prog 29 #[.agg #[.pointer (some ⟨g, o, none⟩), .int .i64 j, rest], .pointer (some ⟨gF, 0, none⟩), .pointer (some ⟨gF + 1, 0, none⟩)] w (GotC gF w (some t.items[j])) := by
  have HX := Lib.hid hx
  have HO := Lib.hid ho
  have hneg : decide (0 ≤ (j : Int)) = true := decide_eq_true (by omega)
  have hlt := hx.lt
  have hlt1 : gF + 1 < w.heap.size := (Array.getElem?_eq_some_iff.1 ho).1
  obtain ⟨G, off1, A2, c2, A3, c3, rfl, hG, hitem⟩ := h.item hj
  have HI := Lib.hid hitem
  have hGF := hS G hG
  have h3 := h.c3
  have hlen := h.names.2.2
  have HS := Lib.hid hS
  clear hx ho h hitem
  obtain ⟨u, hu⟩ : ∃ u, u = t.items[j] := ⟨_, rfl⟩
  rw [← hu] at HI ⊢
  clear hu
  go_enter Try.func29, Try.ntmps29
  go_wp2_with fail
  refine wp_region_OT (Keep2 gF (gF + 1)) (Keep2.refl _ _) (Keep2.trans _ _) [] (.pure [0, 1, 2, 3, 4, 5, 6, 7, 8] (.step 9 (.step 10 (.step 11 (.tail []))))) (by kernel_rfl) (by kernel_rfl) (fun _ d _ _ _ h => by cases d <;> exact h) ?_
  have hz0 : (w.alloc (.cells #[.pointer (some ⟨g, o, none⟩), .int .i64 j, rest] 51)).drew.heap.size = w.heap.size + 1 := by simp
  have hb0 : Below w.heap.size w (w.alloc (.cells #[.pointer (some ⟨g, o, none⟩), .int .i64 j, rest] 51)).drew := (below_box _).drew
  have hs : (w.alloc (.cells #[.pointer (some ⟨g, o, none⟩), .int .i64 j, rest] 51)).drew.heap[w.heap.size]? = some (.cells #[.pointer (some ⟨g, o, none⟩), .int .i64 j, rest] 51 (0, 0)) := heap_alloc_new w _
  generalize (w.alloc (.cells #[.pointer (some ⟨g, o, none⟩), .int .i64 j, rest] 51)).drew = w0 at *
  have s0 : ∀ p : LaterR (Keep2 gF (gF + 1)) w0, p.u.cell? ⟨w.heap.size, 0, none⟩ = some (.pointer (some ⟨g, o, none⟩)) := fun p => (World.cell?_of_block (a := ⟨w.heap.size, 0, none⟩) (p.h.2 w.heap.size (by omega) (by omega) (by omega))).trans (Go.Joins.cell_of_block hs 0)
  have s1 : ∀ p : LaterR (Keep2 gF (gF + 1)) w0, p.u.cell? ⟨w.heap.size, 1, none⟩ = some (.int .i64 j) := fun p => (World.cell?_of_block (a := ⟨w.heap.size, 1, none⟩) (p.h.2 w.heap.size (by omega) (by omega) (by omega))).trans (Go.Joins.cell_of_block hs 1)
  have q3 := cell_later2 (h := gF + 1) (w := w0) ((World.cell?_of_block (a := ⟨g, o + 3, none⟩) (hb0.block g (by omega))).trans h3) (by omega) hg (by omega)
  have hk0 : ∀ i, w0.cell? ⟨G, i, none⟩ = w.cell? ⟨G, i, none⟩ := fun i => World.cell?_of_block (a := ⟨G, i, none⟩) (hb0.block G (by omega))
  have i0 := cell_later2 (h := gF + 1) (w := w0) ((hk0 _).trans HI.out.c0) (by omega) hGF (by omega)
  have i1 := cell_later2 (h := gF + 1) (w := w0) ((hk0 _).trans HI.out.c1) (by omega) hGF (by omega)
  have i2 := cell_later2 (h := gF + 1) (w := w0) ((hk0 _).trans HI.out.c2) (by omega) hGF (by omega)
  have i3 := cell_later2 (h := gF + 1) (w := w0) ((hk0 _).trans HI.out.c3) (by omega) hGF (by omega)
  have i4 := cell_later2 (h := gF + 1) (w := w0) ((hk0 _).trans HI.out.c4) (by omega) hGF (by omega)
  have HV0 := Lib.hid (HI.out.v.keep (w' := w0) fun b hb => hb0.block b (by have := HS.out b hb; omega))
  have HX0 := Lib.hid (HX.out.below hb0 hlt)
  have HO0 := Lib.hid ((hb0.block _ hlt1).trans HO.out)
  have HB0 := Lib.hid (hb0.mono (show gF ≤ w.heap.size by omega))
  clear hk0 hs hb0 h3 HX HO HI
  refine ot_pure ?_
  simp only [atNats, List.filterMap_cons, List.filterMap_nil, List.getElem?_toArray, List.getElem?_cons_succ, List.getElem?_cons_zero]
  show wpQuiet _ _ _ _ [_, _, _, _, _, _, _, _, _] _
  try simp only [List.getElem_toArray, List.getElem_cons_succ, List.getElem_cons_zero, Act.put, List.setIfInBounds_toArray, List.set_cons_succ, List.set_cons_zero]
  repeat (go_big_quiet_step (fail))
  refine wpQuiet_nil ?_
  clear s0 s1 q3 i0 i1 i2 i3 i4
  refine ot_step rfl (fun K hK => ?_)
  go_simp
  refine (clone_any S u _ w0 (fun b hb => by have := HS.out b hb; omega) HV0.out).mono ?_
  rintro e w1 ⟨v', rfl, hlv, hb1⟩
  refine hK _ _ (.inr (Keep2.of hb1)) ?_
  clear hK K
  obtain ⟨B, k, B', k', rfl, -⟩ := hlv.shape
  have hX1 := HX0.out.below hb1 (by omega)
  have hO1 := (hb1.block _ (show gF + 1 < w0.heap.size by omega)).trans HO0.out
  have HL := Lib.hid hlv
  have HB1 := Lib.hid (HB0.out.trans (hb1.mono (show gF ≤ w0.heap.size by omega)))
  have hz1 := hb1.size
  have x0 := hX1.c0
  have x1 := hX1.c1
  have x2 := hX1.c2
  have x3 := hX1.c3
  have x4 := hX1.c4
  have xf := fun i => hX1.free i
  have HX1 := Lib.hid hX1
  have HO1 := Lib.hid hO1
  clear hX1 hO1 hlv HX0 HO0 HB0 HV0 hb1
  refine ot_step rfl (fun K hK => ?_)
  go_simp
  have h5 := five_other w1 gF 0 (.int .i64 u.kind) (.int .i64 u.num) (.string u.text) (.slice B u.items.length k) (.slice B' u.names.length k')
  have hz5 := five_size w1 gF 0 (.int .i64 u.kind) (.int .i64 u.num) (.string u.text) (.slice B u.items.length k) (.slice B' u.names.length k')
  have hr5 := five_rest w1 gF 0 (.int .i64 u.kind) (.int .i64 u.num) (.string u.text) (.slice B u.items.length k) (.slice B' u.names.length k')
  have hx5 := five_box (c0 := .int .i64 u.kind) (c1 := .int .i64 u.num) (c2 := .string u.text) (c3 := .slice B u.items.length k) (c4 := .slice B' u.names.length k') HX1.out
  refine hK _ (five w1 gF 0 (.int .i64 u.kind) (.int .i64 u.num) (.string u.text) (.slice B u.items.length k) (.slice B' u.names.length k')) (.inr ⟨by omega, fun b hb hg hh => h5 b hg⟩) ?_
  clear hK K
  generalize five w1 gF 0 (.int .i64 u.kind) (.int .i64 u.num) (.string u.text) (.slice B u.items.length k) (.slice B' u.names.length k') = w5 at *
  have hO5 := (h5 (gF + 1) (by omega)).trans HO1.out
  have HX5 := Lib.hid hx5
  have HL5 : Hid (LV w5 (fun b => gF + 1 < b ∧ b < w5.heap.size) u (.agg #[.int .i64 u.kind, .int .i64 u.num, .string u.text, .slice B u.items.length k, .slice B' u.names.length k'])) :=
    Lib.hid ((HL.out.keep (w' := w5) fun b hb => h5 b (by have := hb.1; omega)).imp fun b hb => ⟨by have := hb.1; omega, by have := hb.2; omega⟩)
  have HB5 : Hid (Below gF w w5) := Lib.hid ⟨hr5.1.trans HB1.out.os, hr5.2.1.trans HB1.out.tape, hr5.2.2.trans HB1.out.output, by rw [hz5]; exact HB1.out.size, fun b hb => (h5 b (by omega)).trans (HB1.out.block b hb)⟩
  have o0 := Go.Joins.cell_of_block hO5 0
  have of := fun i => Go.Joins.unfrozen_of_block hO5 i
  have hO6 : (w5.setCell ⟨gF + 1, 0, none⟩ (.bool true)).heap[gF + 1]? = some (.cells #[.bool true] 4 (0, 0)) := Go.Joins.block_setCell (i := 0) hO5 (.bool true)
  have hother : ∀ b, b ≠ gF + 1 → (w5.setCell ⟨gF + 1, 0, none⟩ (.bool true)).heap[b]? = w5.heap[b]? := fun b hb => heap_setCell_other _ ⟨gF + 1, 0, none⟩ b _ hb
  have hz6 : (w5.setCell ⟨gF + 1, 0, none⟩ (.bool true)).heap.size = w5.heap.size := by simp
  have HFIN : Hid (GotC gF w (some u) (.returned (.int .i64 0)) (w5.setCell ⟨gF + 1, 0, none⟩ (.bool true))) := Lib.hid ⟨rfl,
    ⟨HB5.out.os, HB5.out.tape, HB5.out.output, by rw [hz6]; exact HB5.out.size, fun b hb => (hother b (by omega)).trans (HB5.out.block b hb)⟩,
    B, k, B', k', (hother gF (by omega)).trans HX5.out, (HL5.out.keep (w' := w5.setCell ⟨gF + 1, 0, none⟩ (.bool true)) fun b hb => hother b (by have := hb.1; omega)).imp fun b hb => ⟨hb.1, by rw [hz6]; exact hb.2⟩, hO6⟩
  clear h5 hr5 hx5 HX1 HO1 HL HB1 x0 x1 x2 x3 x4 xf HX5 HL5 HB5 hO6
  refine ot_step rfl (fun K hK => ?_)
  go_simp
  refine hK _ _ (.inr ⟨by omega, fun b hb hg hh => hother b hh⟩) ?_
  clear hK K hother hO5 o0 of
  refine ot_end ?_
  generalize w5.setCell ⟨gF + 1, 0, none⟩ (.bool true) = w6 at *
  go_wp2_with fail
  go_ret
  exact HFIN.out
end Go.Proofs.Ytlddhpjokiphfaa

/- The program's Get, and Id. -/
namespace Go.Proofs.Ytlddhpjokiphfaa
set_option linter.unusedVariables false
set_option linter.unusedSimpArgs false
open Go.RowKit
theorem enters_getc : Enters 29 := fun _ _ => by simp [callFunc, go_sem, Try.func29, Try.f29]
theorem GotC.from {gF : Nat} {W0 w : World} {r : Option VT} {e : Ending} {w' : World} (h : GotC gF w r e w') (hb : Below gF W0 w) : GotC gF W0 r e w' := ⟨h.1, hb.trans h.2.1, h.2.2⟩
/-- On the road of Get. -/
def GetI (S : Nat → Prop) (t0 : VT) (p0 : List ByteArray) (gF : Nat) (W0 w : World) (t : VT) (g o : Nat) (A : Option Addr) (c : Nat) (p : List ByteArray) : Prop :=
  (∃ B k B' k', AtV w S t g o B k B' k') ∧ g < gF ∧ mayT t = true ∧ getT t0 p0 = getT t p ∧ StrsAt w S A p ∧ p ≠ [] ∧ p.length ≤ c ∧ c ≤ 9223372036854775807 ∧ (∀ s ∈ p, s.size ≤ 140737488351232) ∧ Below gF W0 w ∧
    Box w gF (.int .i64 0) (.int .i64 0) (.string ⟨#[]⟩) (.slice none 0 0) (.slice none 0 0) ∧ w.heap[gF + 1]? = some (.cells #[.bool false] 4 (0, 0))
theorem getalong_any (S : Nat → Prop) (t : VT) (g o : Nat) (A : Option Addr) (c : Nat) (p : List ByteArray) (gF : Nat) (w : World) (hS : ∀ b, S b → b < gF) (h : GetI S t p gF w w t g o A c p) :
    Calls Try.prog 28 #[.pointer (some ⟨g, o, none⟩), .slice A p.length c, .func (.func 29) #[] #[.pointer (some ⟨gF, 0, none⟩), .pointer (some ⟨gF + 1, 0, none⟩)]] w (GotC gF w (getT t p)) := by
  refine along_any 29 #[.pointer (some ⟨gF, 0, none⟩), .pointer (some ⟨gF + 1, 0, none⟩)] (GotC gF w (getT t p)) (GetI S t p gF w) enters_getc (fun e w' h => ⟨_, h.1⟩) ?_ ?_ ?_ ?_ ?_ p t g o A c w h
  · rintro w' t' g' o' A' c' p' ⟨⟨B, k, B', k', hv⟩, hg, hm, -, -, -, -, -, -, -, hx, -⟩
    exact ⟨S, B, k, B', k', hv, Nat.lt_trans hg hx.lt, may_nl hm⟩
  · rintro w' t' g' o' A' c' p' ⟨-, -, -, -, hs, hp, hc, h63, hz, -⟩
    exact ⟨S, hs, hc, h63, hp, hz⟩
  · rintro w' w'' t' g' o' A' c' p' ⟨⟨B, k, B', k', hv⟩, hg, hm, he, hs, hp, hc, h63, hz, hb, hx, ho⟩ hbb
    have hlt := hx.lt
    have ho1 : gF + 1 < w'.heap.size := (Array.getElem?_eq_some_iff.1 ho).1
    exact ⟨⟨B, k, B', k', hv.keep (hbb.block _ (by omega)) fun b hb => hbb.block b (by have := hS b hb; omega)⟩, hg, hm, he, hs.keep fun b hb => hbb.block b (by have := hS b hb; omega), hp, hc, h63, hz, hb.trans (hbb.mono (by omega)), hx.call hbb, (hbb.block _ ho1).trans ho⟩
  · rintro w' t' g' o' A' c' s r G off B k B' k' S' hj ⟨⟨B0, k0, B0', k0', hv⟩, hg, hm, he, hs, hp, hc, h63, hz, hb, hx, ho⟩ hr hn hat rfl
    have hB0 : B0 = some ⟨G, off, none⟩ := by
      have h1 := hv.c3.symm.trans hat.c3
      injection h1 with h1
      injection h1 with h1
    subst hB0
    obtain ⟨G1, off1, A2, c2, A3, c3, h1, hG, hi⟩ := hv.item hj
    injection h1 with h1
    injection h1 with h1 h2
    subst h1 h2
    have hrl : 0 < r.length := by cases r with | nil => exact absurd rfl hr | cons a b => simp
    simp only [List.length_cons] at hc
    exact ⟨⟨A2, c2, A3, c3, hi⟩, hS _ hG, may_item hm hj, he.trans (getT_pos hn hj), hs.tail (.inr (by omega)), hr, by omega, by omega, fun x hx => hz x (List.mem_cons_of_mem _ hx), hb, hx, ho⟩
  · rintro w' t' g' o' A' c' s r ⟨⟨B, k, B', k', hv⟩, hg, hm, he, hs, hp, hc, h63, hz, hb, hx, ho⟩ hend
    by_cases hneg : placeT t' s < 0
    · rw [he, getT_neg hneg]
      exact (getc_none (placeT t' s) hneg _ _ gF w' hx ho).mono fun e w2 h => h.from hb
    · have hr : r = [] := hend.resolve_left hneg
      subst hr
      have hn : 0 ≤ placeT t' s := by omega
      have hj := placeT_lt (may_nl hm) hn
      rw [he, getT_pos hn hj]
      have := (getc_some S t' g' o' B k B' k' (placeT t' s).toNat hj (.slice A' ([] : List ByteArray).length.succ c') gF w' hv hg hS hx ho).mono fun e w2 h => h.from hb
      rw [Int.toNat_of_nonneg hn] at this
      exact this
def tgotT (t : VT) (p : List ByteArray) : Option VT := if wrongT t p = 0 then getT t p else none
/-- What Get answers. -/
def TGetR (t : VT) (p : List ByteArray) (w : World) (e : Ending) (w' : World) : Prop :=
  ∃ v, e = .returned (.tuple #[v, .bool (tgotT t p).isSome]) ∧ LV w' (New w.heap.size w') ((tgotT t p).getD (.mk 0 0 ⟨#[]⟩ [] [])) v ∧ Below w.heap.size w w'
theorem tget_end {w w5 : World} {t u : VT} {p : List ByteArray} {ok : Bool} {c0 c1 c2 c3 c4 : Value} (hb : Below w.heap.size w w5) (hv : LV w5 (fun b => w.heap.size + 1 < b ∧ b < w5.heap.size) u (.agg #[c0, c1, c2, c3, c4])) (hg : (tgotT t p).getD (.mk 0 0 ⟨#[]⟩ [] []) = u) (hok : ok = (tgotT t p).isSome) :
    TGetR t p w (.returned (.tuple #[.agg #[c0, c1, c2, c3, c4], .bool ok])) (five w5 (w.heap.size + 1) 0 c0 c1 c2 c3 c4) := by
  have hr5 := five_rest w5 (w.heap.size + 1) 0 c0 c1 c2 c3 c4
  have hk := five_other w5 (w.heap.size + 1) 0 c0 c1 c2 c3 c4
  have hz := five_size w5 (w.heap.size + 1) 0 c0 c1 c2 c3 c4
  subst hg hok
  exact ⟨_, rfl, (hv.keep fun b hb' => hk b (by have := hb'.1; omega)).imp fun b hb' => ⟨by have := hb'.1; omega, by rw [hz]; exact hb'.2⟩,
    ⟨hr5.1.trans hb.os, hr5.2.1.trans hb.tape, hr5.2.2.trans hb.output, by rw [hz]; exact hb.size, fun b hb' => (hk b (by omega)).trans (hb.block b hb')⟩⟩
theorem wrong_zero {t : VT} {p : List ByteArray} (h : 0 = wrongT t p) : mayT t = true ∧ t.kind = 7 ∧ mayP p = true := by
  unfold wrongT at h
  cases hd : docB t with
  | false => rw [hd] at h; simp at h
  | true =>
    cases hp : mayP p with
    | false => rw [hd, hp] at h; simp at h
    | true =>
      unfold docB at hd
      simp only [Bool.and_eq_true, decide_eq_true_eq] at hd
      exact ⟨hd.2, hd.1, rfl⟩
theorem mayP_ne {p : List ByteArray} (h : mayP p = true) : p ≠ [] := by
  rintro rfl
  unfold mayP at h
  simp at h
theorem strs_sizes {w : World} {S : Nat → Prop} {A : Option Addr} {p : List ByteArray} (h : StrsAt w S A p) : ∀ s ∈ p, s.size ≤ 140737488351232 := by
  intro s hs
  obtain ⟨i, hi, rfl⟩ := List.mem_iff_getElem.1 hs
  obtain ⟨b, off, -, -, hx⟩ := h (by omega)
  exact (hx i hi).2
set_option maxHeartbeats 4000000 in
set_option maxRecDepth 100000 in
theorem tget_any (S : Nat → Prop) (t : VT) (v : Value) (A : Option Addr) (c : Nat) (p : List ByteArray) (w : World) (hS : ∀ b, S b → b < w.heap.size) (h : LV w S t v) (hd : depthT t ≤ 4611686018427387903) (hp : StrsAt w S A p) (hn : p.length ≤ 140737488351232) (hpc : p.length ≤ c) (h63 : c ≤ 9223372036854775807) :
    Calls Try.prog 10 #[v, .slice A p.length c] w (TGetR t p w) := by
  obtain ⟨A0, c0, A0', c0', rfl, -, -, -, v1, hb0⟩ := one_var hS h
  have HX := Lib.hid v1.x
  have HB := Lib.hid hb0
  have HP := Lib.hid hp
  have HV := Lib.hid h
  have HD := Lib.hid hd
  clear h v1 hb0 hp hd
  go_enter Try.func10, Try.ntmps10
  go_wp2_with fail
  have hz1 : (w.alloc (.cells #[.int .i64 t.kind, .int .i64 t.num, .string t.text, .slice A0 t.items.length c0, .slice A0' t.names.length c0'] 25)).heap.size = w.heap.size + 1 := by simp
  have hB0 : Below w.heap.size w ((w.alloc (.cells #[.int .i64 t.kind, .int .i64 t.num, .string t.text, .slice A0 t.items.length c0, .slice A0' t.names.length c0'] 25)).alloc (.cells #[.int .i64 0, .int .i64 0, .string ⟨#[]⟩, .slice none 0 0, .slice none 0 0] 25)) := HB.out.alloc (by omega) _
  have hX0 := HX.out.alloc (.cells #[.int .i64 0, .int .i64 0, .string ⟨#[]⟩, .slice none 0 0, .slice none 0 0] 25)
  have hR0 : Box ((w.alloc (.cells #[.int .i64 t.kind, .int .i64 t.num, .string t.text, .slice A0 t.items.length c0, .slice A0' t.names.length c0'] 25)).alloc (.cells #[.int .i64 0, .int .i64 0, .string ⟨#[]⟩, .slice none 0 0, .slice none 0 0] 25)) (w.heap.size + 1) (.int .i64 0) (.int .i64 0) (.string ⟨#[]⟩) (.slice none 0 0) (.slice none 0 0) := by
    have h := Box.new (w := w.alloc (.cells #[.int .i64 t.kind, .int .i64 t.num, .string t.text, .slice A0 t.items.length c0, .slice A0' t.names.length c0'] 25)) (.int .i64 0) (.int .i64 0) (.string ⟨#[]⟩) (.slice none 0 0) (.slice none 0 0)
    rw [hz1] at h
    exact h
  have hz2 : ((w.alloc (.cells #[.int .i64 t.kind, .int .i64 t.num, .string t.text, .slice A0 t.items.length c0, .slice A0' t.names.length c0'] 25)).alloc (.cells #[.int .i64 0, .int .i64 0, .string ⟨#[]⟩, .slice none 0 0, .slice none 0 0] 25)).heap.size = w.heap.size + 2 := by simp
  have HCHK := Lib.hid (tcheck_any S t _ A c p _ (fun b hb => Nat.lt_of_lt_of_le (hS b hb) hB0.size) (HV.out.keep fun b hb => hB0.block b (hS b hb)) HD.out (HP.out.keep fun b hb => hB0.block b (hS b hb)) hn)
  have HB0 := Lib.hid hB0
  have HX0 := Lib.hid hX0
  have HR0 := Lib.hid hR0
  clear hB0 hX0 hR0 hz1 HB HX
  go_wp2_with fail
  refine HCHK.out.mono ?_
  rintro e w3 ⟨rfl, hb3⟩
  have HB3 := Lib.hid (HB0.out.trans (hb3.mono (by omega)))
  have HX3 := Lib.hid (HX0.out.call hb3)
  have HR3 := Lib.hid (HR0.out.call hb3)
  have hz3 : w.heap.size + 2 ≤ w3.heap.size := by have := hb3.size; omega
  clear hb3 HB0 HX0 HR0 HCHK hz2
  obtain ⟨W, hW⟩ : ∃ W, W = wrongT t p := ⟨_, rfl⟩
  rw [← hW]
  have HW := Lib.hid hW
  clear hW
  have rf := fun i => HR3.out.free i
  have r0 := HR3.out.c0
  have r1 := HR3.out.c1
  have r2 := HR3.out.c2
  have r3 := HR3.out.c3
  have r4 := HR3.out.c4
  by_cases h0 : W = 0
  rotate_left
  · have h1 : (W != 0) = true := by simp [h0]
    have hg : tgotT t p = none := by unfold tgotT; rw [if_neg (by rw [← HW.out]; exact h0)]
    have HG := Lib.hid hg
    clear hg h0
    go_wp2_with fail
    refine bodyPost_ret (results_cell_two rfl _ _ (w.heap.size + 1) 25 _ (0, 0) rfl (five_box HR3.out) (by kernel_rfl)) rfl ?_
    exact tget_end HB3.out (leaf_lv _ _ 0 0 ⟨#[]⟩ (by unfold Rng; omega) (by unfold Rng; omega) (by decide)) (by rw [HG.out]; rfl) (by rw [HG.out]; rfl)
  subst h0
  obtain ⟨hm, h7, hmp⟩ := wrong_zero HW.out
  have HM := Lib.hid hm
  have HMP := Lib.hid hmp
  have HGT : Hid (tgotT t p = getT t p) := Lib.hid (by unfold tgotT; rw [if_pos HW.out.symm])
  clear hm h7 hmp r0 r1 r2 r3 r4 rf
  go_wp2_with fail
  have hzf : (w3.alloc (.cells #[.int .i64 0, .int .i64 0, .string ⟨#[]⟩, .slice none 0 0, .slice none 0 0] 25)).heap.size = w3.heap.size + 1 := by simp
  have hBf : Below w3.heap.size w3 ((w3.alloc (.cells #[.int .i64 0, .int .i64 0, .string ⟨#[]⟩, .slice none 0 0, .slice none 0 0] 25)).alloc (.cells #[.bool false] 4)) := (below_box _).alloc (by omega) _
  have hXf : Box ((w3.alloc (.cells #[.int .i64 0, .int .i64 0, .string ⟨#[]⟩, .slice none 0 0, .slice none 0 0] 25)).alloc (.cells #[.bool false] 4)) w3.heap.size (.int .i64 0) (.int .i64 0) (.string ⟨#[]⟩) (.slice none 0 0) (.slice none 0 0) := (Box.new (w := w3) _ _ _ _ _).alloc _
  have hOf : ((w3.alloc (.cells #[.int .i64 0, .int .i64 0, .string ⟨#[]⟩, .slice none 0 0, .slice none 0 0] 25)).alloc (.cells #[.bool false] 4)).heap[w3.heap.size + 1]? = some (.cells #[.bool false] 4 (0, 0)) := by
    rw [← hzf]
    exact heap_alloc_new _ _
  generalize (w3.alloc (.cells #[.int .i64 0, .int .i64 0, .string ⟨#[]⟩, .slice none 0 0, .slice none 0 0] 25)).alloc (.cells #[.bool false] 4) = w4 at *
  have hB4 := HB3.out.trans (hBf.mono (show w.heap.size ≤ w3.heap.size by omega))
  have hX4 := HX3.out.call hBf
  have hR4 := HR3.out.call hBf
  have hI : GetI S t p w3.heap.size w4 w4 t w.heap.size 0 A c p :=
    ⟨⟨_, _, _, _, AtV.of_box hX4 (HV.out.keep fun b hb => hB4.block b (hS b hb))⟩, by omega, HM.out, rfl, HP.out.keep fun b hb => hB4.block b (hS b hb), mayP_ne HMP.out, hpc, h63, strs_sizes HP.out, Below.refl _ _, hXf, hOf⟩
  have HB4 := Lib.hid hB4
  have HR4 := Lib.hid hR4
  have hz4 := hBf.size
  have HCALL := Lib.hid (getalong_any S t w.heap.size 0 A c p w3.heap.size w4 (fun b hb => by have := hS b hb; omega) hI)
  obtain ⟨gF, hgF⟩ : ∃ gF, gF = w3.heap.size := ⟨_, rfl⟩
  rw [← hgF] at HCALL ⊢
  rw [← hgF] at hz3
  clear hI hX4 hR4 hB4 hXf hOf hBf hzf HX3 HR3 HB3 hz4 hgF
  refine HCALL.out.mono ?_
  rintro e w5 ⟨rfl, hb5, F, cF, F', cF', hx5, hv5, ho5⟩
  have HB5 := Lib.hid (HB4.out.trans (hb5.mono (show w.heap.size ≤ gF by omega)))
  have HR5 : Hid (Box w5 (w.heap.size + 1) _ _ _ _ _) := Lib.hid ((hb5.block _ (show w.heap.size + 1 < gF by omega)).trans HR4.out)
  rw [← HGT.out] at hx5 hv5 ho5
  have HV5 := Lib.hid hv5
  have HX5 := Lib.hid hx5
  have HO5 := Lib.hid ho5
  clear HCALL HR4 HB4 hb5 hx5 hv5 ho5 HV
  generalize hU : (tgotT t p).getD (.mk 0 0 ⟨#[]⟩ [] []) = u at *
  generalize hOK : (tgotT t p).isSome = ok at *
  have HU := Lib.hid hU
  have HOK := Lib.hid hOK
  clear hU hOK HGT
  go_wp2_with fail
  refine wp_region_OT (Keep2 (w.heap.size + 1) (w.heap.size + 1)) (Keep2.refl _ _) (Keep2.trans _ _) [] (.pure [0, 1] (.step 2 (.step 3 (.tail [])))) (by kernel_rfl) (by kernel_rfl) (fun _ d _ _ _ h => by cases d <;> exact h) ?_
  have hbd : Below w5.heap.size w5 w5.drew := (Below.refl _ _).drew
  have HB5 := Lib.hid (HB5.out.trans (hbd.mono (HB5.out.size)))
  have HR5 := Lib.hid (HR5.out.call hbd)
  have HX5 := Lib.hid (HX5.out.call hbd)
  have HO5 : Hid (w5.drew.heap[gF + 1]? = some (.cells #[.bool ok] 4 (0, 0))) := Lib.hid HO5.out
  have HV5 : Hid (LV w5.drew (fun b => gF + 1 < b ∧ b < w5.drew.heap.size) u _) := Lib.hid (HV5.out.keep (w' := w5.drew) fun b hb => hbd.block b hb.2)
  clear hbd
  generalize w5.drew = w6 at *
  have hlF := HX5.out.lt
  have hlO : gF + 1 < w6.heap.size := (Array.getElem?_eq_some_iff.1 HO5.out).1
  have kf : ∀ (p : LaterR (Keep2 (w.heap.size + 1) (w.heap.size + 1)) w6) (i : Nat), p.u.cell? ⟨gF, i, none⟩ = w6.cell? ⟨gF, i, none⟩ := fun p i => World.cell?_of_block (a := ⟨gF, i, none⟩) (p.h.2 gF (by omega) (by omega) (by omega))
  have q0 := fun p : LaterR (Keep2 (w.heap.size + 1) (w.heap.size + 1)) w6 => (kf p 0).trans HX5.out.c0
  have q1 := fun p : LaterR (Keep2 (w.heap.size + 1) (w.heap.size + 1)) w6 => (kf p 1).trans HX5.out.c1
  have q2 := fun p : LaterR (Keep2 (w.heap.size + 1) (w.heap.size + 1)) w6 => (kf p 2).trans HX5.out.c2
  have q3 := fun p : LaterR (Keep2 (w.heap.size + 1) (w.heap.size + 1)) w6 => (kf p 3).trans HX5.out.c3
  have q4 := fun p : LaterR (Keep2 (w.heap.size + 1) (w.heap.size + 1)) w6 => (kf p 4).trans HX5.out.c4
  have q5 : ∀ p : LaterR (Keep2 (w.heap.size + 1) (w.heap.size + 1)) w6, p.u.cell? ⟨gF + 1, 0, none⟩ = some (.bool ok) := fun p => (World.cell?_of_block (a := ⟨gF + 1, 0, none⟩) (p.h.2 (gF + 1) (by omega) (by omega) (by omega))).trans (Go.Joins.cell_of_block HO5.out 0)
  clear kf
  refine ot_pure ?_
  simp only [atNats, List.filterMap_cons, List.filterMap_nil, List.getElem?_toArray, List.getElem?_cons_succ, List.getElem?_cons_zero]
  show wpQuiet _ _ _ _ [_, _] _
  try simp only [List.getElem_toArray, List.getElem_cons_succ, List.getElem_cons_zero, Act.put, List.setIfInBounds_toArray, List.set_cons_succ, List.set_cons_zero]
  repeat (go_big_quiet_step (fail))
  refine wpQuiet_nil ?_
  clear q0 q1 q2 q3 q4 q5
  have r0 := HR5.out.c0
  have r1 := HR5.out.c1
  have r2 := HR5.out.c2
  have r3 := HR5.out.c3
  have r4 := HR5.out.c4
  have rf := fun i => HR5.out.free i
  have hbox := five_box (c0 := .int .i64 u.kind) (c1 := .int .i64 u.num) (c2 := .string u.text) (c3 := .slice F u.items.length cF) (c4 := .slice F' u.names.length cF') HR5.out
  have hend := tget_end (p := p) (t := t) HB5.out (HV5.out.imp fun b hb => ⟨by have := hb.1; omega, hb.2⟩) HU.out HOK.out.symm
  have h5 := five_other w6 (w.heap.size + 1) 0 (.int .i64 u.kind) (.int .i64 u.num) (.string u.text) (.slice F u.items.length cF) (.slice F' u.names.length cF')
  have hz5 := five_size w6 (w.heap.size + 1) 0 (.int .i64 u.kind) (.int .i64 u.num) (.string u.text) (.slice F u.items.length cF) (.slice F' u.names.length cF')
  have HBOX := Lib.hid hbox
  have HEND := Lib.hid hend
  clear hbox hend
  refine ot_step rfl (fun K hK => ?_)
  go_simp
  refine hK _ (five w6 (w.heap.size + 1) 0 (.int .i64 u.kind) (.int .i64 u.num) (.string u.text) (.slice F u.items.length cF) (.slice F' u.names.length cF')) (.inr ⟨by omega, fun b hb hg hh => h5 b hg⟩) ?_
  clear hK K r0 r1 r2 r3 r4 rf h5 hz5 HR5 HX5 HO5 HV5
  generalize five w6 (w.heap.size + 1) 0 (.int .i64 u.kind) (.int .i64 u.num) (.string u.text) (.slice F u.items.length cF) (.slice F' u.names.length cF') = w7 at *
  refine ot_step rfl (fun K hK => ?_)
  go_simp
  refine hK _ _ (.inr (Keep2.refl _ _ _)) ?_
  clear hK K
  refine ot_end ?_
  go_wp2_with fail
  refine bodyPost_ret (results_cell_two rfl _ _ (w.heap.size + 1) 25 _ (0, 0) rfl HBOX.out (by kernel_rfl)) rfl ?_
  exact HEND.out
end Go.Proofs.Ytlddhpjokiphfaa

/- The program's Id. -/
namespace Go.Proofs.Ytlddhpjokiphfaa
set_option linter.unusedVariables false
set_option linter.unusedSimpArgs false
open Go.RowKit
def idP : List ByteArray := [⟨#[95, 105, 100]⟩]
set_option maxHeartbeats 4000000 in
set_option maxRecDepth 100000 in
theorem tid_any (S : Nat → Prop) (t : VT) (v : Value) (w : World) (hS : ∀ b, S b → b < w.heap.size) (h : LV w S t v) (hd : depthT t ≤ 4611686018427387903) :
    Calls Try.prog 11 #[v] w (TGetR t idP w) := by
  obtain ⟨A0, c0, A0', c0', rfl, -, -, -, v1, hb0⟩ := one_var hS h
  have HX := Lib.hid v1.x
  have HB := Lib.hid hb0
  have HV := Lib.hid h
  have HD := Lib.hid hd
  clear h v1 hb0 hd
  go_enter Try.func11, Try.ntmps11
  go_wp2_with fail
  have hz1 : (w.alloc (.cells #[.int .i64 t.kind, .int .i64 t.num, .string t.text, .slice A0 t.items.length c0, .slice A0' t.names.length c0'] 25)).heap.size = w.heap.size + 1 := by simp
  have hB0 : Below w.heap.size w ((w.alloc (.cells #[.int .i64 t.kind, .int .i64 t.num, .string t.text, .slice A0 t.items.length c0, .slice A0' t.names.length c0'] 25)).alloc (.cells #[.int .i64 0, .int .i64 0, .string ⟨#[]⟩, .slice none 0 0, .slice none 0 0] 25)) := HB.out.alloc (by omega) _
  have hX0 := HX.out.alloc (.cells #[.int .i64 0, .int .i64 0, .string ⟨#[]⟩, .slice none 0 0, .slice none 0 0] 25)
  have hR0 : Box ((w.alloc (.cells #[.int .i64 t.kind, .int .i64 t.num, .string t.text, .slice A0 t.items.length c0, .slice A0' t.names.length c0'] 25)).alloc (.cells #[.int .i64 0, .int .i64 0, .string ⟨#[]⟩, .slice none 0 0, .slice none 0 0] 25)) (w.heap.size + 1) (.int .i64 0) (.int .i64 0) (.string ⟨#[]⟩) (.slice none 0 0) (.slice none 0 0) := by
    have h := Box.new (w := w.alloc (.cells #[.int .i64 t.kind, .int .i64 t.num, .string t.text, .slice A0 t.items.length c0, .slice A0' t.names.length c0'] 25)) (.int .i64 0) (.int .i64 0) (.string ⟨#[]⟩) (.slice none 0 0) (.slice none 0 0)
    rw [hz1] at h
    exact h
  have hz2 : ((w.alloc (.cells #[.int .i64 t.kind, .int .i64 t.num, .string t.text, .slice A0 t.items.length c0, .slice A0' t.names.length c0'] 25)).alloc (.cells #[.int .i64 0, .int .i64 0, .string ⟨#[]⟩, .slice none 0 0, .slice none 0 0] 25)).heap.size = w.heap.size + 2 := by simp
  generalize (w.alloc (.cells #[.int .i64 t.kind, .int .i64 t.num, .string t.text, .slice A0 t.items.length c0, .slice A0' t.names.length c0'] 25)).alloc (.cells #[.int .i64 0, .int .i64 0, .string ⟨#[]⟩, .slice none 0 0, .slice none 0 0] 25) = w2 at *
  have q0 := hX0.c0
  have q1 := hX0.c1
  have q2 := hX0.c2
  have q3 := hX0.c3
  have q4 := hX0.c4
  have HB0 := Lib.hid hB0
  have HR0 := Lib.hid hR0
  clear hB0 hX0 hR0 hz1 HB HX
  go_wp2_with fail
  have hb4 : Below w2.heap.size w2 (w2.alloc (.cells #[.string ⟨#[95, 105, 100]⟩] 9)) := below_box _
  have hz4 : (w2.alloc (.cells #[.string ⟨#[95, 105, 100]⟩] 9)).heap.size = w.heap.size + 3 := by simp [hz2]
  have hs4 : (w2.alloc (.cells #[.string ⟨#[95, 105, 100]⟩] 9)).cell? ⟨w.heap.size + 1 + 1, 0, none⟩ = some (.string ⟨#[95, 105, 100]⟩) := by
    have := Go.Joins.cell_of_block (heap_alloc_new w2 (.cells #[.string ⟨#[95, 105, 100]⟩] 9)) 0
    rw [hz2] at this
    exact this
  generalize w2.alloc (.cells #[.string ⟨#[95, 105, 100]⟩] 9) = w4 at *
  have HB4 := Lib.hid (HB0.out.trans (hb4.mono (show w.heap.size ≤ w2.heap.size by omega)))
  have HR4 := Lib.hid (HR0.out.call hb4)
  have hst : StrsAt w4 (fun b => b < w4.heap.size) (some ⟨w.heap.size + 1 + 1, 0, none⟩) idP := fun _ => ⟨_, 0, rfl, by show _ < _; omega, fun i hi => by
    obtain rfl : i = 0 := by simp [idP] at hi; omega
    exact ⟨hs4, by simp [idP]; decide⟩⟩
  have HC := Lib.hid (tget_any (fun b => b < w4.heap.size) t _ _ 1 idP w4 (fun b hb => hb) ((HV.out.keep fun b hb => HB4.out.block b (hS b hb)).imp fun b hb => by have := hS b hb; omega) HD.out hst (by decide) (by decide) (by decide))
  clear hb4 hs4 hst HB0 HR0 q0 q1 q2 q3 q4 HV HD hz2
  refine HC.out.mono ?_
  rintro e w5 ⟨v', rfl, hv, hb5⟩
  obtain ⟨B, k, B', k', rfl, -⟩ := hv.shape
  have HB5 := Lib.hid (HB4.out.trans (hb5.mono (show w.heap.size ≤ w4.heap.size by omega)))
  have HR5 := Lib.hid (HR4.out.call hb5)
  have HV5 := Lib.hid (hv.imp (S' := fun b => w.heap.size + 1 < b ∧ b < w5.heap.size) fun b hb => ⟨by have := hb.1; omega, hb.2⟩)
  have rf := fun i => HR5.out.free i
  have r0 := HR5.out.c0
  have r1 := HR5.out.c1
  have r2 := HR5.out.c2
  have r3 := HR5.out.c3
  have r4 := HR5.out.c4
  generalize hU : (tgotT t idP).getD (.mk 0 0 ⟨#[]⟩ [] []) = u at *
  generalize hOK : (tgotT t idP).isSome = ok at *
  have HEND := Lib.hid (tget_end (p := idP) (t := t) HB5.out HV5.out hU hOK.symm)
  have HBOX := Lib.hid (five_box (c0 := .int .i64 u.kind) (c1 := .int .i64 u.num) (c2 := .string u.text) (c3 := .slice B u.items.length k) (c4 := .slice B' u.names.length k') HR5.out)
  clear hv hb5 HC HR4 HB4 hU hOK HV5 HB5 hz4
  go_wp2_with fail
  refine bodyPost_ret (results_cell_two rfl _ _ (w.heap.size + 1) 25 _ (0, 0) rfl HBOX.out (by kernel_rfl)) rfl ?_
  exact HEND.out
end Go.Proofs.Ytlddhpjokiphfaa
