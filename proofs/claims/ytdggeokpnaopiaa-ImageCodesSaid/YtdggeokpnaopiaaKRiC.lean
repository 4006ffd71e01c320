/- The document's own images: what is known of an index. -/
import Derived.Test.YtdggeokpnaopiaaKRiB
namespace Go.Proofs.Ytdggeokpnaopiaa
set_option linter.unusedVariables false
set_option linter.unusedSimpArgs false
open Go.RowKit
set_option maxRecDepth 100000
def RefI.got (r : RefI) (i : Int) : VT × Int × Int :=
  if i < 1 ∨ r.top < i then (zeroT, 0, 4)
  else if r.known i = false then (zeroT, 3, 0)
  else match r.l[(i - r.base - 1).toNat]? with
    | some (some t) => (t, 2, 0)
    | _ => (zeroT, 1, 0)
def GotS (w : World) (S : Nat → Prop) (g : VT × Int × Int) (e : Ending) (w' : World) : Prop := ∃ v, e = .returned (.tuple #[v, .int .i64 g.2.1, .int .i64 g.2.2]) ∧ LV w' S g.1 v ∧ Below w.heap.size w w'
theorem RIAt.item {w : World} {S : Nat → Prop} {B x : Nat} {r : RefI} (h : RIAt w S B x r) (k : Nat) (hk : k < r.l.length) :
    ∃ g c cs, w.cell? ⟨x, 2, none⟩ = some (.slice (some ⟨g, 0, none⟩) r.l.length c) ∧ OneL w S r.l[k] cs ∧ (∀ j v, cs[j]? = some v → w.cell? ⟨g, k * 6 + j, none⟩ = some v) := by
  obtain ⟨A, c, xs, h1, h2, h3⟩ := h
  obtain ⟨cs, h4, h5⟩ := h3.at k hk
  rcases h2.2 with ⟨-, h0⟩ | ⟨g, cap, cur, hs, hB, hh, hr⟩
  · omega
  · injection hs with e1 e2 e3
    subst e1 e3
    refine ⟨g, c, cs, Go.Joins.cell_of_block h1 2, h4, fun j v hv => ?_⟩
    have hj : j < 6 := by have := (List.getElem?_eq_some_iff.1 hv).1; have := h4.len; omega
    have h6 := h2.cells (g := g) rfl (k * 6 + j) v (by rw [h5 j hj]; exact hv)
    rw [add_at, Nat.zero_add] at h6
    exact h6
theorem sizeOne : (Try.prog.info? 71).map (·.size) = some 6 := by kernel_rfl
theorem setRow_drew_alloc (w : World) (c c' : Array Value) (t : TypeId) : ((w.alloc (.cells c t)).drew).setRow w.heap.size c' = (w.alloc (.cells c' t)).drew := congrArg World.drew (World.setRow_alloc_new w c c' t)
section
variable {w : World} {S : Nat → Prop} {B x : Nat} {r : RefI}
set_option maxHeartbeats 16000000 in
theorem rget16_any (h : RIAt w S B x r) (hf : r.Fine) (hS : ∀ b, S b → b < w.heap.size) (i : Int) (hi : -9223372036854775808 ≤ i ∧ i ≤ 9223372036854775807) : Calls Try.prog 40 #[.pointer (some ⟨x, 0, none⟩), .int .i64 i] w (GotS w S (r.got i)) := by
  have hx : Box (w.alloc (.cells #[.int .i64 0, .int .i64 0, .string ⟨#[]⟩, .slice none 0 0, .slice none 0 0] 36)) w.heap.size _ _ _ _ _ := Box.new _ _ _ _ _
  have hb1 : Below w.heap.size w (w.alloc (.cells #[.int .i64 0, .int .i64 0, .string ⟨#[]⟩, .slice none 0 0, .slice none 0 0] 36)) := (Below.refl _ _).alloc (Nat.le_refl _) _
  have hi1 := h.below hS hb1
  have HX := Lib.hid hx
  have HI := Lib.hid hi1
  have HB := Lib.hid hb1
  have HF := Lib.hid hf
  have HS := Lib.hid hS
  have HIN := Lib.hid hi
  obtain ⟨T, hT⟩ : ∃ a, a = r.top := ⟨_, rfl⟩
  obtain ⟨b, hb⟩ : ∃ a, a = r.base := ⟨_, rfl⟩
  obtain ⟨K, hK⟩ : ∃ a, a = r.known i := ⟨_, rfl⟩
  have HT := Lib.hid hT
  have HBB := Lib.hid hb
  have HK := Lib.hid hK
  have HG : Hid (r.got i = if i < 1 ∨ T < i then ((zeroT, 0, 4) : VT × Int × Int) else if K = false then (zeroT, 3, 0) else match r.l[(i - b - 1).toNat]? with
    | some (some t) => (t, 2, 0)
    | _ => (zeroT, 1, 0)) := Lib.hid (by rw [hT, hb, hK]; rfl)
  have HTOP : Hid (∀ W, RIAt W S B x r → Calls Try.prog 12 #[.pointer (some ⟨x, 0, none⟩)] W fun e w' => e = .returned (.int .i64 T) ∧ Below W.heap.size W w') := Lib.hid fun W hW => by rw [hT]; exact rtop16_any hW hf
  clear hx hb1 hi1 h hf hS hi hT hb hK
  generalize r.got i = R at *
  go_enter Try.func40, Try.ntmps40
  by_cases h1 : i < 1
  · go_wp2_with fail
    refine bodyPost_ret (results_cell_three rfl _ _ w.heap.size 36 _ (0, 0) rfl HX.out (by kernel_rfl)) rfl ?_
    rw [HG.out, if_pos (.inl h1)]
    exact ⟨_, rfl, zero_lv _ _, HB.out⟩
  go_wp2_with fail
  refine (HTOP.out _ HI.out).mono ?_
  rintro e w1 ⟨rfl, hb⟩
  have hx1 := HX.out.call hb
  have hi1 := HI.out.below (fun b hb => by have := HS.out b hb; simp; omega) hb
  have hb1 := HB.out.trans (hb.mono HB.out.size)
  have r0 := hx1.c0
  have r1 := hx1.c1
  have r2 := hx1.c2
  have r3 := hx1.c3
  have r4 := hx1.c4
  have rf : ∀ i, w1.frozen? ⟨w.heap.size, i, none⟩ = false := fun i => hx1.free i
  have HX1 := Lib.hid hx1
  have HI1 := Lib.hid hi1
  have HB1 := Lib.hid hb1
  clear hb hx1 hi1 hb1 HX HI HB HTOP
  have h1' : ¬ (i < 1) := by omega
  by_cases h2 : T < i
  · go_wp2_with fail
    refine bodyPost_ret (results_cell_three rfl _ _ w.heap.size 36 _ (0, 0) rfl (five_box HX1.out) (by kernel_rfl)) rfl ?_
    rw [HG.out, if_pos (.inr h2)]
    exact ⟨_, rfl, zero_lv _ _, five_below HB1.out (Nat.le_refl _) _ _ _ _ _ _⟩
  have HN := Lib.hid (show ¬ (i < 1 ∨ T < i) by omega)
  have h2' : ¬ (T < i) := by omega
  have HKN := Lib.hid (rknown_any HI1.out HF.out (fun b hb => Nat.lt_of_lt_of_le (HS.out b hb) HB1.out.size) i HIN.out)
  rw [← HK.out] at HKN
  clear r0 r1 r2 r3 r4 rf
  go_wp2_with fail
  refine HKN.out.mono ?_
  rintro e w2 ⟨rfl, hb⟩
  have hx2 := HX1.out.call hb
  have hi2 := HI1.out.below (fun b hb => Nat.lt_of_lt_of_le (HS.out b hb) HB1.out.size) hb
  have r0 := hx2.c0
  have r1 := hx2.c1
  have r2 := hx2.c2
  have r3 := hx2.c3
  have r4 := hx2.c4
  have rf : ∀ i, w2.frozen? ⟨w.heap.size, i, none⟩ = false := fun i => hx2.free i
  have HX2 := Lib.hid hx2
  have HI2 := Lib.hid hi2
  have HB2 := Lib.hid (HB1.out.trans (hb.mono HB1.out.size))
  clear hb hx2 hi2 HX1 HI1 HB1 HKN
  cases hKK : K with
  | false =>
    subst hKK
    go_wp2_with fail
    refine bodyPost_ret (results_cell_three rfl _ _ w.heap.size 36 _ (0, 0) rfl (five_box HX2.out) (by kernel_rfl)) rfl ?_
    rw [HG.out, if_neg HN.out, if_pos trivial]
    exact ⟨_, rfl, zero_lv _ _, five_below HB2.out (Nat.le_refl _) _ _ _ _ _ _⟩
  | true =>
    subst hKK
    have hkn : b < i ∧ i ≤ T := by
      have := HK.out
      unfold RefI.known at this
      simp only [Bool.true_eq, Bool.and_eq_true, decide_eq_true_eq] at this
      rw [HBB.out, HT.out]
      exact this.1
    obtain ⟨k, hk⟩ : ∃ k : Nat, i - b - 1 = (k : Int) := ⟨(i - b - 1).toNat, by omega⟩
    have hkl : k < r.l.length := by
      have := HT.out
      have := HBB.out
      unfold RefI.top at *
      omega
    have hG2 : R = match r.l[k]? with
      | some (some t) => ((t, 2, 0) : VT × Int × Int)
      | _ => (zeroT, 1, 0) := by rw [HG.out, if_neg HN.out, if_neg (by decide), hk]; rfl
    rw [List.getElem?_eq_getElem hkl] at hG2
    obtain ⟨g, c, cs, y2, hone, hat⟩ := HI2.out.item k hkl
    have y1 := HI2.out.c1
    rw [← HBB.out] at y1
    obtain ⟨n, hn⟩ : ∃ n, n = r.l.length := ⟨_, rfl⟩
    rw [← hn] at y2
    have b0 := HF.out.b0
    have b1 := HF.out.b1
    rw [← HBB.out] at b0 b1
    have hkn2 : k < n := by omega
    have hn2 := HF.out.n
    rw [← hn] at hn2
    have hwk : wrap64 (k : Int) = (k : Int) := by unfold wrap64; omega
    obtain ⟨o, ho⟩ : ∃ o, o = r.l[k] := ⟨_, rfl⟩
    rw [← ho] at hone hG2
    have HON := Lib.hid hone
    have HG2 := Lib.hid hG2
    clear hone hG2 ho hn hkl hkn
    cases o with
    | none =>
      have hcs : cs = [.bool false, .int .i64 0, .int .i64 0, .string eS, .slice none 0 0, .slice none 0 0] := HON.out
      have hgl : g < w2.heap.size := World.block_lt_of_cell? w2 ⟨g, k * 6 + 0, none⟩ (hat 0 _ (by rw [hcs]; rfl))
      obtain ⟨og, hog⟩ : ∃ og, w2.drew.heap[g]? = some og := ⟨_, Array.getElem?_eq_getElem hgl⟩
      obtain ⟨ox, hox⟩ : ∃ ox, w2.drew.heap[x]? = some ox := ⟨_, Array.getElem?_eq_getElem HI2.out.lt⟩
      have z1 := cell_ka hox (show w2.drew.cell? ⟨x, 1, none⟩ = _ from y1)
      have z2 := cell_ka hox (show w2.drew.cell? ⟨x, 2, none⟩ = _ from y2)
      have e0 := cell_ka hog (show w2.drew.cell? ⟨g, k * 6, none⟩ = _ from hat 0 _ (by rw [hcs]; rfl))
      have e1 := cell_ka hog (show w2.drew.cell? ⟨g, k * 6 + 1, none⟩ = _ from hat 1 _ (by rw [hcs]; rfl))
      have e2 := cell_ka hog (show w2.drew.cell? ⟨g, k * 6 + 2, none⟩ = _ from hat 2 _ (by rw [hcs]; rfl))
      have e3 := cell_ka hog (show w2.drew.cell? ⟨g, k * 6 + 3, none⟩ = _ from hat 3 _ (by rw [hcs]; rfl))
      have e4 := cell_ka hog (show w2.drew.cell? ⟨g, k * 6 + 4, none⟩ = _ from hat 4 _ (by rw [hcs]; rfl))
      have e5 := cell_ka hog (show w2.drew.cell? ⟨g, k * 6 + 5, none⟩ = _ from hat 5 _ (by rw [hcs]; rfl))
      have HX3 : Hid (Box w2 w.heap.size _ _ _ _ _) := Lib.hid HX2.out
      have HB3 := Lib.hid HB2.out
      clear hat hcs hog hox y1 y2 r0 r1 r2 r3 r4 rf HX2 HB2
      go_wp2_with fail
      refine wp_region_OT KeepA KeepA.refl KeepA.trans [14] (.pure [0, 1, 2, 3, 4, 5, 6, 7, 8, 9, 10, 11, 12] (.step 13 (.tail [14]))) (by kernel_rfl) (by kernel_rfl) (fun _ d _ _ _ h => by cases d <;> exact h) ?_
      refine ot_pure ?_
      simp only [atNats, List.filterMap_cons, List.filterMap_nil, List.getElem?_toArray, List.getElem?_cons_succ, List.getElem?_cons_zero]
      show wpQuiet _ _ _ _ [_, _, _, _, _, _, _, _, _, _, _, _, _] _
      repeat (go_big_quiet_step (fail))
      refine wpQuiet_nil ?_
      refine ot_step rfl (fun K hK => ?_)
      go_simp
      refine hK _ _ (.inr (KeepA.of ((Below.refl _ _).alloc (Nat.le_refl _) _))) ?_
      clear hK K
      refine ot_last rfl (fun K hK => ?_)
      rw [if_pos (wanted_none rfl)]
      refine wp_store_row 71 _ _ rfl w2.heap.size #[.bool false, .int .i64 0, .int .i64 0, .string eS, .slice none 0 0, .slice none 0 0] rfl rfl 71 _ (heap_alloc_new w2 _) sizeOne rfl (by simp [Value.oneCell']) ?_
      rw [setRow_drew_alloc]
      refine hK _ _ ?_
      clear hK K
      refine ot_end ?_
      clear z1 z2 e0 e1 e2 e3 e4 e5
      have hb4 : Below w2.heap.size w2 (w2.alloc (.cells #[.bool false, .int .i64 0, .int .i64 0, .string eS, .slice none 0 0, .slice none 0 0] 71)).drew := ((Below.refl _ _).alloc (Nat.le_refl _) _).drew
      have HB4 : Hid (Below w.heap.size w (w2.alloc (.cells #[.bool false, .int .i64 0, .int .i64 0, .string eS, .slice none 0 0, .slice none 0 0] 71)).drew) := Lib.hid (HB3.out.trans (hb4.mono HB3.out.size))
      have hx4 : Box (w2.alloc (.cells #[.bool false, .int .i64 0, .int .i64 0, .string eS, .slice none 0 0, .slice none 0 0] 71)).drew w.heap.size _ _ _ _ _ := HX3.out.call hb4
      have HX4 := Lib.hid hx4
      have HLT : Hid (w.heap.size < w2.heap.size) := Lib.hid HX3.out.lt
      have hot : (w2.alloc (.cells #[.bool false, .int .i64 0, .int .i64 0, .string eS, .slice none 0 0, .slice none 0 0] 71)).drew.heap[w2.heap.size]? = some (.cells #[.bool false, .int .i64 0, .int .i64 0, .string eS, .slice none 0 0, .slice none 0 0] 71 (0, 0)) := heap_alloc_new w2 _
      have o0 := Go.Joins.cell_of_block hot 0
      have o1 := Go.Joins.cell_of_block hot 1
      have o2 := Go.Joins.cell_of_block hot 2
      have o3 := Go.Joins.cell_of_block hot 3
      have o4 := Go.Joins.cell_of_block hot 4
      have o5 := Go.Joins.cell_of_block hot 5
      clear hot hb4 hx4
      generalize hw4 : (w2.alloc (.cells #[.bool false, .int .i64 0, .int .i64 0, .string eS, .slice none 0 0, .slice none 0 0] 71)).drew = w4 at *
      clear hw4
      have r0 := HX4.out.c0
      have r1 := HX4.out.c1
      have r2 := HX4.out.c2
      have r3 := HX4.out.c3
      have r4 := HX4.out.c4
      have rf : ∀ i, w4.frozen? ⟨w.heap.size, i, none⟩ = false := fun i => HX4.out.free i
      go_wp2_with fail
      refine bodyPost_ret (results_cell_three rfl _ _ w.heap.size 36 _ (0, 0) rfl (five_box HX4.out) (by kernel_rfl)) rfl ?_
      rw [HG2.out]
      exact ⟨_, rfl, zero_lv _ _, five_below HB4.out (Nat.le_refl _) _ _ _ _ _ _⟩
    | some t =>
      obtain ⟨v0, v1, v2, v3, v4, hcs, hlv⟩ : ∃ a b c d e, cs = [.bool true, a, b, c, d, e] ∧ LV w2 S t (.agg #[a, b, c, d, e]) := HON.out
      obtain ⟨A1, c1, A1', c1', hsh, -⟩ := hlv.shape
      simp only [Value.agg.injEq, Array.mk.injEq, List.cons.injEq, and_true] at hsh
      obtain ⟨rfl, rfl, rfl, rfl, rfl⟩ := hsh
      have HLV := Lib.hid hlv
      clear hlv
      have hgl : g < w2.heap.size := World.block_lt_of_cell? w2 ⟨g, k * 6 + 0, none⟩ (hat 0 _ (by rw [hcs]; rfl))
      obtain ⟨og, hog⟩ : ∃ og, w2.drew.heap[g]? = some og := ⟨_, Array.getElem?_eq_getElem hgl⟩
      obtain ⟨ox, hox⟩ : ∃ ox, w2.drew.heap[x]? = some ox := ⟨_, Array.getElem?_eq_getElem HI2.out.lt⟩
      have z1 := cell_ka hox (show w2.drew.cell? ⟨x, 1, none⟩ = _ from y1)
      have z2 := cell_ka hox (show w2.drew.cell? ⟨x, 2, none⟩ = _ from y2)
      have e0 := cell_ka hog (show w2.drew.cell? ⟨g, k * 6, none⟩ = _ from hat 0 _ (by rw [hcs]; rfl))
      have e1 := cell_ka hog (show w2.drew.cell? ⟨g, k * 6 + 1, none⟩ = _ from hat 1 _ (by rw [hcs]; rfl))
      have e2 := cell_ka hog (show w2.drew.cell? ⟨g, k * 6 + 2, none⟩ = _ from hat 2 _ (by rw [hcs]; rfl))
      have e3 := cell_ka hog (show w2.drew.cell? ⟨g, k * 6 + 3, none⟩ = _ from hat 3 _ (by rw [hcs]; rfl))
      have e4 := cell_ka hog (show w2.drew.cell? ⟨g, k * 6 + 4, none⟩ = _ from hat 4 _ (by rw [hcs]; rfl))
      have e5 := cell_ka hog (show w2.drew.cell? ⟨g, k * 6 + 5, none⟩ = _ from hat 5 _ (by rw [hcs]; rfl))
      have HX3 : Hid (Box w2 w.heap.size _ _ _ _ _) := Lib.hid HX2.out
      have HB3 := Lib.hid HB2.out
      clear hat hcs hog hox y1 y2 r0 r1 r2 r3 r4 rf HX2 HB2
      go_wp2_with fail
      refine wp_region_OT KeepA KeepA.refl KeepA.trans [14] (.pure [0, 1, 2, 3, 4, 5, 6, 7, 8, 9, 10, 11, 12] (.step 13 (.tail [14]))) (by kernel_rfl) (by kernel_rfl) (fun _ d _ _ _ h => by cases d <;> exact h) ?_
      refine ot_pure ?_
      simp only [atNats, List.filterMap_cons, List.filterMap_nil, List.getElem?_toArray, List.getElem?_cons_succ, List.getElem?_cons_zero]
      show wpQuiet _ _ _ _ [_, _, _, _, _, _, _, _, _, _, _, _, _] _
      repeat (go_big_quiet_step (fail))
      refine wpQuiet_nil ?_
      refine ot_step rfl (fun K hK => ?_)
      go_simp
      refine hK _ _ (.inr (KeepA.of ((Below.refl _ _).alloc (Nat.le_refl _) _))) ?_
      clear hK K
      refine ot_last rfl (fun K hK => ?_)
      rw [if_pos (wanted_none rfl)]
      refine wp_store_row 71 _ _ rfl w2.heap.size #[.bool true, .int .i64 t.kind, .int .i64 t.num, .string t.text, .slice A1 t.items.length c1, .slice A1' t.names.length c1'] rfl rfl 71 _ (heap_alloc_new w2 _) sizeOne rfl (by simp [Value.oneCell']) ?_
      rw [setRow_drew_alloc]
      refine hK _ _ ?_
      clear hK K
      refine ot_end ?_
      clear z1 z2 e0 e1 e2 e3 e4 e5
      have hb4 : Below w2.heap.size w2 (w2.alloc (.cells #[.bool true, .int .i64 t.kind, .int .i64 t.num, .string t.text, .slice A1 t.items.length c1, .slice A1' t.names.length c1'] 71)).drew := ((Below.refl _ _).alloc (Nat.le_refl _) _).drew
      have HB4 : Hid (Below w.heap.size w (w2.alloc (.cells #[.bool true, .int .i64 t.kind, .int .i64 t.num, .string t.text, .slice A1 t.items.length c1, .slice A1' t.names.length c1'] 71)).drew) := Lib.hid (HB3.out.trans (hb4.mono HB3.out.size))
      have hx4 : Box (w2.alloc (.cells #[.bool true, .int .i64 t.kind, .int .i64 t.num, .string t.text, .slice A1 t.items.length c1, .slice A1' t.names.length c1'] 71)).drew w.heap.size _ _ _ _ _ := HX3.out.call hb4
      have HX4 := Lib.hid hx4
      have HLT : Hid (w.heap.size < w2.heap.size) := Lib.hid HX3.out.lt
      have hot : (w2.alloc (.cells #[.bool true, .int .i64 t.kind, .int .i64 t.num, .string t.text, .slice A1 t.items.length c1, .slice A1' t.names.length c1'] 71)).drew.heap[w2.heap.size]? = some (.cells #[.bool true, .int .i64 t.kind, .int .i64 t.num, .string t.text, .slice A1 t.items.length c1, .slice A1' t.names.length c1'] 71 (0, 0)) := heap_alloc_new w2 _
      have o0 := Go.Joins.cell_of_block hot 0
      have o1 := Go.Joins.cell_of_block hot 1
      have o2 := Go.Joins.cell_of_block hot 2
      have o3 := Go.Joins.cell_of_block hot 3
      have o4 := Go.Joins.cell_of_block hot 4
      have o5 := Go.Joins.cell_of_block hot 5
      have HLV4 : Hid (LV (w2.alloc (.cells #[.bool true, .int .i64 t.kind, .int .i64 t.num, .string t.text, .slice A1 t.items.length c1, .slice A1' t.names.length c1'] 71)).drew S t _) := Lib.hid (HLV.out.keep fun b hb => hb4.block b (Nat.lt_of_lt_of_le (HS.out b hb) (Nat.le_of_lt HLT.out)))
      clear hot hb4 hx4 HLV
      generalize hw4 : (w2.alloc (.cells #[.bool true, .int .i64 t.kind, .int .i64 t.num, .string t.text, .slice A1 t.items.length c1, .slice A1' t.names.length c1'] 71)).drew = w4 at *
      clear hw4
      have r0 := HX4.out.c0
      have r1 := HX4.out.c1
      have r2 := HX4.out.c2
      have r3 := HX4.out.c3
      have r4 := HX4.out.c4
      have rf : ∀ i, w4.frozen? ⟨w.heap.size, i, none⟩ = false := fun i => HX4.out.free i
      go_wp2_with fail
      refine bodyPost_ret (results_cell_three rfl _ _ w.heap.size 36 _ (0, 0) rfl (five_box HX4.out) (by kernel_rfl)) rfl ?_
      rw [HG2.out]
      refine ⟨_, rfl, ?_, five_below HB4.out (Nat.le_refl _) _ _ _ _ _ _⟩
      exact HLV4.out.keep (w' := five w4 w.heap.size 0 _ _ _ _ _) fun b hb => five_other _ _ _ _ _ _ _ _ b (by have := HS.out b hb; omega)
end
end Go.Proofs.Ytdggeokpnaopiaa
