/- What is asked of every program at the fifth layer comes. -/
import Derived.Test.YtlddhpjokiphfaaKTsE
namespace Go.Proofs.Ytlddhpjokiphfaa
set_option linter.unusedVariables false
set_option linter.unusedSimpArgs false
open Go.RowKit Go.Sort
theorem tget_at (S : Nat → Prop) (t : VT) (v : Value) (b : Nat) (p : List ByteArray) (ok : Bool) (u : VT) (w : World) (hS : ∀ b, S b → b < w.heap.size) (h : LV w S t v) (hd : depthT t ≤ 4611686018427387903) (hb : w.heap[b]? = some (.cells (p.map Value.string).toArray 9 (0, 0))) (hs : ∀ s ∈ p, s.size ≤ 140737488351232) (hl : p.length ≤ 8)
    (h1 : (tgotT t p).isSome = ok) (h2 : (tgotT t p).getD (.mk 0 0 ⟨#[]⟩ [] []) = u) :
    Calls Try.prog 10 #[v, .slice (some ⟨b, 0, none⟩) p.length p.length] w fun e w' => ∃ E e1 E' e2, e = .returned (.tuple #[agg5 u E e1 E' e2, .bool ok]) ∧ LV w' (Iv w.heap.size w'.heap.size) u (agg5 u E e1 E' e2) ∧ Below w.heap.size w w' := by
  refine (tget_any (fun q => q < w.heap.size) t v _ _ p w (fun _ h => h) (h.imp hS) hd (strs_row hb hs) (by omega) (Nat.le_refl _) (by omega)).mono ?_
  rintro e w' ⟨v', rfl, hv, hb'⟩
  rw [h2] at hv
  rw [h1]
  obtain ⟨E, e1, E', e2, rfl, -⟩ := hv.shape
  exact ⟨E, e1, E', e2, rfl, hv.imp fun b hb => ⟨hb.1, hb.2⟩, hb'⟩
theorem dep_v3 : depthT vD ≤ 3 := by
  have h : depthT vD = 3 := by kernel_rfl
  rw [h]; exact Nat.le_refl _
theorem change_at {res : Int × VT} {w w' : World} {e : Ending} {code : Int} {R : VT} (h : ChangeR res w e w') (hr : res = (code, R)) : ∃ E e1 E' e2, e = .returned (.tuple #[agg5 R E e1 E' e2, .int .i64 code]) ∧ LV w' (Iv w.heap.size w'.heap.size) R (agg5 R E e1 E' e2) ∧ Below w.heap.size w w' := by
  subst hr
  obtain ⟨v, rfl, hv, hb⟩ := h
  obtain ⟨E, e1, E', e2, rfl, -⟩ := hv.shape
  exact ⟨E, e1, E', e2, rfl, hv, hb⟩
set_option maxHeartbeats 16000000 in
set_option maxRecDepth 100000 in
theorem lives5_any (w : World) : Calls Try.prog 9 #[] w fun e w' => e = .returned (.bool true) ∧ Below w.heap.size w w' := by
  go_enter Try.func9, Try.ntmps9
  go_wp2_with fail
  have hb1 : Below w.heap.size w (w.alloc (.cells #[.int .i64 3, .int .i64 5, .string ⟨#[]⟩, .slice none 0 0, .slice none 0 0] 25)) := below_box _
  have h1x : Box (w.alloc (.cells #[.int .i64 3, .int .i64 5, .string ⟨#[]⟩, .slice none 0 0, .slice none 0 0] 25)) w.heap.size (.int .i64 3) (.int .i64 5) (.string ⟨#[]⟩) (.slice none 0 0) (.slice none 0 0) := Box.new _ _ _ _ _
  have h1xl := h1x.lt
  generalize w.alloc (.cells #[.int .i64 3, .int .i64 5, .string ⟨#[]⟩, .slice none 0 0, .slice none 0 0] 25) = w1 at *
  have HB := hb1
  clear hb1
  have h1xl := h1x.lt
  refine wp_region_inv (fun a0 L a u => ∃ x0 x1 x2 x3 x4 x5 x6 x7 x9 B k B' k' S0 S3 g, a = (((((((((a0.put (some 20) x0).put (some 21) x1).put (some 22) x2).put (some 23) x3).put (some 19) x4).put (some 24) x5).put (some 25) x6).put (some 2) x7).put (some 3) x9) ∧ OrdL L ∧ RegJ vD (0) [⟨#[98]⟩, ⟨#[99]⟩] w1 L u x0 x1 x2 x3 x4 x5 x6 x7 x9 B k B' k' S0 S3 g) (by kernel_rfl) (by kernel_rfl) ?_ ?_ ?_
  · exact ⟨undef, undef, undef, undef, undef, undef, undef, undef, undef, none, 0, none, 0, _, _, 0, by simp only [Act.put, List.setIfInBounds_toArray, List.set_cons_succ, List.set_cons_zero], OrdL.start, RegJ.start _⟩
  · rintro L a1 u i o ho hL hd ⟨x0, x1, x2, x3, x4, x5, x6, x7, x9, B, k, B', k', S0, S3, g, rfl, hord, hj⟩
    have hil : i < 10 := (Array.getElem?_eq_some_iff.1 ho).1
    have hjx := hj.hb
    match i, ho, hL, hil with
    | 0, ho, hL, hil =>
      simp only [List.getElem?_toArray, List.getElem?_cons_zero, List.getElem?_cons_succ, Option.some.injEq] at ho
      subst ho
      refine inv_step rfl (fun K hK => ?_)
      simp only [Act.put, List.setIfInBounds_toArray, List.set_cons_succ, List.set_cons_zero]
      go_simp
      refine (one_any u).mono ?_
      rintro e u' ⟨A, c, A', c', rfl, hv, hb⟩
      exact hK _ _ ⟨oneV A c A' c', x1, x2, x3, x4, x5, x6, x7, x9, B, k, B', k', _, S3, g, by simp only [Act.put, List.setIfInBounds_toArray, List.set_cons_succ, List.set_cons_zero], hord.mark 0 (fun e => by cases e) (fun e => by cases e) (fun e => by cases e) (fun e => by cases e), hj.op0 hb hv⟩
    | 1, ho, hL, hil =>
      simp only [List.getElem?_toArray, List.getElem?_cons_zero, List.getElem?_cons_succ, Option.some.injEq] at ho
      subst ho
      refine inv_step rfl (fun K hK => ?_)
      simp only [Act.put, List.setIfInBounds_toArray, List.set_cons_succ, List.set_cons_zero]
      go_simp
      exact hK _ _ ⟨x0, .slice (some ⟨u.heap.size, 0, none⟩) 2 2, x2, x3, x4, x5, x6, x7, x9, B, k, B', k', S0, S3, g, by simp only [Act.put, List.setIfInBounds_toArray, List.set_cons_succ, List.set_cons_zero], hord.mark 1 (fun e => by cases e) (fun e => by cases e) (fun e => by cases e) (fun e => by cases e), hj.op1⟩
    | 2, ho, hL, hil =>
      simp only [List.getElem?_toArray, List.getElem?_cons_zero, List.getElem?_cons_succ, Option.some.injEq] at ho
      subst ho
      have y0 := (hjx.cell (p := ⟨w.heap.size, 0, none⟩) h1xl).trans h1x.c0
      have y1 := (hjx.cell (p := ⟨w.heap.size, 1, none⟩) h1xl).trans h1x.c1
      have y2 := (hjx.cell (p := ⟨w.heap.size, 2, none⟩) h1xl).trans h1x.c2
      have y3 := (hjx.cell (p := ⟨w.heap.size, 3, none⟩) h1xl).trans h1x.c3
      have y4 := (hjx.cell (p := ⟨w.heap.size, 4, none⟩) h1xl).trans h1x.c4
      refine inv_step rfl (fun K hK => ?_)
      simp only [Act.put, List.setIfInBounds_toArray, List.set_cons_succ, List.set_cons_zero]
      go_simp
      exact hK _ _ ⟨x0, x1, .agg #[.int .i64 3, .int .i64 5, .string ⟨#[]⟩, .slice none 0 0, .slice none 0 0], x3, x4, x5, x6, x7, x9, B, k, B', k', S0, S3, g, by simp only [Act.put, List.setIfInBounds_toArray, List.set_cons_succ, List.set_cons_zero], hord.mark 2 (fun e => by cases e) (fun e => by cases e) (fun e => by cases e) (fun e => by cases e), hj.op2⟩
    | 3, ho, hL, hil =>
      simp only [List.getElem?_toArray, List.getElem?_cons_zero, List.getElem?_cons_succ, Option.some.injEq] at ho
      subst ho
      have d0 : L 0 = true := hd ⟨0, .data⟩ (by simp) rfl
      have d1 : L 1 = true := hd ⟨1, .data⟩ (by simp) rfl
      have d2 : L 2 = true := hd ⟨2, .data⟩ (by simp) rfl
      have HSET := Lib.hid (hj.set d0 d1 d2 hL set_v (by simp; decide) (by decide))
      refine inv_step rfl (fun K hK => ?_)
      simp only [Act.put, List.setIfInBounds_toArray, List.set_cons_succ, List.set_cons_zero]
      go_simp
      refine HSET.out.mono ?_
      rintro e u' ⟨E, e1, E', e2, rfl, hv, hb⟩
      exact hK _ _ ⟨x0, x1, x2, .tuple #[agg5 vD E e1 E' e2, .int .i64 0], x4, x5, x6, x7, x9, E, e1, E', e2, S0, _, g, by simp only [Act.put, List.setIfInBounds_toArray, List.set_cons_succ, List.set_cons_zero], hord.mark 3 (fun e => by cases e) (fun e => by cases e) (fun e => by cases e) (fun e => by cases e), hj.op3 hL hord.1 hord.2.1 hb hv⟩
    | 4, ho, hL, hil =>
      simp only [List.getElem?_toArray, List.getElem?_cons_zero, List.getElem?_cons_succ, Option.some.injEq] at ho
      subst ho
      have d3 : L 3 = true := hd ⟨3, .data⟩ (by simp) rfl
      refine inv_step rfl (fun K hK => ?_)
      simp only [Act.put, List.setIfInBounds_toArray, List.set_cons_succ, List.set_cons_zero]
      go_simp
      exact hK _ _ ⟨x0, x1, x2, x3, x3, x5, x6, x7, x9, B, k, B', k', S0, S3, g, by simp only [Act.put, List.setIfInBounds_toArray, List.set_cons_succ, List.set_cons_zero], hord.mark 4 (fun _ => d3) (fun e => by cases e) (fun e => by cases e) (fun e => by cases e), hj.op4⟩
    | 5, ho, hL, hil =>
      simp only [List.getElem?_toArray, List.getElem?_cons_zero, List.getElem?_cons_succ, Option.some.injEq] at ho
      subst ho
      have d4 : L 4 = true := hd ⟨4, .data⟩ (by simp) rfl
      obtain rfl := hj.f4 d4
      obtain ⟨rfl, -⟩ := hj.f3 (hord.1 d4)
      refine inv_step rfl (fun K hK => ?_)
      simp only [Act.put, List.setIfInBounds_toArray, List.set_cons_succ, List.set_cons_zero]
      go_simp
      exact hK _ _ ⟨x0, x1, x2, _, _, agg5 vD B k B' k', x6, x7, x9, B, k, B', k', S0, S3, g, by simp only [Act.put, List.setIfInBounds_toArray, List.set_cons_succ, List.set_cons_zero], hord.mark 5 (fun e => by cases e) (fun _ => d4) (fun e => by cases e) (fun e => by cases e), hj.op5⟩
    | 6, ho, hL, hil =>
      simp only [List.getElem?_toArray, List.getElem?_cons_zero, List.getElem?_cons_succ, Option.some.injEq] at ho
      subst ho
      have d4 : L 4 = true := hd ⟨4, .data⟩ (by simp) rfl
      obtain rfl := hj.f4 d4
      obtain ⟨rfl, -⟩ := hj.f3 (hord.1 d4)
      refine inv_step rfl (fun K hK => ?_)
      simp only [Act.put, List.setIfInBounds_toArray, List.set_cons_succ, List.set_cons_zero]
      go_simp
      exact hK _ _ ⟨x0, x1, x2, _, _, x5, .int .i64 0, x7, x9, B, k, B', k', S0, S3, g, by simp only [Act.put, List.setIfInBounds_toArray, List.set_cons_succ, List.set_cons_zero], hord.mark 6 (fun e => by cases e) (fun e => by cases e) (fun _ => d4) (fun e => by cases e), hj.op6⟩
    | 7, ho, hL, hil =>
      simp only [List.getElem?_toArray, List.getElem?_cons_zero, List.getElem?_cons_succ, Option.some.injEq] at ho
      subst ho
      refine inv_step rfl (fun K hK => ?_)
      simp only [Act.put, List.setIfInBounds_toArray, List.set_cons_succ, List.set_cons_zero]
      go_simp
      exact hK _ _ ⟨x0, x1, x2, x3, x4, x5, x6, .pointer (some ⟨u.heap.size, 0, none⟩), x9, B, k, B', k', S0, S3, u.heap.size, by simp only [Act.put, List.setIfInBounds_toArray, List.set_cons_succ, List.set_cons_zero], hord.mark 7 (fun e => by cases e) (fun e => by cases e) (fun e => by cases e) (fun e => by cases e), hj.op7 (fun k => (hord.2.2.2 k).1) hL⟩
    | 8, ho, hL, hil =>
      simp only [List.getElem?_toArray, List.getElem?_cons_zero, List.getElem?_cons_succ, Option.some.injEq] at ho
      subst ho
      have d3 : L 3 = true := hd ⟨3, .chain⟩ (by simp) rfl
      have d5 : L 5 = true := hd ⟨5, .data⟩ (by simp) rfl
      have d7 : L 7 = true := hd ⟨7, .data⟩ (by simp) rfl
      obtain rfl := hj.f5 d5
      obtain ⟨rfl, hg1, hg2, hg3, hg4, -⟩ := hj.f7 d7
      have hbx := hg4 hL
      have y0 := hbx.c0
      have y1 := hbx.c1
      have y2 := hbx.c2
      have y3 := hbx.c3
      have y4 := hbx.c4
      have yf := fun i => hbx.free i
      refine inv_step rfl (fun K hK => ?_)
      simp only [Act.put, List.setIfInBounds_toArray, List.set_cons_succ, List.set_cons_zero]
      go_simp
      exact hK _ _ ⟨x0, x1, x2, x3, x4, agg5 vD B k B' k', x6, .pointer (some ⟨g, 0, none⟩), x9, B, k, B', k', S0, S3, g, by simp only [Act.put, List.setIfInBounds_toArray, List.set_cons_succ, List.set_cons_zero], hord.mark 8 (fun e => by cases e) (fun e => by cases e) (fun e => by cases e) (fun _ => ⟨d7, d3⟩), hj.op8 d3 d7 hL⟩
    | 9, ho, hL, hil =>
      simp only [List.getElem?_toArray, List.getElem?_cons_zero, List.getElem?_cons_succ, Option.some.injEq] at ho
      subst ho
      have d6 : L 6 = true := hd ⟨6, .data⟩ (by simp) rfl
      obtain rfl := hj.f6 d6
      refine inv_step rfl (fun K hK => ?_)
      simp only [Act.put, List.setIfInBounds_toArray, List.set_cons_succ, List.set_cons_zero]
      go_simp
      exact hK _ _ ⟨x0, x1, x2, x3, x4, x5, .int .i64 0, x7, .int .i64 0, B, k, B', k', S0, S3, g, by simp only [Act.put, List.setIfInBounds_toArray, List.set_cons_succ, List.set_cons_zero], hord.mark 9 (fun e => by cases e) (fun e => by cases e) (fun e => by cases e) (fun e => by cases e), hj.op9⟩
    | n + 10, ho, hL, hil => exact absurd hil (by omega)
  rintro L a1 u hall ⟨x0, x1, x2, x3, x4, x5, x6, x7, x9, B, k, B', k', S0, S3, g, rfl, -, hj⟩
  have hL : ∀ i, i < 10 → L i = true := hall
  obtain ⟨rfl, hv3, hS3⟩ := hj.f3 (hL 3 (by decide))
  obtain rfl := hj.f4 (hL 4 (by decide))
  obtain rfl := hj.f5 (hL 5 (by decide))
  obtain rfl := hj.f6 (hL 6 (by decide))
  obtain rfl := hj.f9 (hL 9 (by decide))
  obtain ⟨rfl, hg1, hg2, -, -, hg6⟩ := hj.f7 (hL 7 (by decide))
  have hx3 := hg6 (hL 8 (by decide))
  have hbu := hj.hb
  have hvr : Vr u S3 g vD B k B' k' := ⟨hx3, hv3, hS3⟩
  simp only [Act.put, List.setIfInBounds_toArray, List.set_cons_succ, List.set_cons_zero]
  clear hj hall hL hx3 hv3 hS3 hg6
  have hV := hvr
  clear hvr
  replace h1x := h1x.call hbu
  have h1xl := h1x.lt
  replace HB := HB.trans (hbu.mono HB.size)
  clear hbu hg1 hg2
  obtain ⟨w2, hw2⟩ : ∃ w2, w2 = u := ⟨_, rfl⟩
  subst hw2
  have y0 := hV.x.c0
  have y1 := hV.x.c1
  have y2 := hV.x.c2
  have y3 := hV.x.c3
  have y4 := hV.x.c4
  have yl := hV.x.lt
  go_wp2_with fail
  have hba : Below w2.heap.size w2 (w2.alloc (.cells #[.string ⟨#[98]⟩, .string ⟨#[99]⟩] 9)) := below_box _
  have hna := heap_alloc_new w2 (.cells #[.string ⟨#[98]⟩, .string ⟨#[99]⟩] 9)
  clear y0 y1 y2 y3 y4 yl
  replace hV := hV.call hba
  replace h1x := h1x.call hba
  have h1xl := h1x.lt
  replace HB := HB.trans (hba.mono HB.size)
  generalize w2.alloc (.cells #[.string ⟨#[98]⟩, .string ⟨#[99]⟩] 9) = wa at *
  have HC := Lib.hid (tget_at _ vD _ w2.heap.size [⟨#[98]⟩, ⟨#[99]⟩] true fiveT wa hV.s hV.v dep_v hna (by simp; decide) (by decide) (by rw [get_x]; rfl) (by rw [get_x]; rfl))
  refine HC.out.mono ?_
  rintro e w5 ⟨E, e1, E', e2, rfl, hv5, hb5⟩
  replace hV := hV.call hb5
  replace h1x := h1x.call hb5
  have h1xl := h1x.lt
  replace HB := HB.trans (hb5.mono HB.size)
  clear HC hb5
  clear hba hna
  go_wp2_with fail
  have hbn : Below w5.heap.size w5 (w5.alloc (.cells #[.int .i64 fiveT.kind, .int .i64 fiveT.num, .string fiveT.text, .slice E fiveT.items.length e1, .slice E' fiveT.names.length e2] 25)) := below_box _
  have hX : Vr (w5.alloc (.cells #[.int .i64 fiveT.kind, .int .i64 fiveT.num, .string fiveT.text, .slice E fiveT.items.length e1, .slice E' fiveT.names.length e2] 25)) (Iv _ w5.heap.size) w5.heap.size fiveT E e1 E' e2 := Vr.new (fun b hb => hb.2) hv5
  replace hV := hV.call hbn
  replace h1x := h1x.call hbn
  have h1xl := h1x.lt
  replace HB := HB.trans (hbn.mono HB.size)
  clear hbn hv5
  generalize w5.alloc (.cells #[.int .i64 fiveT.kind, .int .i64 fiveT.num, .string fiveT.text, .slice E fiveT.items.length e1, .slice E' fiveT.names.length e2] 25) = w6 at *
  generalize w5.heap.size = g5 at *
  have h1xl := h1x.lt
  refine wp_region_inv (fun a0 L a u => ∃ x0 x1 x2 x3 x4 x5 x6 x7 x9 B k B' k' S0 S3 g, a = (((((((((a0.put (some 33) x0).put (some 34) x1).put (some 35) x2).put (some 36) x3).put (some 32) x4).put (some 37) x5).put (some 38) x6).put (some 6) x7).put (some 7) x9) ∧ OrdL L ∧ RegJ nilT (40) [⟨#[97]⟩, ⟨#[98]⟩] w6 L u x0 x1 x2 x3 x4 x5 x6 x7 x9 B k B' k' S0 S3 g) (by kernel_rfl) (by kernel_rfl) ?_ ?_ ?_
  · exact ⟨undef, undef, undef, undef, undef, undef, undef, undef, undef, none, 0, none, 0, _, _, 0, by simp only [Act.put, List.setIfInBounds_toArray, List.set_cons_succ, List.set_cons_zero], OrdL.start, RegJ.start _⟩
  · rintro L a1 u i o ho hL hd ⟨x0, x1, x2, x3, x4, x5, x6, x7, x9, B, k, B', k', S0, S3, g, rfl, hord, hj⟩
    have hil : i < 10 := (Array.getElem?_eq_some_iff.1 ho).1
    have hjx := hj.hb
    match i, ho, hL, hil with
    | 0, ho, hL, hil =>
      simp only [List.getElem?_toArray, List.getElem?_cons_zero, List.getElem?_cons_succ, Option.some.injEq] at ho
      subst ho
      refine inv_step rfl (fun K hK => ?_)
      simp only [Act.put, List.setIfInBounds_toArray, List.set_cons_succ, List.set_cons_zero]
      go_simp
      refine (one_any u).mono ?_
      rintro e u' ⟨A, c, A', c', rfl, hv, hb⟩
      exact hK _ _ ⟨oneV A c A' c', x1, x2, x3, x4, x5, x6, x7, x9, B, k, B', k', _, S3, g, by simp only [Act.put, List.setIfInBounds_toArray, List.set_cons_succ, List.set_cons_zero], hord.mark 0 (fun e => by cases e) (fun e => by cases e) (fun e => by cases e) (fun e => by cases e), hj.op0 hb hv⟩
    | 1, ho, hL, hil =>
      simp only [List.getElem?_toArray, List.getElem?_cons_zero, List.getElem?_cons_succ, Option.some.injEq] at ho
      subst ho
      refine inv_step rfl (fun K hK => ?_)
      simp only [Act.put, List.setIfInBounds_toArray, List.set_cons_succ, List.set_cons_zero]
      go_simp
      exact hK _ _ ⟨x0, .slice (some ⟨u.heap.size, 0, none⟩) 2 2, x2, x3, x4, x5, x6, x7, x9, B, k, B', k', S0, S3, g, by simp only [Act.put, List.setIfInBounds_toArray, List.set_cons_succ, List.set_cons_zero], hord.mark 1 (fun e => by cases e) (fun e => by cases e) (fun e => by cases e) (fun e => by cases e), hj.op1⟩
    | 2, ho, hL, hil =>
      simp only [List.getElem?_toArray, List.getElem?_cons_zero, List.getElem?_cons_succ, Option.some.injEq] at ho
      subst ho
      have y0 := (hjx.cell (p := ⟨w.heap.size, 0, none⟩) h1xl).trans h1x.c0
      have y1 := (hjx.cell (p := ⟨w.heap.size, 1, none⟩) h1xl).trans h1x.c1
      have y2 := (hjx.cell (p := ⟨w.heap.size, 2, none⟩) h1xl).trans h1x.c2
      have y3 := (hjx.cell (p := ⟨w.heap.size, 3, none⟩) h1xl).trans h1x.c3
      have y4 := (hjx.cell (p := ⟨w.heap.size, 4, none⟩) h1xl).trans h1x.c4
      refine inv_step rfl (fun K hK => ?_)
      simp only [Act.put, List.setIfInBounds_toArray, List.set_cons_succ, List.set_cons_zero]
      go_simp
      exact hK _ _ ⟨x0, x1, .agg #[.int .i64 3, .int .i64 5, .string ⟨#[]⟩, .slice none 0 0, .slice none 0 0], x3, x4, x5, x6, x7, x9, B, k, B', k', S0, S3, g, by simp only [Act.put, List.setIfInBounds_toArray, List.set_cons_succ, List.set_cons_zero], hord.mark 2 (fun e => by cases e) (fun e => by cases e) (fun e => by cases e) (fun e => by cases e), hj.op2⟩
    | 3, ho, hL, hil =>
      simp only [List.getElem?_toArray, List.getElem?_cons_zero, List.getElem?_cons_succ, Option.some.injEq] at ho
      subst ho
      have d0 : L 0 = true := hd ⟨0, .data⟩ (by simp) rfl
      have d1 : L 1 = true := hd ⟨1, .data⟩ (by simp) rfl
      have d2 : L 2 = true := hd ⟨2, .data⟩ (by simp) rfl
      have HSET := Lib.hid (hj.set d0 d1 d2 hL set_f (by simp; decide) (by decide))
      refine inv_step rfl (fun K hK => ?_)
      simp only [Act.put, List.setIfInBounds_toArray, List.set_cons_succ, List.set_cons_zero]
      go_simp
      refine HSET.out.mono ?_
      rintro e u' ⟨E, e1, E', e2, rfl, hv, hb⟩
      exact hK _ _ ⟨x0, x1, x2, .tuple #[agg5 nilT E e1 E' e2, .int .i64 40], x4, x5, x6, x7, x9, E, e1, E', e2, S0, _, g, by simp only [Act.put, List.setIfInBounds_toArray, List.set_cons_succ, List.set_cons_zero], hord.mark 3 (fun e => by cases e) (fun e => by cases e) (fun e => by cases e) (fun e => by cases e), hj.op3 hL hord.1 hord.2.1 hb hv⟩
    | 4, ho, hL, hil =>
      simp only [List.getElem?_toArray, List.getElem?_cons_zero, List.getElem?_cons_succ, Option.some.injEq] at ho
      subst ho
      have d3 : L 3 = true := hd ⟨3, .data⟩ (by simp) rfl
      refine inv_step rfl (fun K hK => ?_)
      simp only [Act.put, List.setIfInBounds_toArray, List.set_cons_succ, List.set_cons_zero]
      go_simp
      exact hK _ _ ⟨x0, x1, x2, x3, x3, x5, x6, x7, x9, B, k, B', k', S0, S3, g, by simp only [Act.put, List.setIfInBounds_toArray, List.set_cons_succ, List.set_cons_zero], hord.mark 4 (fun _ => d3) (fun e => by cases e) (fun e => by cases e) (fun e => by cases e), hj.op4⟩
    | 5, ho, hL, hil =>
      simp only [List.getElem?_toArray, List.getElem?_cons_zero, List.getElem?_cons_succ, Option.some.injEq] at ho
      subst ho
      have d4 : L 4 = true := hd ⟨4, .data⟩ (by simp) rfl
      obtain rfl := hj.f4 d4
      obtain ⟨rfl, -⟩ := hj.f3 (hord.1 d4)
      refine inv_step rfl (fun K hK => ?_)
      simp only [Act.put, List.setIfInBounds_toArray, List.set_cons_succ, List.set_cons_zero]
      go_simp
      exact hK _ _ ⟨x0, x1, x2, _, _, agg5 nilT B k B' k', x6, x7, x9, B, k, B', k', S0, S3, g, by simp only [Act.put, List.setIfInBounds_toArray, List.set_cons_succ, List.set_cons_zero], hord.mark 5 (fun e => by cases e) (fun _ => d4) (fun e => by cases e) (fun e => by cases e), hj.op5⟩
    | 6, ho, hL, hil =>
      simp only [List.getElem?_toArray, List.getElem?_cons_zero, List.getElem?_cons_succ, Option.some.injEq] at ho
      subst ho
      have d4 : L 4 = true := hd ⟨4, .data⟩ (by simp) rfl
      obtain rfl := hj.f4 d4
      obtain ⟨rfl, -⟩ := hj.f3 (hord.1 d4)
      refine inv_step rfl (fun K hK => ?_)
      simp only [Act.put, List.setIfInBounds_toArray, List.set_cons_succ, List.set_cons_zero]
      go_simp
      exact hK _ _ ⟨x0, x1, x2, _, _, x5, .int .i64 40, x7, x9, B, k, B', k', S0, S3, g, by simp only [Act.put, List.setIfInBounds_toArray, List.set_cons_succ, List.set_cons_zero], hord.mark 6 (fun e => by cases e) (fun e => by cases e) (fun _ => d4) (fun e => by cases e), hj.op6⟩
    | 7, ho, hL, hil =>
      simp only [List.getElem?_toArray, List.getElem?_cons_zero, List.getElem?_cons_succ, Option.some.injEq] at ho
      subst ho
      refine inv_step rfl (fun K hK => ?_)
      simp only [Act.put, List.setIfInBounds_toArray, List.set_cons_succ, List.set_cons_zero]
      go_simp
      exact hK _ _ ⟨x0, x1, x2, x3, x4, x5, x6, .pointer (some ⟨u.heap.size, 0, none⟩), x9, B, k, B', k', S0, S3, u.heap.size, by simp only [Act.put, List.setIfInBounds_toArray, List.set_cons_succ, List.set_cons_zero], hord.mark 7 (fun e => by cases e) (fun e => by cases e) (fun e => by cases e) (fun e => by cases e), hj.op7 (fun k => (hord.2.2.2 k).1) hL⟩
    | 8, ho, hL, hil =>
      simp only [List.getElem?_toArray, List.getElem?_cons_zero, List.getElem?_cons_succ, Option.some.injEq] at ho
      subst ho
      have d3 : L 3 = true := hd ⟨3, .chain⟩ (by simp) rfl
      have d5 : L 5 = true := hd ⟨5, .data⟩ (by simp) rfl
      have d7 : L 7 = true := hd ⟨7, .data⟩ (by simp) rfl
      obtain rfl := hj.f5 d5
      obtain ⟨rfl, hg1, hg2, hg3, hg4, -⟩ := hj.f7 d7
      have hbx := hg4 hL
      have y0 := hbx.c0
      have y1 := hbx.c1
      have y2 := hbx.c2
      have y3 := hbx.c3
      have y4 := hbx.c4
      have yf := fun i => hbx.free i
      refine inv_step rfl (fun K hK => ?_)
      simp only [Act.put, List.setIfInBounds_toArray, List.set_cons_succ, List.set_cons_zero]
      go_simp
      exact hK _ _ ⟨x0, x1, x2, x3, x4, agg5 nilT B k B' k', x6, .pointer (some ⟨g, 0, none⟩), x9, B, k, B', k', S0, S3, g, by simp only [Act.put, List.setIfInBounds_toArray, List.set_cons_succ, List.set_cons_zero], hord.mark 8 (fun e => by cases e) (fun e => by cases e) (fun e => by cases e) (fun _ => ⟨d7, d3⟩), hj.op8 d3 d7 hL⟩
    | 9, ho, hL, hil =>
      simp only [List.getElem?_toArray, List.getElem?_cons_zero, List.getElem?_cons_succ, Option.some.injEq] at ho
      subst ho
      have d6 : L 6 = true := hd ⟨6, .data⟩ (by simp) rfl
      obtain rfl := hj.f6 d6
      refine inv_step rfl (fun K hK => ?_)
      simp only [Act.put, List.setIfInBounds_toArray, List.set_cons_succ, List.set_cons_zero]
      go_simp
      exact hK _ _ ⟨x0, x1, x2, x3, x4, x5, .int .i64 40, x7, .int .i64 40, B, k, B', k', S0, S3, g, by simp only [Act.put, List.setIfInBounds_toArray, List.set_cons_succ, List.set_cons_zero], hord.mark 9 (fun e => by cases e) (fun e => by cases e) (fun e => by cases e) (fun e => by cases e), hj.op9⟩
    | n + 10, ho, hL, hil => exact absurd hil (by omega)
  rintro L a1 u hall ⟨x0, x1, x2, x3, x4, x5, x6, x7, x9, B, k, B', k', S0, S3, g, rfl, -, hj⟩
  have hL : ∀ i, i < 10 → L i = true := hall
  obtain ⟨rfl, hv3, hS3⟩ := hj.f3 (hL 3 (by decide))
  obtain rfl := hj.f4 (hL 4 (by decide))
  obtain rfl := hj.f5 (hL 5 (by decide))
  obtain rfl := hj.f6 (hL 6 (by decide))
  obtain rfl := hj.f9 (hL 9 (by decide))
  obtain ⟨rfl, hg1, hg2, -, -, hg6⟩ := hj.f7 (hL 7 (by decide))
  have hx3 := hg6 (hL 8 (by decide))
  have hbu := hj.hb
  have hvr : Vr u S3 g nilT B k B' k' := ⟨hx3, hv3, hS3⟩
  simp only [Act.put, List.setIfInBounds_toArray, List.set_cons_succ, List.set_cons_zero]
  clear hj hall hL hx3 hv3 hS3 hg6
  have hF := hvr
  clear hvr
  replace hV := hV.call hbu
  replace hX := hX.call hbu
  replace h1x := h1x.call hbu
  have h1xl := h1x.lt
  replace HB := HB.trans (hbu.mono HB.size)
  clear hbu hg1 hg2
  obtain ⟨w2, hw2⟩ : ∃ w2, w2 = u := ⟨_, rfl⟩
  subst hw2
  have y0 := hV.x.c0
  have y1 := hV.x.c1
  have y2 := hV.x.c2
  have y3 := hV.x.c3
  have y4 := hV.x.c4
  have yl := hV.x.lt
  go_wp2_with fail
  have hba : Below w2.heap.size w2 (w2.alloc (.cells #[.string ⟨#[97]⟩] 9)) := below_box _
  have hna := heap_alloc_new w2 (.cells #[.string ⟨#[97]⟩] 9)
  clear y0 y1 y2 y3 y4 yl
  replace hV := hV.call hba
  replace hX := hX.call hba
  replace hF := hF.call hba
  replace h1x := h1x.call hba
  have h1xl := h1x.lt
  replace HB := HB.trans (hba.mono HB.size)
  generalize w2.alloc (.cells #[.string ⟨#[97]⟩] 9) = wa at *
  have HC := Lib.hid (tdropT_any (fun q => q < wa.heap.size) vD _ (some ⟨w2.heap.size, 0, none⟩) 1 [⟨#[97]⟩] wa (fun _ h => h) (hV.v.imp hV.s) dep_v (strs_row hna (by simp; decide)) (by decide) (by decide) (by decide))
  refine HC.out.mono ?_
  rintro e w5 hch
  obtain ⟨E, e1, E', e2, rfl, hv5, hb5⟩ := change_at hch drop_w
  clear hch
  replace hV := hV.call hb5
  replace hX := hX.call hb5
  replace hF := hF.call hb5
  replace h1x := h1x.call hb5
  have h1xl := h1x.lt
  replace HB := HB.trans (hb5.mono HB.size)
  clear HC hb5
  clear hba hna
  have y0 := hV.x.c0
  have y1 := hV.x.c1
  have y2 := hV.x.c2
  have y3 := hV.x.c3
  have y4 := hV.x.c4
  have yl := hV.x.lt
  go_wp2_with fail
  clear y0 y1 y2 y3 y4 yl
  have hz6 : (w5.alloc (.cells #[.int .i64 wD.kind, .int .i64 wD.num, .string wD.text, .slice E wD.items.length e1, .slice E' wD.names.length e2] 25)).heap.size = w5.heap.size + 1 := by simp
  have hbn : Below w5.heap.size w5 (w5.alloc (.cells #[.int .i64 wD.kind, .int .i64 wD.num, .string wD.text, .slice E wD.items.length e1, .slice E' wD.names.length e2] 25)) := below_box _
  have hW : Vr (w5.alloc (.cells #[.int .i64 wD.kind, .int .i64 wD.num, .string wD.text, .slice E wD.items.length e1, .slice E' wD.names.length e2] 25)) (Iv _ w5.heap.size) w5.heap.size wD E e1 E' e2 := Vr.new (fun b hb => hb.2) hv5
  replace hV := hV.call hbn
  replace hX := hX.call hbn
  replace hF := hF.call hbn
  replace h1x := h1x.call hbn
  have h1xl := h1x.lt
  replace HB := HB.trans (hbn.mono HB.size)
  clear hbn hv5
  generalize w5.alloc (.cells #[.int .i64 wD.kind, .int .i64 wD.num, .string wD.text, .slice E wD.items.length e1, .slice E' wD.names.length e2] 25) = w6 at *
  generalize w5.heap.size = g5 at *
  have hba : Below w6.heap.size w6 (w6.alloc (.cells #[.string ⟨#[97]⟩] 9)) := below_box _
  have hna := heap_alloc_new w6 (.cells #[.string ⟨#[97]⟩] 9)
  rw [hz6] at hna
  replace hV := hV.call hba
  replace hX := hX.call hba
  replace hF := hF.call hba
  replace hW := hW.call hba
  replace h1x := h1x.call hba
  have h1xl := h1x.lt
  replace HB := HB.trans (hba.mono HB.size)
  clear hba
  generalize w6.alloc (.cells #[.string ⟨#[97]⟩] 9) = wa at *
  have HC := Lib.hid (tcutT_any 0 (by decide) (fun q => q < wa.heap.size) vD _ (some ⟨g5 + 1, 0, none⟩) 1 [⟨#[97]⟩] wa (fun _ h => h) (hV.v.imp hV.s) dep_v (strs_row hna (by simp; decide)) (by decide) (by decide) (by decide))
  clear hz6
  clear hna
  refine HC.out.mono ?_
  rintro e w5 hch
  obtain ⟨E, e1, E', e2, rfl, hv5, hb5⟩ := change_at hch cut_c
  clear hch
  replace hV := hV.call hb5
  replace hX := hX.call hb5
  replace hF := hF.call hb5
  replace hW := hW.call hb5
  replace h1x := h1x.call hb5
  have h1xl := h1x.lt
  replace HB := HB.trans (hb5.mono HB.size)
  clear HC hb5
  go_wp2_with fail
  have hbn : Below w5.heap.size w5 (w5.alloc (.cells #[.int .i64 vD.kind, .int .i64 vD.num, .string vD.text, .slice E vD.items.length e1, .slice E' vD.names.length e2] 25)) := below_box _
  have hCu : Vr (w5.alloc (.cells #[.int .i64 vD.kind, .int .i64 vD.num, .string vD.text, .slice E vD.items.length e1, .slice E' vD.names.length e2] 25)) (Iv _ w5.heap.size) w5.heap.size vD E e1 E' e2 := Vr.new (fun b hb => hb.2) hv5
  replace hV := hV.call hbn
  replace hX := hX.call hbn
  replace hF := hF.call hbn
  replace hW := hW.call hbn
  replace h1x := h1x.call hbn
  have h1xl := h1x.lt
  replace HB := HB.trans (hbn.mono HB.size)
  clear hbn hv5
  generalize w5.alloc (.cells #[.int .i64 vD.kind, .int .i64 vD.num, .string vD.text, .slice E vD.items.length e1, .slice E' vD.names.length e2] 25) = w6 at *
  generalize w5.heap.size = g5 at *
  have h1xl := h1x.lt
  refine wp_region_inv (fun a0 L a u => ∃ x0 x1 x2 x3 x4 x5 x6 x7 x9 B k B' k' S0 S3 g, a = (((((((((a0.put (some 52) x0).put (some 53) x1).put (some 54) x2).put (some 55) x3).put (some 51) x4).put (some 56) x5).put (some 57) x6).put (some 12) x7).put (some 13) x9) ∧ OrdL L ∧ RegJ dD (0) [⟨#[95, 105, 100]⟩] w6 L u x0 x1 x2 x3 x4 x5 x6 x7 x9 B k B' k' S0 S3 g) (by kernel_rfl) (by kernel_rfl) ?_ ?_ ?_
  · exact ⟨undef, undef, undef, undef, undef, undef, undef, undef, undef, none, 0, none, 0, _, _, 0, by simp only [Act.put, List.setIfInBounds_toArray, List.set_cons_succ, List.set_cons_zero], OrdL.start, RegJ.start _⟩
  · rintro L a1 u i o ho hL hd ⟨x0, x1, x2, x3, x4, x5, x6, x7, x9, B, k, B', k', S0, S3, g, rfl, hord, hj⟩
    have hil : i < 10 := (Array.getElem?_eq_some_iff.1 ho).1
    have hjx := hj.hb
    match i, ho, hL, hil with
    | 0, ho, hL, hil =>
      simp only [List.getElem?_toArray, List.getElem?_cons_zero, List.getElem?_cons_succ, Option.some.injEq] at ho
      subst ho
      refine inv_step rfl (fun K hK => ?_)
      simp only [Act.put, List.setIfInBounds_toArray, List.set_cons_succ, List.set_cons_zero]
      go_simp
      refine (one_any u).mono ?_
      rintro e u' ⟨A, c, A', c', rfl, hv, hb⟩
      exact hK _ _ ⟨oneV A c A' c', x1, x2, x3, x4, x5, x6, x7, x9, B, k, B', k', _, S3, g, by simp only [Act.put, List.setIfInBounds_toArray, List.set_cons_succ, List.set_cons_zero], hord.mark 0 (fun e => by cases e) (fun e => by cases e) (fun e => by cases e) (fun e => by cases e), hj.op0 hb hv⟩
    | 1, ho, hL, hil =>
      simp only [List.getElem?_toArray, List.getElem?_cons_zero, List.getElem?_cons_succ, Option.some.injEq] at ho
      subst ho
      refine inv_step rfl (fun K hK => ?_)
      simp only [Act.put, List.setIfInBounds_toArray, List.set_cons_succ, List.set_cons_zero]
      go_simp
      exact hK _ _ ⟨x0, .slice (some ⟨u.heap.size, 0, none⟩) 1 1, x2, x3, x4, x5, x6, x7, x9, B, k, B', k', S0, S3, g, by simp only [Act.put, List.setIfInBounds_toArray, List.set_cons_succ, List.set_cons_zero], hord.mark 1 (fun e => by cases e) (fun e => by cases e) (fun e => by cases e) (fun e => by cases e), hj.op1⟩
    | 2, ho, hL, hil =>
      simp only [List.getElem?_toArray, List.getElem?_cons_zero, List.getElem?_cons_succ, Option.some.injEq] at ho
      subst ho
      have y0 := (hjx.cell (p := ⟨w.heap.size, 0, none⟩) h1xl).trans h1x.c0
      have y1 := (hjx.cell (p := ⟨w.heap.size, 1, none⟩) h1xl).trans h1x.c1
      have y2 := (hjx.cell (p := ⟨w.heap.size, 2, none⟩) h1xl).trans h1x.c2
      have y3 := (hjx.cell (p := ⟨w.heap.size, 3, none⟩) h1xl).trans h1x.c3
      have y4 := (hjx.cell (p := ⟨w.heap.size, 4, none⟩) h1xl).trans h1x.c4
      refine inv_step rfl (fun K hK => ?_)
      simp only [Act.put, List.setIfInBounds_toArray, List.set_cons_succ, List.set_cons_zero]
      go_simp
      exact hK _ _ ⟨x0, x1, .agg #[.int .i64 3, .int .i64 5, .string ⟨#[]⟩, .slice none 0 0, .slice none 0 0], x3, x4, x5, x6, x7, x9, B, k, B', k', S0, S3, g, by simp only [Act.put, List.setIfInBounds_toArray, List.set_cons_succ, List.set_cons_zero], hord.mark 2 (fun e => by cases e) (fun e => by cases e) (fun e => by cases e) (fun e => by cases e), hj.op2⟩
    | 3, ho, hL, hil =>
      simp only [List.getElem?_toArray, List.getElem?_cons_zero, List.getElem?_cons_succ, Option.some.injEq] at ho
      subst ho
      have d0 : L 0 = true := hd ⟨0, .data⟩ (by simp) rfl
      have d1 : L 1 = true := hd ⟨1, .data⟩ (by simp) rfl
      have d2 : L 2 = true := hd ⟨2, .data⟩ (by simp) rfl
      have HSET := Lib.hid (hj.set d0 d1 d2 hL set_d (by simp; decide) (by decide))
      refine inv_step rfl (fun K hK => ?_)
      simp only [Act.put, List.setIfInBounds_toArray, List.set_cons_succ, List.set_cons_zero]
      go_simp
      refine HSET.out.mono ?_
      rintro e u' ⟨E, e1, E', e2, rfl, hv, hb⟩
      exact hK _ _ ⟨x0, x1, x2, .tuple #[agg5 dD E e1 E' e2, .int .i64 0], x4, x5, x6, x7, x9, E, e1, E', e2, S0, _, g, by simp only [Act.put, List.setIfInBounds_toArray, List.set_cons_succ, List.set_cons_zero], hord.mark 3 (fun e => by cases e) (fun e => by cases e) (fun e => by cases e) (fun e => by cases e), hj.op3 hL hord.1 hord.2.1 hb hv⟩
    | 4, ho, hL, hil =>
      simp only [List.getElem?_toArray, List.getElem?_cons_zero, List.getElem?_cons_succ, Option.some.injEq] at ho
      subst ho
      have d3 : L 3 = true := hd ⟨3, .data⟩ (by simp) rfl
      refine inv_step rfl (fun K hK => ?_)
      simp only [Act.put, List.setIfInBounds_toArray, List.set_cons_succ, List.set_cons_zero]
      go_simp
      exact hK _ _ ⟨x0, x1, x2, x3, x3, x5, x6, x7, x9, B, k, B', k', S0, S3, g, by simp only [Act.put, List.setIfInBounds_toArray, List.set_cons_succ, List.set_cons_zero], hord.mark 4 (fun _ => d3) (fun e => by cases e) (fun e => by cases e) (fun e => by cases e), hj.op4⟩
    | 5, ho, hL, hil =>
      simp only [List.getElem?_toArray, List.getElem?_cons_zero, List.getElem?_cons_succ, Option.some.injEq] at ho
      subst ho
      have d4 : L 4 = true := hd ⟨4, .data⟩ (by simp) rfl
      obtain rfl := hj.f4 d4
      obtain ⟨rfl, -⟩ := hj.f3 (hord.1 d4)
      refine inv_step rfl (fun K hK => ?_)
      simp only [Act.put, List.setIfInBounds_toArray, List.set_cons_succ, List.set_cons_zero]
      go_simp
      exact hK _ _ ⟨x0, x1, x2, _, _, agg5 dD B k B' k', x6, x7, x9, B, k, B', k', S0, S3, g, by simp only [Act.put, List.setIfInBounds_toArray, List.set_cons_succ, List.set_cons_zero], hord.mark 5 (fun e => by cases e) (fun _ => d4) (fun e => by cases e) (fun e => by cases e), hj.op5⟩
    | 6, ho, hL, hil =>
      simp only [List.getElem?_toArray, List.getElem?_cons_zero, List.getElem?_cons_succ, Option.some.injEq] at ho
      subst ho
      have d4 : L 4 = true := hd ⟨4, .data⟩ (by simp) rfl
      obtain rfl := hj.f4 d4
      obtain ⟨rfl, -⟩ := hj.f3 (hord.1 d4)
      refine inv_step rfl (fun K hK => ?_)
      simp only [Act.put, List.setIfInBounds_toArray, List.set_cons_succ, List.set_cons_zero]
      go_simp
      exact hK _ _ ⟨x0, x1, x2, _, _, x5, .int .i64 0, x7, x9, B, k, B', k', S0, S3, g, by simp only [Act.put, List.setIfInBounds_toArray, List.set_cons_succ, List.set_cons_zero], hord.mark 6 (fun e => by cases e) (fun e => by cases e) (fun _ => d4) (fun e => by cases e), hj.op6⟩
    | 7, ho, hL, hil =>
      simp only [List.getElem?_toArray, List.getElem?_cons_zero, List.getElem?_cons_succ, Option.some.injEq] at ho
      subst ho
      refine inv_step rfl (fun K hK => ?_)
      simp only [Act.put, List.setIfInBounds_toArray, List.set_cons_succ, List.set_cons_zero]
      go_simp
      exact hK _ _ ⟨x0, x1, x2, x3, x4, x5, x6, .pointer (some ⟨u.heap.size, 0, none⟩), x9, B, k, B', k', S0, S3, u.heap.size, by simp only [Act.put, List.setIfInBounds_toArray, List.set_cons_succ, List.set_cons_zero], hord.mark 7 (fun e => by cases e) (fun e => by cases e) (fun e => by cases e) (fun e => by cases e), hj.op7 (fun k => (hord.2.2.2 k).1) hL⟩
    | 8, ho, hL, hil =>
      simp only [List.getElem?_toArray, List.getElem?_cons_zero, List.getElem?_cons_succ, Option.some.injEq] at ho
      subst ho
      have d3 : L 3 = true := hd ⟨3, .chain⟩ (by simp) rfl
      have d5 : L 5 = true := hd ⟨5, .data⟩ (by simp) rfl
      have d7 : L 7 = true := hd ⟨7, .data⟩ (by simp) rfl
      obtain rfl := hj.f5 d5
      obtain ⟨rfl, hg1, hg2, hg3, hg4, -⟩ := hj.f7 d7
      have hbx := hg4 hL
      have y0 := hbx.c0
      have y1 := hbx.c1
      have y2 := hbx.c2
      have y3 := hbx.c3
      have y4 := hbx.c4
      have yf := fun i => hbx.free i
      refine inv_step rfl (fun K hK => ?_)
      simp only [Act.put, List.setIfInBounds_toArray, List.set_cons_succ, List.set_cons_zero]
      go_simp
      exact hK _ _ ⟨x0, x1, x2, x3, x4, agg5 dD B k B' k', x6, .pointer (some ⟨g, 0, none⟩), x9, B, k, B', k', S0, S3, g, by simp only [Act.put, List.setIfInBounds_toArray, List.set_cons_succ, List.set_cons_zero], hord.mark 8 (fun e => by cases e) (fun e => by cases e) (fun e => by cases e) (fun _ => ⟨d7, d3⟩), hj.op8 d3 d7 hL⟩
    | 9, ho, hL, hil =>
      simp only [List.getElem?_toArray, List.getElem?_cons_zero, List.getElem?_cons_succ, Option.some.injEq] at ho
      subst ho
      have d6 : L 6 = true := hd ⟨6, .data⟩ (by simp) rfl
      obtain rfl := hj.f6 d6
      refine inv_step rfl (fun K hK => ?_)
      simp only [Act.put, List.setIfInBounds_toArray, List.set_cons_succ, List.set_cons_zero]
      go_simp
      exact hK _ _ ⟨x0, x1, x2, x3, x4, x5, .int .i64 0, x7, .int .i64 0, B, k, B', k', S0, S3, g, by simp only [Act.put, List.setIfInBounds_toArray, List.set_cons_succ, List.set_cons_zero], hord.mark 9 (fun e => by cases e) (fun e => by cases e) (fun e => by cases e) (fun e => by cases e), hj.op9⟩
    | n + 10, ho, hL, hil => exact absurd hil (by omega)
  rintro L a1 u hall ⟨x0, x1, x2, x3, x4, x5, x6, x7, x9, B, k, B', k', S0, S3, g, rfl, -, hj⟩
  have hL : ∀ i, i < 10 → L i = true := hall
  obtain ⟨rfl, hv3, hS3⟩ := hj.f3 (hL 3 (by decide))
  obtain rfl := hj.f4 (hL 4 (by decide))
  obtain rfl := hj.f5 (hL 5 (by decide))
  obtain rfl := hj.f6 (hL 6 (by decide))
  obtain rfl := hj.f9 (hL 9 (by decide))
  obtain ⟨rfl, hg1, hg2, -, -, hg6⟩ := hj.f7 (hL 7 (by decide))
  have hx3 := hg6 (hL 8 (by decide))
  have hbu := hj.hb
  have hvr : Vr u S3 g dD B k B' k' := ⟨hx3, hv3, hS3⟩
  simp only [Act.put, List.setIfInBounds_toArray, List.set_cons_succ, List.set_cons_zero]
  clear hj hall hL hx3 hv3 hS3 hg6
  have hD := hvr
  clear hvr
  replace hV := hV.call hbu
  replace hX := hX.call hbu
  replace hF := hF.call hbu
  replace hW := hW.call hbu
  replace hCu := hCu.call hbu
  replace h1x := h1x.call hbu
  have h1xl := h1x.lt
  replace HB := HB.trans (hbu.mono HB.size)
  clear hbu hg1 hg2
  obtain ⟨w2, hw2⟩ : ∃ w2, w2 = u := ⟨_, rfl⟩
  subst hw2
  have y0 := hD.x.c0
  have y1 := hD.x.c1
  have y2 := hD.x.c2
  have y3 := hD.x.c3
  have y4 := hD.x.c4
  have yl := hD.x.lt
  go_wp2_with fail
  clear y0 y1 y2 y3 y4 yl
  have HC := Lib.hid (tid_any (fun q => q < w2.heap.size) dD _ w2 (fun _ h => h) (hD.v.imp hD.s) dep_d)
  refine HC.out.mono ?_
  rintro e w5 ⟨v', rfl, hv', hb5⟩
  rw [get_id] at hv'
  rw [get_id]
  obtain ⟨E, e1, E', e2, rfl, -⟩ := hv'.shape
  have hv5 : LV w5 (Iv _ w5.heap.size) fiveT _ := hv'.imp fun b hb => ⟨hb.1, hb.2⟩
  clear hv'
  replace hV := hV.call hb5
  replace hX := hX.call hb5
  replace hF := hF.call hb5
  replace hW := hW.call hb5
  replace hCu := hCu.call hb5
  replace hD := hD.call hb5
  replace h1x := h1x.call hb5
  have h1xl := h1x.lt
  replace HB := HB.trans (hb5.mono HB.size)
  clear HC hb5
  have y0 := hW.x.c0
  have y1 := hW.x.c1
  have y2 := hW.x.c2
  have y3 := hW.x.c3
  have y4 := hW.x.c4
  have yl := hW.x.lt
  go_wp2_with fail
  clear y0 y1 y2 y3 y4 yl
  have hz6 : (w5.alloc (.cells #[.int .i64 fiveT.kind, .int .i64 fiveT.num, .string fiveT.text, .slice E fiveT.items.length e1, .slice E' fiveT.names.length e2] 25)).heap.size = w5.heap.size + 1 := by simp
  have hbn : Below w5.heap.size w5 (w5.alloc (.cells #[.int .i64 fiveT.kind, .int .i64 fiveT.num, .string fiveT.text, .slice E fiveT.items.length e1, .slice E' fiveT.names.length e2] 25)) := below_box _
  have hId : Vr (w5.alloc (.cells #[.int .i64 fiveT.kind, .int .i64 fiveT.num, .string fiveT.text, .slice E fiveT.items.length e1, .slice E' fiveT.names.length e2] 25)) (Iv _ w5.heap.size) w5.heap.size fiveT E e1 E' e2 := Vr.new (fun b hb => hb.2) hv5
  replace hV := hV.call hbn
  replace hX := hX.call hbn
  replace hF := hF.call hbn
  replace hW := hW.call hbn
  replace hCu := hCu.call hbn
  replace hD := hD.call hbn
  replace h1x := h1x.call hbn
  have h1xl := h1x.lt
  replace HB := HB.trans (hbn.mono HB.size)
  clear hbn hv5
  generalize w5.alloc (.cells #[.int .i64 fiveT.kind, .int .i64 fiveT.num, .string fiveT.text, .slice E fiveT.items.length e1, .slice E' fiveT.names.length e2] 25) = w6 at *
  generalize w5.heap.size = g5 at *
  have hba : Below w6.heap.size w6 (w6.alloc (.cells #[.string ⟨#[97]⟩] 9)) := below_box _
  have hna := heap_alloc_new w6 (.cells #[.string ⟨#[97]⟩] 9)
  rw [hz6] at hna
  replace hV := hV.call hba
  replace hX := hX.call hba
  replace hF := hF.call hba
  replace hW := hW.call hba
  replace hCu := hCu.call hba
  replace hD := hD.call hba
  replace hId := hId.call hba
  replace h1x := h1x.call hba
  have h1xl := h1x.lt
  replace HB := HB.trans (hba.mono HB.size)
  clear hba
  generalize w6.alloc (.cells #[.string ⟨#[97]⟩] 9) = wa at *
  have HC := Lib.hid (tget_at _ wD _ (g5 + 1) [⟨#[97]⟩] false (.mk 0 0 ⟨#[]⟩ [] []) wa hW.s hW.v dep_w hna (by simp; decide) (by decide) (by rw [get_not]; rfl) (by rw [get_not]; rfl))
  clear hz6
  clear hna
  refine HC.out.mono ?_
  rintro e w5 ⟨E, e1, E', e2, rfl, hv5, hb5⟩
  replace hV := hV.call hb5
  replace hX := hX.call hb5
  replace hF := hF.call hb5
  replace hW := hW.call hb5
  replace hCu := hCu.call hb5
  replace hD := hD.call hb5
  replace hId := hId.call hb5
  replace h1x := h1x.call hb5
  have h1xl := h1x.lt
  replace HB := HB.trans (hb5.mono HB.size)
  clear HC hb5
  have hf5 : (fiveT.num == 5) = true := rfl
  have a1 := hX.x.c1
  have b1 := hId.x.c1
  have c0 := hCu.x.c0
  have c1 := hCu.x.c1
  have c2 := hCu.x.c2
  have c3 := hCu.x.c3
  have c4 := hCu.x.c4
  have v0 := hV.x.c0
  have v1 := hV.x.c1
  have v2 := hV.x.c2
  have v3 := hV.x.c3
  have v4 := hV.x.c4
  have la := hX.x.lt
  have lb := hId.x.lt
  have lc := hCu.x.lt
  have lv := hV.x.lt
  have hbz2 := below_box (w := w5) (.cells #[.int .i64 (VT.mk 0 0 ⟨#[]⟩ [] []).kind, .int .i64 (VT.mk 0 0 ⟨#[]⟩ [] []).num, .string (VT.mk 0 0 ⟨#[]⟩ [] []).text, .slice E (VT.mk 0 0 ⟨#[]⟩ [] []).items.length e1, .slice E' (VT.mk 0 0 ⟨#[]⟩ [] []).names.length e2] 25)
  have HS := Lib.hid (rsame_any (fun q => q < w5.heap.size) 3 vD vD _ _ (w5.alloc (.cells #[.int .i64 (VT.mk 0 0 ⟨#[]⟩ [] []).kind, .int .i64 (VT.mk 0 0 ⟨#[]⟩ [] []).num, .string (VT.mk 0 0 ⟨#[]⟩ [] []).text, .slice E (VT.mk 0 0 ⟨#[]⟩ [] []).items.length e1, .slice E' (VT.mk 0 0 ⟨#[]⟩ [] []).names.length e2] 25)) dep_v3 (fun q hq => by have : q < w5.heap.size := hq; simp; omega) ((hCu.v.imp hCu.s).keep fun q hq => Below.heap_alloc _ _ _ hq) ((hV.v.imp hV.s).keep fun q hq => Below.heap_alloc _ _ _ hq))
  have HBB := Lib.hid HB
  clear HB
  go_wp2_with fail
  refine HS.out.mono ?_
  rintro e w7 ⟨⟨r, rfl, hr⟩, hb7⟩
  obtain rfl := hr.2 (by trivial)
  have hk7 := fun q (hq : q < w5.heap.size) => (hb7.block q (by simp; omega)).trans (Below.heap_alloc w5 (.cells #[.int .i64 (VT.mk 0 0 ⟨#[]⟩ [] []).kind, .int .i64 (VT.mk 0 0 ⟨#[]⟩ [] []).num, .string (VT.mk 0 0 ⟨#[]⟩ [] []).text, .slice E (VT.mk 0 0 ⟨#[]⟩ [] []).items.length e1, .slice E' (VT.mk 0 0 ⟨#[]⟩ [] []).names.length e2] 25) q hq)
  have b7 := (World.cell?_of_block (a := ⟨_, 1, none⟩) (hk7 _ lb)).trans b1
  have HBF := Lib.hid (HBB.out.trans ((hbz2.trans (hb7.mono hbz2.size)).mono HBB.out.size))
  clear a1 b1 c0 c1 c2 c3 c4 v0 v1 v2 v3 v4 HS hb7 hk7 hr
  go_wp2_with fail
  go_ret
  exact ⟨rfl, HBF.out⟩
end Go.Proofs.Ytlddhpjokiphfaa
