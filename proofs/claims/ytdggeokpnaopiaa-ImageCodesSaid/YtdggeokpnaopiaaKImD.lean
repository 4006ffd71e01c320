/- Images: a note is taken. -/
import Derived.Test.YtdggeokpnaopiaaKImA
namespace Go.Proofs.Ytdggeokpnaopiaa
set_option linter.unusedVariables false
set_option linter.unusedSimpArgs false
open Go.RowKit
set_option maxRecDepth 100000
/-- What a note does. -/
def NoteR (w : World) (S : Nat → Prop) (g : Nat) (m : ImT) (e : Ending) (w' : World) : Prop :=
  e = .returned (.int .i64 0) ∧ ImAt w' (fun b => S b ∨ New w.heap.size w' b) g m ∧ Only w w' g
set_option maxHeartbeats 8000000 in
theorem inote_none {w : World} {S S' : Nat → Prop} {g : Nat} {m : ImT} {t : VT} {v : Value} (hi : ImAt w S g m) (hf : m.Fine) (hS : ∀ b, S b → b < w.heap.size) (hSg : ¬ S g) (hS' : ∀ b, S' b → b < w.heap.size) (hSg' : ¬ S' g) (hv : LV w S' t v) :
    Calls Try.prog 13 #[.pointer (some ⟨g, 0, none⟩), v, .bool false] w (NoteR w S g (m.note none)) := by
  obtain ⟨A0, c0, A0', c0', rfl, -, -, -, v1, hb0⟩ := one_var hS' hv
  have HI := Lib.hid hi
  have HF := Lib.hid hf
  have HSG := Lib.hid hSg
  have HSG' := Lib.hid hSg'
  have HSS := Lib.hid hS
  have HSS' := Lib.hid hS'
  have HB1 := Lib.hid hb0
  have HX1 := Lib.hid v1.x
  have HV1 := Lib.hid v1.v
  clear hi hf hS hSg hS' hSg' hv v1 hb0
  go_enter Try.func13, Try.ntmps13
  have hg1 : g < (w.alloc (.cells #[.int .i64 t.kind, .int .i64 t.num, .string t.text, .slice A0 t.items.length c0, .slice A0' t.names.length c0'] 36)).heap.size := by have := HB1.out.size; have := HI.out.lt; omega
  have hi1 : ImAt (w.alloc (.cells #[.int .i64 t.kind, .int .i64 t.num, .string t.text, .slice A0 t.items.length c0, .slice A0' t.names.length c0'] 36)) S g m := HI.out.keep (HB1.out.block g HI.out.lt) fun b hb => HB1.out.block b (HSS.out b hb)
  have y0 := hi1.c0
  have y2 := hi1.c2
  have yf := hi1.free 2
  have hi2 := hi1.setTop HSG.out (m.top + 1)
  have ho2 : Only w ((w.alloc (.cells #[.int .i64 t.kind, .int .i64 t.num, .string t.text, .slice A0 t.items.length c0, .slice A0' t.names.length c0'] 36)).setCell ⟨g, 2, none⟩ (.int .i64 (m.top + 1))) g := (Only.ofBelow HB1.out).set 2 _
  obtain ⟨o2, hho2⟩ : ∃ o, ((w.alloc (.cells #[.int .i64 t.kind, .int .i64 t.num, .string t.text, .slice A0 t.items.length c0, .slice A0' t.names.length c0'] 36)).setCell ⟨g, 2, none⟩ (.int .i64 (m.top + 1))).heap[g]? = some o := by obtain ⟨C, h, -⟩ := hi2; exact ⟨_, h⟩
  have hbx2 : Box ((w.alloc (.cells #[.int .i64 t.kind, .int .i64 t.num, .string t.text, .slice A0 t.items.length c0, .slice A0' t.names.length c0'] 36)).setCell ⟨g, 2, none⟩ (.int .i64 (m.top + 1))) w.heap.size _ _ _ _ _ := HX1.out.other g 2 (.int .i64 (m.top + 1)) (by have := HI.out.lt; omega)
  have hv2 : LV ((w.alloc (.cells #[.int .i64 t.kind, .int .i64 t.num, .string t.text, .slice A0 t.items.length c0, .slice A0' t.names.length c0'] 36)).setCell ⟨g, 2, none⟩ (.int .i64 (m.top + 1))) S' t _ := HV1.out.keep fun b hb => heap_setCell_other _ ⟨g, 2, none⟩ b _ (by rintro rfl; exact HSG'.out hb)
  have HI2 := Lib.hid hi2
  have HO2 := Lib.hid ho2
  have HHO2 := Lib.hid hho2
  have HBX2 := Lib.hid hbx2
  have HV2 := Lib.hid hv2
  have HNT : Hid (∀ o, m.note o = if m.keep = 0 then { m with top := m.top + 1 } else ({ m with top := m.top + 1 } : ImT).put ((m.top + 1).toNat % m.keep.toNat) o) := Lib.hid fun o => rfl
  have k0 := HF.out.k0
  have k1 := HF.out.k1
  have b0 := HF.out.b0
  have b1 := HF.out.b1
  have t1 := HF.out.t1
  have HGL := Lib.hid HI.out.lt
  clear hi1 hi2 ho2 hho2 hbx2 hv2 HX1 HV1
  obtain ⟨w2, hw2⟩ : ∃ W, W = (w.alloc (.cells #[.int .i64 t.kind, .int .i64 t.num, .string t.text, .slice A0 t.items.length c0, .slice A0' t.names.length c0'] 36)).setCell ⟨g, 2, none⟩ (.int .i64 (m.top + 1)) := ⟨_, rfl⟩
  rw [← hw2] at HI2 HO2 HHO2 HBX2 HV2
  obtain ⟨K, hK⟩ : ∃ a, a = m.keep := ⟨_, rfl⟩
  obtain ⟨T, hT⟩ : ∃ a, a = m.top := ⟨_, rfl⟩
  rw [← hK] at y0 k0 k1
  rw [← hT] at y2 t1 b1 hw2
  have HW2 := Lib.hid hw2
  have HK := Lib.hid hK
  have HT := Lib.hid hT
  have tb : 0 ≤ T := by omega
  clear hK hT hw2 HI HB1 hg1 b0 b1
  by_cases hk : K = 0
  · subst hk
    go_wp2_with fail
    rw [← HW2.out]
    go_ret
    refine ⟨rfl, ?_, HO2.out⟩
    rw [HNT.out, if_pos HK.out.symm]
    exact HI2.out.imp fun b hb => .inl hb
  · have hkp : 0 < K := by omega
    have HKN := Lib.hid hk
    clear hk
    go_wp2_with fail
    rw [← HW2.out]
    have z2 : ∀ p : LaterR KeepA w2.drew, p.u.cell? ⟨g, 2, none⟩ = some (.int .i64 (T + 1)) := cell_ka (w := w2.drew) HHO2.out (by have := HI2.out.c2; rw [HT.out]; exact this)
    have x0 := cell_ka (w := w2.drew) (show w2.drew.heap[w.heap.size]? = _ from HBX2.out) HBX2.out.c0
    have x1 := cell_ka (w := w2.drew) (show w2.drew.heap[w.heap.size]? = _ from HBX2.out) HBX2.out.c1
    have x2 := cell_ka (w := w2.drew) (show w2.drew.heap[w.heap.size]? = _ from HBX2.out) HBX2.out.c2
    have x3 := cell_ka (w := w2.drew) (show w2.drew.heap[w.heap.size]? = _ from HBX2.out) HBX2.out.c3
    have x4 := cell_ka (w := w2.drew) (show w2.drew.heap[w.heap.size]? = _ from HBX2.out) HBX2.out.c4
    refine wp_region_OT KeepA KeepA.refl KeepA.trans [13] (.pure [0, 1, 2, 3, 4, 5, 7, 8] (.free [10, 11] (.step 6 (.step 9 (.free [12] (.tail [13])))))) (by kernel_rfl) (by kernel_rfl) (fun _ d _ _ _ h => by cases d <;> exact h) ?_
    have HI3 : Hid (ImAt w2.drew S g { m with top := m.top + 1 }) := Lib.hid (HI2.out.keep rfl fun _ _ => rfl)
    have HO3 : Hid (Only w w2.drew g) := Lib.hid ⟨HO2.out.os, HO2.out.tape, HO2.out.output, HO2.out.size, HO2.out.block⟩
    have HV3 := Lib.hid (LV.keep (w := w2) (w' := w2.drew) (S := S') (fun _ _ => rfl) HV2.out)
    clear HI2 HO2 HHO2 HBX2 HV2 y0 y2 yf HW2
    generalize hw3 : w2.drew = w3 at *
    clear hw3
    refine ot_pure ?_
    simp only [atNats, List.filterMap_cons, List.filterMap_nil, List.getElem?_toArray, List.getElem?_cons_succ, List.getElem?_cons_zero]
    show wpQuiet _ _ _ _ [_, _, _, _, _, _, _, _] _
    repeat (go_big_quiet_step (fail))
    refine wpQuiet_nil ?_
    refine ot_free ?_
    simp only [atNats, List.filterMap_cons, List.filterMap_nil, List.getElem?_toArray, List.getElem?_cons_succ, List.getElem?_cons_zero]
    show wpQuiet _ _ _ _ [_, _] _
    repeat (go_big_quiet_step (fail))
    refine wpQuiet_nil ?_
    clear x0 x1 x2 x3 x4 z2
    obtain ⟨n, hn⟩ : ∃ n : Nat, T + 1 = (n : Int) := ⟨(T + 1).toNat, by omega⟩
    obtain ⟨k, hkk⟩ : ∃ n : Nat, K = (n : Int) := ⟨K.toNat, by omega⟩
    have hkl : 0 < k ∧ k ≤ 64 := by omega
    have hpl := iplace_any HI3.out k n (by show m.keep = _; rw [← HK.out, hkk]) hkl.1 hkl.2 (by omega)
    have hj : n % k < 64 := by have := Nat.mod_lt n hkl.1; omega
    obtain ⟨i, hi⟩ : ∃ i, i = n % k := ⟨_, rfl⟩
    rw [← hi] at hpl hj
    have HIE := Lib.hid hi
    have HPL := Lib.hid hpl
    have HN := Lib.hid hn
    have HKK := Lib.hid hkk
    have HJ := Lib.hid hj
    rw [hn]
    clear hpl hn hkk hkl hj hi
    refine ot_step rfl (fun K hK => ?_)
    go_simp
    refine HPL.out.mono ?_
    rintro e w4 ⟨rfl, rfl⟩
    go_simp
    refine hK _ _ (.inr (KeepA.refl _)) ?_
    clear hK K
    refine ot_step rfl (fun K hK => ?_)
    go_simp
    refine (ikept_any false (fun b hb => by have := HSS'.out b hb; have := HO3.out.size; omega) HV3.out).mono ?_
    rintro e w5 ⟨c, rfl, hc, hb5⟩
    go_simp
    refine hK _ _ (.inr (KeepA.of hb5)) ?_
    clear hK K
    have hi5 : ImAt w5 S g { m with top := m.top + 1 } := HI3.out.below (fun b hb => by have := HSS.out b hb; have := HO3.out.size; omega) hb5
    have ho5 : Only w w5 g := HO3.out.trans (Only.ofBelow hb5)
    have hin : ¬ ((64 : Nat) ≤ i) := by have := HJ.out; omega
    have hil : ((i : Int) < 64) := by have := HJ.out; omega
    have hi0 : (0 : Int) ≤ (i : Int) := by omega
    have yf := hi5.free (3 + i)
    obtain ⟨cold, hcold, -⟩ := hi5.slot i HJ.out
    have HI5 := Lib.hid hi5
    have HO5 := Lib.hid ho5
    have HC5 : Hid (SlotAt w5 (New w4.heap.size w5) c (none : Option VT)) := Lib.hid (by simpa using hc)
    clear hi5 ho5 hc hb5
    refine ot_free ?_
    simp only [atNats, List.filterMap_cons, List.filterMap_nil, List.getElem?_toArray, List.getElem?_cons_succ, List.getElem?_cons_zero]
    show wpQuiet _ _ _ _ [_] _
    repeat (go_big_quiet_step (fail))
    refine wpQuiet_nil ?_
    obtain ⟨ca, rfl⟩ : ∃ a, c = .pointer a := by
      have h := HC5.out
      revert h
      generalize (none : Option VT) = o
      intro h
      cases o with
      | none => exact ⟨_, h⟩
      | some x => obtain ⟨q, _, _, _, _, _, h1, -⟩ := h; exact ⟨_, h1⟩
    refine ot_last rfl (fun K hK => ?_)
    go_simp
    refine hK _ _ ?_
    clear hK K
    refine ot_end ?_
    go_wp2_with fail
    go_ret
    have hnote : m.note (none : Option VT) = ({ m with top := m.top + 1 } : ImT).put i (none : Option VT) := by
      rw [HNT.out, if_neg (by rw [← HK.out]; exact HKN.out), HIE.out]
      have e1 : (m.top + 1).toNat = n := by have := HT.out; have := HN.out; omega
      have e2 : m.keep.toNat = k := by have := HK.out; have := HKK.out; omega
      rw [e1, e2]
    have hsz := HO3.out.size
    have hfin := HI5.out.setSlot HSG.out (S' := New w4.heap.size w5) (fun h => by have := HGL.out; have := h.1; omega) HC5.out i HJ.out
    refine ⟨rfl, ?_, HO5.out.set _ _⟩
    rw [← hnote] at hfin
    refine hfin.imp fun b hb => ?_
    rcases hb with hb | hb
    · exact .inl hb
    · exact .inr ⟨by have := hb.1; omega, by have := hb.2; simpa using this⟩
set_option maxHeartbeats 8000000 in
theorem inote_some {w : World} {S S' : Nat → Prop} {g : Nat} {m : ImT} {t : VT} {v : Value} (hi : ImAt w S g m) (hf : m.Fine) (hS : ∀ b, S b → b < w.heap.size) (hSg : ¬ S g) (hS' : ∀ b, S' b → b < w.heap.size) (hSg' : ¬ S' g) (hv : LV w S' t v) (hd : depthT t ≤ 4611686018427387903) (hc : checkT t = 0) :
    Calls Try.prog 13 #[.pointer (some ⟨g, 0, none⟩), v, .bool true] w (NoteR w S g (m.note (some t))) := by
  obtain ⟨A0, c0, A0', c0', rfl, -, -, -, v1, hb0⟩ := one_var hS' hv
  have HI := Lib.hid hi
  have HF := Lib.hid hf
  have HSG := Lib.hid hSg
  have HSG' := Lib.hid hSg'
  have HSS := Lib.hid hS
  have HSS' := Lib.hid hS'
  have HB0 := Lib.hid hb0
  have HX0 := Lib.hid v1.x
  have HV0 := Lib.hid v1.v
  have HC := Lib.hid (check_any S' t _ _ v1.s v1.v hd)
  rw [hc] at HC
  have q0 := v1.x.c0
  have q1 := v1.x.c1
  have q2 := v1.x.c2
  have q3 := v1.x.c3
  have q4 := v1.x.c4
  have HLS := Lib.hid v1.s
  clear hi hf hS hSg hS' hSg' hv v1 hb0 hc hd
  go_enter Try.func13, Try.ntmps13
  go_wp2_with fail
  refine HC.out.mono ?_
  rintro e w1 ⟨rfl, hb⟩
  have HB1 := Lib.hid (HB0.out.trans (hb.mono HB0.out.size))
  have HX1 := Lib.hid (HX0.out.call hb)
  have HV1 := Lib.hid (HV0.out.below HLS.out hb)
  clear hb HC HB0 HX0 HV0 HLS q0 q1 q2 q3 q4
  have hg1 : g < w1.heap.size := by have := HB1.out.size; have := HI.out.lt; omega
  have hi1 : ImAt w1 S g m := HI.out.keep (HB1.out.block g HI.out.lt) fun b hb => HB1.out.block b (HSS.out b hb)
  have y0 := hi1.c0
  have y2 := hi1.c2
  have yf := hi1.free 2
  have hi2 := hi1.setTop HSG.out (m.top + 1)
  have ho2 : Only w (w1.setCell ⟨g, 2, none⟩ (.int .i64 (m.top + 1))) g := (Only.ofBelow HB1.out).set 2 _
  obtain ⟨o2, hho2⟩ : ∃ o, (w1.setCell ⟨g, 2, none⟩ (.int .i64 (m.top + 1))).heap[g]? = some o := by obtain ⟨C, h, -⟩ := hi2; exact ⟨_, h⟩
  have hbx2 : Box (w1.setCell ⟨g, 2, none⟩ (.int .i64 (m.top + 1))) w.heap.size _ _ _ _ _ := HX1.out.other g 2 (.int .i64 (m.top + 1)) (by have := HI.out.lt; omega)
  have hv2 : LV (w1.setCell ⟨g, 2, none⟩ (.int .i64 (m.top + 1))) S' t _ := HV1.out.keep fun b hb => heap_setCell_other _ ⟨g, 2, none⟩ b _ (by rintro rfl; exact HSG'.out hb)
  have HI2 := Lib.hid hi2
  have HO2 := Lib.hid ho2
  have HHO2 := Lib.hid hho2
  have HBX2 := Lib.hid hbx2
  have HV2 := Lib.hid hv2
  have HNT : Hid (∀ o, m.note o = if m.keep = 0 then { m with top := m.top + 1 } else ({ m with top := m.top + 1 } : ImT).put ((m.top + 1).toNat % m.keep.toNat) o) := Lib.hid fun o => rfl
  have k0 := HF.out.k0
  have k1 := HF.out.k1
  have b0 := HF.out.b0
  have b1 := HF.out.b1
  have t1 := HF.out.t1
  have HGL := Lib.hid HI.out.lt
  clear hi1 hi2 ho2 hho2 hbx2 hv2 HX1 HV1
  obtain ⟨w2, hw2⟩ : ∃ W, W = w1.setCell ⟨g, 2, none⟩ (.int .i64 (m.top + 1)) := ⟨_, rfl⟩
  rw [← hw2] at HI2 HO2 HHO2 HBX2 HV2
  obtain ⟨K, hK⟩ : ∃ a, a = m.keep := ⟨_, rfl⟩
  obtain ⟨T, hT⟩ : ∃ a, a = m.top := ⟨_, rfl⟩
  rw [← hK] at y0 k0 k1
  rw [← hT] at y2 t1 b1 hw2
  have HW2 := Lib.hid hw2
  have HK := Lib.hid hK
  have HT := Lib.hid hT
  have tb : 0 ≤ T := by omega
  clear hK hT hw2 HI HB1 hg1 b0 b1
  by_cases hk : K = 0
  · subst hk
    go_wp2_with fail
    rw [← HW2.out]
    go_ret
    refine ⟨rfl, ?_, HO2.out⟩
    rw [HNT.out, if_pos HK.out.symm]
    exact HI2.out.imp fun b hb => .inl hb
  · have hkp : 0 < K := by omega
    have HKN := Lib.hid hk
    clear hk
    go_wp2_with fail
    rw [← HW2.out]
    have z2 : ∀ p : LaterR KeepA w2.drew, p.u.cell? ⟨g, 2, none⟩ = some (.int .i64 (T + 1)) := cell_ka (w := w2.drew) HHO2.out (by have := HI2.out.c2; rw [HT.out]; exact this)
    have x0 := cell_ka (w := w2.drew) (show w2.drew.heap[w.heap.size]? = _ from HBX2.out) HBX2.out.c0
    have x1 := cell_ka (w := w2.drew) (show w2.drew.heap[w.heap.size]? = _ from HBX2.out) HBX2.out.c1
    have x2 := cell_ka (w := w2.drew) (show w2.drew.heap[w.heap.size]? = _ from HBX2.out) HBX2.out.c2
    have x3 := cell_ka (w := w2.drew) (show w2.drew.heap[w.heap.size]? = _ from HBX2.out) HBX2.out.c3
    have x4 := cell_ka (w := w2.drew) (show w2.drew.heap[w.heap.size]? = _ from HBX2.out) HBX2.out.c4
    refine wp_region_OT KeepA KeepA.refl KeepA.trans [13] (.pure [0, 1, 2, 3, 4, 5, 7, 8] (.free [10, 11] (.step 6 (.step 9 (.free [12] (.tail [13])))))) (by kernel_rfl) (by kernel_rfl) (fun _ d _ _ _ h => by cases d <;> exact h) ?_
    have HI3 : Hid (ImAt w2.drew S g { m with top := m.top + 1 }) := Lib.hid (HI2.out.keep rfl fun _ _ => rfl)
    have HO3 : Hid (Only w w2.drew g) := Lib.hid ⟨HO2.out.os, HO2.out.tape, HO2.out.output, HO2.out.size, HO2.out.block⟩
    have HV3 := Lib.hid (LV.keep (w := w2) (w' := w2.drew) (S := S') (fun _ _ => rfl) HV2.out)
    clear HI2 HO2 HHO2 HBX2 HV2 y0 y2 yf HW2
    generalize hw3 : w2.drew = w3 at *
    clear hw3
    refine ot_pure ?_
    simp only [atNats, List.filterMap_cons, List.filterMap_nil, List.getElem?_toArray, List.getElem?_cons_succ, List.getElem?_cons_zero]
    show wpQuiet _ _ _ _ [_, _, _, _, _, _, _, _] _
    repeat (go_big_quiet_step (fail))
    refine wpQuiet_nil ?_
    refine ot_free ?_
    simp only [atNats, List.filterMap_cons, List.filterMap_nil, List.getElem?_toArray, List.getElem?_cons_succ, List.getElem?_cons_zero]
    show wpQuiet _ _ _ _ [_, _] _
    repeat (go_big_quiet_step (fail))
    refine wpQuiet_nil ?_
    clear x0 x1 x2 x3 x4 z2
    obtain ⟨n, hn⟩ : ∃ n : Nat, T + 1 = (n : Int) := ⟨(T + 1).toNat, by omega⟩
    obtain ⟨k, hkk⟩ : ∃ n : Nat, K = (n : Int) := ⟨K.toNat, by omega⟩
    have hkl : 0 < k ∧ k ≤ 64 := by omega
    have hpl := iplace_any HI3.out k n (by show m.keep = _; rw [← HK.out, hkk]) hkl.1 hkl.2 (by omega)
    have hj : n % k < 64 := by have := Nat.mod_lt n hkl.1; omega
    obtain ⟨i, hi⟩ : ∃ i, i = n % k := ⟨_, rfl⟩
    rw [← hi] at hpl hj
    have HIE := Lib.hid hi
    have HPL := Lib.hid hpl
    have HN := Lib.hid hn
    have HKK := Lib.hid hkk
    have HJ := Lib.hid hj
    rw [hn]
    clear hpl hn hkk hkl hj hi
    refine ot_step rfl (fun K hK => ?_)
    go_simp
    refine HPL.out.mono ?_
    rintro e w4 ⟨rfl, rfl⟩
    go_simp
    refine hK _ _ (.inr (KeepA.refl _)) ?_
    clear hK K
    refine ot_step rfl (fun K hK => ?_)
    go_simp
    refine (ikept_any true (fun b hb => by have := HSS'.out b hb; have := HO3.out.size; omega) HV3.out).mono ?_
    rintro e w5 ⟨c, rfl, hc, hb5⟩
    go_simp
    refine hK _ _ (.inr (KeepA.of hb5)) ?_
    clear hK K
    have hi5 : ImAt w5 S g { m with top := m.top + 1 } := HI3.out.below (fun b hb => by have := HSS.out b hb; have := HO3.out.size; omega) hb5
    have ho5 : Only w w5 g := HO3.out.trans (Only.ofBelow hb5)
    have hin : ¬ ((64 : Nat) ≤ i) := by have := HJ.out; omega
    have hil : ((i : Int) < 64) := by have := HJ.out; omega
    have hi0 : (0 : Int) ≤ (i : Int) := by omega
    have yf := hi5.free (3 + i)
    obtain ⟨cold, hcold, -⟩ := hi5.slot i HJ.out
    have HI5 := Lib.hid hi5
    have HO5 := Lib.hid ho5
    have HC5 : Hid (SlotAt w5 (New w4.heap.size w5) c (some t)) := Lib.hid (by simpa using hc)
    clear hi5 ho5 hc hb5
    refine ot_free ?_
    simp only [atNats, List.filterMap_cons, List.filterMap_nil, List.getElem?_toArray, List.getElem?_cons_succ, List.getElem?_cons_zero]
    show wpQuiet _ _ _ _ [_] _
    repeat (go_big_quiet_step (fail))
    refine wpQuiet_nil ?_
    obtain ⟨ca, rfl⟩ : ∃ a, c = .pointer a := by
      have h := HC5.out
      revert h
      generalize (some t) = o
      intro h
      cases o with
      | none => exact ⟨_, h⟩
      | some x => obtain ⟨q, _, _, _, _, _, h1, -⟩ := h; exact ⟨_, h1⟩
    refine ot_last rfl (fun K hK => ?_)
    go_simp
    refine hK _ _ ?_
    clear hK K
    refine ot_end ?_
    go_wp2_with fail
    go_ret
    have hnote : m.note (some t) = ({ m with top := m.top + 1 } : ImT).put i (some t) := by
      rw [HNT.out, if_neg (by rw [← HK.out]; exact HKN.out), HIE.out]
      have e1 : (m.top + 1).toNat = n := by have := HT.out; have := HN.out; omega
      have e2 : m.keep.toNat = k := by have := HK.out; have := HKK.out; omega
      rw [e1, e2]
    have hsz := HO3.out.size
    have hfin := HI5.out.setSlot HSG.out (S' := New w4.heap.size w5) (fun h => by have := HGL.out; have := h.1; omega) HC5.out i HJ.out
    refine ⟨rfl, ?_, HO5.out.set _ _⟩
    rw [← hnote] at hfin
    refine hfin.imp fun b hb => ?_
    rcases hb with hb | hb
    · exact .inl hb
    · exact .inr ⟨by have := hb.1; omega, by have := hb.2; simpa using this⟩
theorem inote_any {w : World} {S S' : Nat → Prop} {g : Nat} {m : ImT} {t : VT} {v : Value} (b : Bool) (hi : ImAt w S g m) (hf : m.Fine) (hS : ∀ b, S b → b < w.heap.size) (hSg : ¬ S g) (hS' : ∀ b, S' b → b < w.heap.size) (hSg' : ¬ S' g) (hv : LV w S' t v) (hd : depthT t ≤ 4611686018427387903) (hc : b = true → checkT t = 0) :
    Calls Try.prog 13 #[.pointer (some ⟨g, 0, none⟩), v, .bool b] w (NoteR w S g (m.note (if b = true then some t else none))) := by
  cases b
  · exact inote_none hi hf hS hSg hS' hSg' hv
  · exact inote_some hi hf hS hSg hS' hSg' hv hd (hc rfl)
end Go.Proofs.Ytdggeokpnaopiaa
