/- Another disk that is the same. -/
import Derived.Test.YtclgekmpldeedaaFlP
namespace Go.Proofs.Ytclgekmpldeedaa
set_option linter.unusedVariables false
set_option linter.unusedSimpArgs false
open Go.RowKit Go.Maps
set_option maxRecDepth 100000
section
variable {w : World} {Ft : Nat → Prop} {d m : Nat} {gs : List UInt8 → Option Nat} {rv : List UInt8 → Value} {D : DataW Unit} {M : DiskM}
set_option maxHeartbeats 4000000 in
theorem fork_any (h : DAt w Ft d M) : Calls Try.prog 20 #[.pointer (some ⟨d, 0, none⟩)] w fun e w' => ∃ d2 : Nat, e = .returned (.pointer (some ⟨d2, 0, none⟩)) ∧ Below w.heap.size w w' := by
  obtain ⟨hlt, m, gs, rv, D, h⟩ := h
  have HM := Lib.hid (made_any h)
  have HD := Lib.hid h
  have HLT := Lib.hid hlt
  have c0 := h.c0
  have HOWN := Lib.hid h.map
  have q0 := cell_row (row := none) (w := w.drew) (b := d) (o := 0) h.c0 (by simp)
  have q1 := cell_row (row := none) (w := w.drew) (b := d) (o := 1) h.c1 (by simp)
  have q2 := cell_row (row := none) (w := w.drew) (b := d) (o := 2) h.c2 (by simp)
  have q3 := cell_row (row := none) (w := w.drew) (b := d) (o := 3) h.c3 (by simp)
  have hml := h.map.lt
  obtain ⟨es, clock, hes, -, hesz, -⟩ := h.map
  have qm : ∀ p : LaterR (RowR none) w.drew, p.u.heap[m]? = some (.map es clock) := fun p => (p.h.block m hml (by simp)).trans hes
  have h256 := h.c256
  have hlen : ∀ (p : LaterR (RowR none) w.drew) (ty : TypeId), (Builtin.len_ #[46] ty #[.map (some m)]).run Try.prog p.u = .ok (.int .i64 (Maps.size D)) p.u := fun p ty => (ownsMap_keep h.map ((p.h.block m hml (by simp)))).len Try.underlying46 ty
  clear h hlt hes
  go_enter Try.func20, Try.ntmps20
  go_wp2_with fail
  refine HM.out.mono ?_
  rintro e u ⟨rfl, rfl⟩
  go_wp2_with fail
  refine wp_region_OT (RowR none) (RowR.refl _) (RowR.trans _) [] (.pure [0, 1, 2, 3, 4, 6, 7, 8, 9] (.step 5 (.step 10 (.step 11 (.free [12] (.tail [])))))) (by kernel_rfl) (by kernel_rfl) (fun _ d _ _ _ h => by cases d <;> exact h) ?_
  have HDr : Hid (u.grownBy u.drew none) := Lib.hid ⟨rfl, rfl, rfl, Nat.le_refl _, fun _ _ _ => rfl⟩
  generalize u.drew = w0 at *
  refine ot_pure ?_
  simp only [atNats, List.filterMap_cons, List.filterMap_nil, List.getElem?_toArray, List.getElem?_cons_succ, List.getElem?_cons_zero]
  show wpQuiet _ _ _ _ [_, _, _, _, _, _, _, _, _] _
  try simp only [List.getElem_toArray, List.getElem_cons_succ, List.getElem_cons_zero, Act.put, List.setIfInBounds_toArray, List.set_cons_succ, List.set_cons_zero] at *
  repeat (go_big_quiet_step (fail))
  refine wpQuiet_nil ?_
  obtain ⟨sz, hsz⟩ : ∃ sz : Nat, sz = Maps.size D := ⟨_, rfl⟩
  have HSZ := Lib.hid hsz
  rw [← hsz]
  clear q0 q1 q2 q3 qm hlen hsz
  have hsn : sz ≤ 256 := by rw [HSZ.out, HD.out.cnt]; exact h256
  refine ot_step rfl (fun K hK => ?_)
  go_simp
  have hg1 : w0.grownBy (w0.alloc (.map #[] 0)) none := World.grownBy_alloc _ _ _
  have hmap1 := World.ownsMap_made w0 Try.prog 9 fileR
  refine hK _ (w0.alloc (.map #[] 0)) (.inr hg1) ?_
  clear hK K
  have HG1 := Lib.hid hg1
  have HMAP1 := Lib.hid hmap1
  obtain ⟨m2, hm2⟩ : ∃ x, x = w0.heap.size := ⟨_, rfl⟩
  have HM2 := Lib.hid hm2
  have hz1 : (w0.alloc (.map #[] 0)).heap.size = w0.heap.size + 1 := by simp
  have HZ1 := Lib.hid hz1
  rw [← hm2] at HMAP1 HZ1 ⊢
  clear hg1 hmap1 hm2 hz1
  generalize w0.alloc (.map #[] 0) = w1 at HG1 HMAP1 HZ1 ⊢
  refine ot_step rfl (fun K hK => ?_)
  go_simp
  refine hK _ _ (.inr (RowR.refl _ _)) ?_
  clear hK K
  refine ot_step rfl (fun K hK => ?_)
  go_simp
  have hg2 : w1.grownBy (w1.alloc (.cells #[.map (some m2), .int .i64 M.left, .int .i64 M.torn, .bool M.gone] 50)) none := World.grownBy_alloc _ _ _
  have hd2 := heap_alloc_new w1 (.cells #[.map (some m2), .int .i64 M.left, .int .i64 M.torn, .bool M.gone] 50)
  have hz2 : (w1.alloc (.cells #[.map (some m2), .int .i64 M.left, .int .i64 M.torn, .bool M.gone] 50)).heap.size = w1.heap.size + 1 := by simp
  refine hK _ (w1.alloc (.cells #[.map (some m2), .int .i64 M.left, .int .i64 M.torn, .bool M.gone] 50)) (.inr hg2) ?_
  clear hK K
  have HG2 := Lib.hid hg2
  have HZ2 := Lib.hid hz2
  have HD2 := Lib.hid hd2
  obtain ⟨d2, hdd⟩ : ∃ x, x = w1.heap.size := ⟨_, rfl⟩
  have HDD := Lib.hid hdd
  rw [← hdd] at HD2 HZ2 ⊢
  clear hg2 hd2 hz2 hdd
  generalize w1.alloc (.cells #[.map (some m2), .int .i64 M.left, .int .i64 M.torn, .bool M.gone] 50) = w2 at HG2 HZ2 HD2 ⊢
  refine ot_free ?_
  simp only [atNats, List.filterMap_cons, List.filterMap_nil, List.getElem?_toArray, List.getElem?_cons_succ, List.getElem?_cons_zero]
  show wpQuiet _ _ _ _ [_] _
  try simp only [List.getElem_toArray, List.getElem_cons_succ, List.getElem_cons_zero, Act.put, List.setIfInBounds_toArray, List.set_cons_succ, List.set_cons_zero]
  repeat (go_big_quiet_step (fail))
  refine wpQuiet_nil ?_
  refine ot_end ?_
  have hz0 := HDr.out.size
  have hz1 := HZ1.out
  have hz2 := HZ2.out
  have hm2 := HM2.out
  have hdd := HDD.out
  have hbw : Below u.heap.size u w2 := ⟨(HG2.out.os.trans HG1.out.os).trans HDr.out.os, (HG2.out.tape.trans HG1.out.tape).trans HDr.out.tape, (HG2.out.output.trans HG1.out.output).trans HDr.out.output, by omega, fun i hi => (HG2.out.block i (by omega) (by simp)).trans ((HG1.out.block i (by omega) (by simp)).trans (HDr.out.block i hi (by simp)))⟩
  have hD2 := HD.out.below HLT.out hbw
  have y0 := hD2.c0
  have HOWN2 := Lib.hid hD2.map
  have HBW := Lib.hid hbw
  have HMAP2 : Hid (w2.ownsMap Try.prog 9 fileR m2 0 (.map [])) := Lib.hid (ownsMap_keep HMAP1.out (HG2.out.block m2 (by omega) (by simp)))
  have hge : Hid (u.heap.size ≤ m2 ∧ m2 < d2 ∧ d2 < w2.heap.size) := Lib.hid (by omega)
  clear hz0 hz1 hz2 hm2 hdd hbw hD2 HMAP1 HG1 HG2 HZ1 HZ2 HM2 HDD HDr
  obtain ⟨r, hr⟩ : ∃ r, r = w2.heap.size := ⟨_, rfl⟩
  go_wp2_with (first | (at_range; refine wpList_range_own _ rfl _ 46 rfl 9 54 fkeyed Try.underlying46 fileR m M.cnt D rfl HOWN2.out ?_; intro w4 hrg4 hg4 hs4))
  rw [← hr] at hrg4 ⊢
  have HRG4 := Lib.hid hrg4
  have HB4 : Hid (Below u.heap.size u w4) := Lib.hid ⟨hg4.os.trans HBW.out.os, hg4.tape.trans HBW.out.tape, hg4.output.trans HBW.out.output, by have := HBW.out.size; omega, fun i hi => (hg4.block i (by have := HBW.out.size; omega) (by simp)).trans (HBW.out.block i hi)⟩
  have HMAP4 := Lib.hid (ownsMap_keep HMAP2.out (hg4.block m2 (by have := hge.out; omega) (by simp)))
  have HD4 := Lib.hid ((hg4.block d2 hge.out.2.2 (by simp)).trans HD2.out)
  have HR : Hid (m2 < d2 ∧ d2 < r ∧ u.heap.size ≤ m2) := Lib.hid (by have := hge.out; omega)
  have HCN : Hid (Maps.size D = M.cnt ∧ M.cnt ≤ 256) := Lib.hid ⟨HD.out.cnt, h256⟩
  clear hrg4 hg4 hs4 hr hge HMAP2 HD2 HBW HOWN2 y0 hsn
  go_frame
  go_loopw [26] (fun _ wq => ∃ (left : Lit → Bool) (cnt k : Nat) (E : DataW Unit), Hid (wq.ranges Try.prog 9 fileR m r M.cnt D left cnt) ∧ Hid (Below u.heap.size u wq) ∧ Hid (wq.ownsMap Try.prog 9 fileR m2 k E) ∧ Hid (k + cnt ≤ 256) ∧ Hid (wq.heap[d2]? = some (.cells #[.map (some m2), .int .i64 M.left, .int .i64 M.torn, .bool M.gone] 50 (0, 0)))) (fun _ wq => wq.rangeLeft m r)
  case atStart => exact ⟨_, _, 0, _, HRG4, HB4, HMAP4, Lib.hid (by rw [HCN.out.1]; have := HCN.out.2; omega), HD4⟩
  case round =>
    obtain ⟨left, cnt, k, E, HRG, HB, HE, HKC, HDq⟩ := hrel
    go_wp2_with (first | (at_next; refine wpList_next_ranges _ rfl _ rfl 9 fkeyed fileR Value.string Value.pointer (fun key kl hk => by obtain ⟨x, hx, _⟩ := WideMaps.string_of_keyOf Try.underlying9 hk; exact ⟨x, hx⟩) (fun v y hv => by rcases fileR_inv hv with ⟨h1, -⟩ | ⟨g, h1, -⟩; exact ⟨none, h1⟩; exact ⟨_, h1⟩) m r M.cnt D left cnt rfl HRG.out ?_ ?_))
    · intro hc0 hl0
      go_wp2_with fail
      go_ret
      exact ⟨d2, rfl, HB.out⟩
    · intro x cv kl yd yp w5 cnt2 hkey hlk hv hat hrg2 hlt2 hg2 hs2 hen
      obtain ⟨x', hx', rfl, hxs⟩ := WideMaps.string_of_keyOf Try.underlying9 hkey
      injection hx' with hx'
      subst hx'
      have hsome : (gs x.data.toList).isSome = true := by rw [← HD.out.has]; exact has_true_of_atKey hat
      obtain ⟨g, hgs⟩ := Option.isSome_iff_exists.1 hsome
      have hcv : cv = some ⟨g, 0, none⟩ := by
        have h1 := HD.out.at' x.data.toList
        rw [hat, hgs] at h1
        rcases fileR_inv hv with ⟨h2, h3⟩ | ⟨g', h2, h3⟩
        · injection h3 with h3 _; rw [h3] at h1; simp at h1
        · injection h3 with h3 _
          rw [h3] at h1
          simp at h1
          injection h2 with h2
          rw [h2]
          congr
          omega
      subst hcv
      have hB5 : Below u.heap.size u w5 := ⟨hg2.os.trans HB.out.os, hg2.tape.trans HB.out.tape, hg2.output.trans HB.out.output, by have := HB.out.size; omega, fun i hi => (hg2.block i (by have := HB.out.size; omega) (fun e => by injection e with e; have := HR.out; omega)).trans (HB.out.block i hi)⟩
      obtain ⟨f, hf, hF⟩ := (HD.out.below HLT.out hB5).ex hgs
      obtain ⟨A2, c2, hrv⟩ := hF.own.rdY.shapeY
      have q1 := hF.c0
      rw [hrv] at q1
      have hE5 := ownsMap_keep HE.out (hg2.block m2 HE.out.lt (fun e => by injection e with e; have := HR.out; omega))
      have hd5 := (hg2.block d2 (Array.getElem?_eq_some_iff.1 HDq.out).1 (fun e => by injection e with e; have := HR.out; omega)).trans HDq.out
      have q1 := cell_row (row := none) (w := w5.drew) (b := g) (o := 0) q1 (by simp)
      have q2 := cell_row (row := none) (w := w5.drew) (b := g) (o := 1) hF.c1 (by simp)
      have q3 := cell_row (row := none) (w := w5.drew) (Go.Joins.cell_of_block (w := w5.drew) hd5 0) (by simp)
      have HC := Lib.hid (fun W (hW : ∀ k, (rv x.data.toList).ownBlock = some k → W.heap[k]? = w5.heap[k]?) => cloneB_any (rv x.data.toList) f.b W (hF.own.keepB hW).rdY (by have := hF.most; omega))
      have HCC : Hid (∀ W, W.heap = w5.heap → Calls Try.prog 32 #[.slice A2 f.b.length c2] W (Gives f.b W)) := Lib.hid fun W hW => by have h9 := HC.out W (fun k _ => by rw [hW]); rw [hrv] at h9; exact h9
      have hro : wr.rangeLeft m r = cnt := HRG.out.left_eq
      have HRG2 := Lib.hid hrg2
      have HE5 : Hid (w5.drew.ownsMap Try.prog 9 fileR m2 k E) := Lib.hid hE5
      have HD5 : Hid (w5.drew.heap[d2]? = _) := Lib.hid hd5
      have HB5 : Hid (Below u.heap.size u w5.drew) := Lib.hid hB5.drew
      have HRD : Hid (w5.grownBy w5.drew none) := Lib.hid ⟨rfl, rfl, rfl, Nat.le_refl _, fun _ _ _ => rfl⟩
      have HRL : Hid (∀ (w3 : World) (cntx : Nat) (lf : Lit → Bool), w3.ranges Try.prog 9 fileR m r M.cnt D lf cntx → w3.rangeLeft m r = cntx) := Lib.hid fun w3 cntx lf h => h.left_eq
      have HKE : Hid (k + 1 + cnt2 ≤ 256) := Lib.hid (by have := HKC.out; omega)
      have HXS := Lib.hid hxs
      have HMR : Hid (m < u.heap.size) := Lib.hid HD.out.map.lt
      have HC5 := HCC.out w5.drew rfl
      have HC5 := Lib.hid HC5
      obtain ⟨n2, hn2⟩ : ∃ y, y = f.b.length := ⟨_, rfl⟩
      rw [← hn2] at q1 HC5
      clear hsome hgs hf hF hrv hE5 hd5 hB5 hv hat hkey hlk hrg2 hg2 hs2 HC HCC hn2
      go_wp2_with fail
      refine wp_region_OT (RowR none) (RowR.refl _) (RowR.trans _) [16] (.pure [0, 1, 2, 3, 4, 5, 6, 7, 8, 10, 11, 12, 13] (.step 9 (.step 14 (.step 15 (.tail [16]))))) (by kernel_rfl) (by kernel_rfl) (fun _ d _ _ _ h => by cases d <;> exact h) ?_
      generalize w5.drew = w6 at *
      refine ot_pure ?_
      simp only [atNats, List.filterMap_cons, List.filterMap_nil, List.getElem?_toArray, List.getElem?_cons_succ, List.getElem?_cons_zero]
      show wpQuiet _ _ _ _ [_, _, _, _, _, _, _, _, _, _, _, _, _] _
      try simp only [List.getElem_toArray, List.getElem_cons_succ, List.getElem_cons_zero, Act.put, List.setIfInBounds_toArray, List.set_cons_succ, List.set_cons_zero] at *
      repeat (go_big_quiet_step (fail))
      refine wpQuiet_nil ?_
      clear q1 q2 q3
      refine ot_step rfl (fun K hK => ?_)
      go_simp
      refine HC5.out.mono ?_
      rintro e w7 ⟨v7, rfl, hv7, hb7⟩
      refine hK _ _ (.inr ⟨hb7.os, hb7.tape, hb7.output, hb7.size, fun k hk _ => hb7.block k hk⟩) ?_
      clear hK K
      obtain ⟨A7, c7, rfl⟩ := hv7.rdY.shapeY
      refine ot_step rfl (fun K hK => ?_)
      go_simp
      refine hK _ _ (.inr (RowR.refl _ _)) ?_
      clear hK K
      refine ot_step rfl (fun K hK => ?_)
      go_simp
      obtain ⟨X, hX⟩ : ∃ X, X = Obj.cells #[Value.slice A7 f.b.length c7, Value.int IntKind.i64 ↑f.sure] 56 := ⟨_, rfl⟩
      rw [← hX]
      have hg8 : w7.grownBy (w7.alloc X) none := World.grownBy_alloc _ _ _
      refine hK _ _ (.inr hg8) ?_
      clear hK K hX
      have hz7 := hb7.size
      have hE8 := ownsMap_keep (ownsMap_keep HE5.out (hb7.block m2 HE5.out.lt)) (hg8.block m2 (by have := HE5.out.lt; omega) (by simp))
      obtain ⟨w9, hrun, hE9, hg9⟩ := hE8.update fkeyed Try.underlying46 (by unfold maxLen; have := HKE.out; omega) (fkey x HXS.out) (fileR_mk w7.heap.size)
      have hchain : ∀ i, i < w6.heap.size → i ≠ m2 → w9.heap[i]? = w6.heap[i]? := fun i h1 h2 => (hg9.block i (by have := hg8.size; omega) (fun e => h2 (by injection e))).trans ((hg8.block i (by omega) (by simp)).trans (hb7.block i h1))
      have hz69 : w6.heap.size ≤ w9.heap.size := by have := hg8.size; have := hg9.size; omega
      have HR9 := Lib.hid (HRG2.out.kept (w' := w9) (row := some m2) ⟨((hg9.os.trans hg8.os).trans hb7.os).trans HRD.out.os, ((hg9.tape.trans hg8.tape).trans hb7.tape).trans HRD.out.tape, ((hg9.output.trans hg8.output).trans hb7.output).trans HRD.out.output, by have := HRD.out.size; omega, fun i hi hn => (hchain i (by have := HRD.out.size; omega) (fun e => hn (by rw [e]))).trans (HRD.out.block i hi (by simp))⟩ (fun e => by injection e with e; have := HMR.out; have := HR.out; omega) (fun e => by injection e with e; have := HR.out; omega))
      have HB9 : Hid (Below u.heap.size u w9) := Lib.hid ⟨((hg9.os.trans hg8.os).trans hb7.os).trans HB5.out.os, ((hg9.tape.trans hg8.tape).trans hb7.tape).trans HB5.out.tape, ((hg9.output.trans hg8.output).trans hb7.output).trans HB5.out.output, by have := HB5.out.size; omega, fun i hi => (hchain i (by have := HB5.out.size; omega) (by have := HR.out; omega)).trans (HB5.out.block i hi)⟩
      have HE9 := Lib.hid hE9
      have HD9 := Lib.hid ((hchain d2 (Array.getElem?_eq_some_iff.1 HD5.out).1 (by have := HR.out; omega)).trans HD5.out)
      have hr9 := HRL.out w9 _ _ HR9.out
      clear hE8 hE9 hg9 hchain hz69 hz7 hg8 hb7 hv7
      refine ot_last rfl (fun K hK => ?_)
      go_simp
      refine hK _ _ ?_
      clear hK K
      refine ot_end ?_
      go_wp2_with fail
      go_roundw
      case rel => exact ⟨_, cnt2, k + 1, _, HR9, HB9, HE9, HKE, HD9⟩
      case measure => rw [hr9, hro]; exact hlt2
end
end Go.Proofs.Ytclgekmpldeedaa
