/- The document's code of a list of changes that may be. -/
import Derived.Test.YtnamdlljdgllmaaGreatKTkN
import Derived.Test.YtnamdlljdgllmaaGreatKCodA
import Derived.Test.YtnamdlljdgllmaaGreatKOpenDl
import Derived.Test.YtnamdlljdgllmaaGreatKDlF
import Derived.Test.YtnamdlljdgllmaaGreatKRefM
import Derived.Deep.Slices
import Derived.SizedLaws
import Derived.ProofKit
import Derived.OpenShut
import Derived.ChangeOld
namespace Go.Proofs.YtnamdlljdgllmaaGreat
set_option linter.unusedVariables false
set_option linter.unusedSimpArgs false
open Go.RowKit
set_option maxRecDepth 100000
theorem dbox_keep {w w' : World} {g : Nat} {ob : Obj} (h : w.heap[g]? = some ob) (hb : Below w.heap.size w w') : w'.heap[g]? = some ob := (hb.block g (Array.getElem?_eq_some_iff.1 h).1).trans h
theorem dbox_k8 {w w' : World} {g : Nat} {cs : Array Value} {fr : Nat × Nat} (h : w.heap[g]? = some (.cells cs 31 fr)) (hk : K8 w w') : w'.heap[g]? = some (.cells cs 31 fr) := hk g _ h (fun h => by cases h) (fun c fz h => by injection h with _ h; exact absurd h (by decide))
theorem mayD_kind3 {d : DelT} (h : mayD d = true) : d.kind = 1 ∨ d.kind = 2 ∨ (d.kind = 3 ∧ 0 ≤ d.num ∧ d.num ≤ 999) := by
  unfold mayD at h
  rw [Bool.and_eq_true] at h
  have h2 := h.2
  split at h2
  · omega
  split at h2
  · omega
  split at h2
  · simp only [Bool.and_eq_true, decide_eq_true_eq] at h2
    exact .inr (.inr ⟨by omega, h2.2.1, h2.2.2⟩)
  · cases h2
theorem mayD_check {d : DelT} (h : mayD d = true) (hk : d.kind = 1) : checkT d.val = 0 := by
  unfold mayD at h
  rw [Bool.and_eq_true, if_pos hk, Bool.and_eq_true, decide_eq_true_eq] at h
  exact h.2.1
theorem mayP_length {p : List ByteArray} (h : mayP p = true) : p.length ≤ 8 := ((mayP_iff p).1 h).2.1
theorem grp_pos (n : Nat) : 0 < (grp n).length := (grp_length n).2
set_option maxHeartbeats 32000000 in
theorem r6code_any (S : Nat → Prop) (A : Option Addr) (c : Nat) (l : List DelT) (w : World) (hS : ∀ b, S b → b < w.heap.size) (h : DelsL w S A l) (hz : SmallZD l) (hc : checkD l = 0) :
    Calls Tryz.prog 28 #[.slice A l.length c] w (Gives (codeDs l) w) := by
  obtain ⟨h64, hm⟩ := checkD_zero hc
  have HL := Lib.hid h
  have HS := Lib.hid hS
  have HD := Lib.hid (And.intro hm hz)
  have HCN := Lib.hid (rcount_any l.length w (by omega))
  have HSM : Hid (∀ k, (((l.take k).map codeD1).flatten).length ≤ 134400000) := Lib.hid fun k => by
    have h1 := codeDs_small (l := l.take k) fun o ho => ⟨hm o (List.mem_of_mem_take ho), hz o (List.mem_of_mem_take ho)⟩
    rw [List.length_take] at h1
    omega
  have hfin : codeDs l = grp l.length ++ (l.map codeD1).flatten := by unfold codeDs; rw [if_pos hc]
  have HF := Lib.hid hfin
  clear h hS hz hc hm hfin
  go_enter Tryz.func28, Tryz.ntmps28
  go_wp2_with fail
  refine HCN.out.mono ?_
  rintro e w1 ⟨v1, rfl, hv1, hb1⟩
  have h0 : Hid (OwnB w1 w.heap.size v1 (grp l.length ++ ((l.take 0).map codeD1).flatten) ∧ Below w.heap.size w w1) := Lib.hid ⟨by simpa using hv1, hb1⟩
  clear hv1 hb1 HCN
  go_wp2_with fail
  go_loopw [3, 4] (fun v0 i wr => ∃ k : Nat, i = .int .i64 k ∧ k ≤ l.length ∧ Hid (OwnB wr w.heap.size v0 (grp l.length ++ ((l.take k).map codeD1).flatten) ∧ Below w.heap.size w wr)) (fun _ i _ => l.length - (intOf i).toNat)
  case atStart => exact ⟨0, rfl, by omega, h0⟩
  case round =>
    obtain ⟨k, rfl, hk, HH⟩ := hrel
    by_cases hlt : k < l.length
    · have d1 : decide ((k : Int) < (l.length : Int)) = true := decide_eq_true (by omega)
      obtain ⟨p, off, PA, pc, VA, vc, VA', vc', rfl, hpS, ho, x0, x1, x2, x3, x4, x5, x6, x7⟩ := HL.out.cells k hlt
      have hp := HH.out.2.block p (HS.out p hpS)
      have z0 := (World.cell?_of_block (a := ⟨p, off + k * 8, none⟩) hp).trans x0
      have z1 := (World.cell?_of_block (a := ⟨p, off + k * 8 + 1, none⟩) hp).trans x1
      have z2 := (World.cell?_of_block (a := ⟨p, off + k * 8 + 2, none⟩) hp).trans x2
      have z3 := (World.cell?_of_block (a := ⟨p, off + k * 8 + 3, none⟩) hp).trans x3
      have z4 := (World.cell?_of_block (a := ⟨p, off + k * 8 + 4, none⟩) hp).trans x4
      have z5 := (World.cell?_of_block (a := ⟨p, off + k * 8 + 5, none⟩) hp).trans x5
      have z6 := (World.cell?_of_block (a := ⟨p, off + k * 8 + 6, none⟩) hp).trans x6
      have z7 := (World.cell?_of_block (a := ⟨p, off + k * 8 + 7, none⟩) hp).trans x7
      have HOK := Lib.hid ho
      have hmay := HD.out.1 _ (List.getElem_mem hlt)
      have HMAY := Lib.hid hmay
      obtain ⟨kd, hkd⟩ : ∃ kd, kd = l[k].kind := ⟨_, rfl⟩
      have hkr : kd = 1 ∨ kd = 2 ∨ (kd = 3 ∧ 0 ≤ l[k].num ∧ l[k].num ≤ 999) := by rw [hkd]; exact mayD_kind3 hmay
      rw [← hkd] at z0
      obtain ⟨acc, hacc⟩ : ∃ acc, acc = grp l.length ++ ((l.take k).map codeD1).flatten := ⟨_, rfl⟩
      rw [← hacc] at HH
      have hal : acc.length ≤ 134500000 := by
        have h1 := HSM.out k
        have h2 := (grp_length l.length).1
        rw [hacc]
        simp only [List.length_append]
        omega
      have HAL := Lib.hid hal
      obtain ⟨ob, hob⟩ : ∃ ob : Obj, ob = .cells #[.int .i64 kd, .slice PA l[k].path.length pc, .int .i64 l[k].val.kind, .int .i64 l[k].val.num, .string l[k].val.text, .slice VA l[k].val.items.length vc, .slice VA' l[k].val.names.length vc', .int .i64 l[k].num] 31 := ⟨_, rfl⟩
      have HOB := Lib.hid hob
      obtain ⟨w4, hw4⟩ : ∃ W, W = (wr.alloc ob).drew := ⟨_, rfl⟩
      have HW4 := Lib.hid hw4
      have HX4 : Hid (OwnB w4 w.heap.size u3 acc ∧ Below w.heap.size w w4 ∧ w4.heap[wr.heap.size]? = some ob) := Lib.hid (by
        rw [hw4]
        exact ⟨(show OwnB (wr.alloc ob) _ _ _ from HH.out.1.below ((Below.refl _ _).alloc (Nat.le_refl _) _)), (HH.out.2.alloc HH.out.2.size _).drew, heap_alloc_new wr ob⟩)
      have HOP : Hid (∀ W, Below w.heap.size w W → StrsAt W S PA l[k].path ∧ LV W S l[k].val (.agg #[.int .i64 l[k].val.kind, .int .i64 l[k].val.num, .string l[k].val.text, .slice VA l[k].val.items.length vc, .slice VA' l[k].val.names.length vc'])) := Lib.hid fun W hW => by
        obtain ⟨PA1, pc1, VA1, vc1, VA2, vc2, he, hv2, hp2, -⟩ := HOK.out
        simp only [Array.mk.injEq, List.cons.injEq, Value.slice.injEq, true_and, and_true] at he
        obtain ⟨⟨rfl, rfl⟩, ⟨rfl, rfl⟩, ⟨rfl, rfl⟩⟩ := he
        exact ⟨hp2.keep fun b hb => hW.block b (HS.out b hb), hv2.keep fun b hb => hW.block b (HS.out b hb)⟩
      have HKD := Lib.hid (And.intro hkd hkr)
      have HACC := Lib.hid hacc
      have HNM := Lib.hid (mayD_names hmay)
      have hpl8 : l[k].path.length ≤ 8 := mayP_length (mayD_path hmay)
      rw [hob] at HX4
      clear x0 x1 x2 x3 x4 x5 x6 x7 hp hmay hacc hal hkd hkr hob ho
      go_wp2_with fail
      try simp only [← HOB.out]
      have q0 := cell_k8 (w := w4) (i := 0) HX4.out.2.2 (by decide) rfl
      have q1 := cell_k8 (w := w4) (i := 1) HX4.out.2.2 (by decide) rfl
      refine wp_region_OT K8 (fun w => Lib.OthersKept.refl _ _ _) (fun a b c h k => h.trans k) [] (.pure [0, 1, 2, 3, 6, 7, 8] (.step 4 (.step 5 (.step 9 (.step 10 (.free [11] (.tail []))))))) (by kernel_rfl) (by kernel_rfl) (fun _ d _ _ _ h => by cases d <;> exact h) ?_
      rw [← HW4.out]
      clear hw4
      refine ot_pure ?_
      simp only [atNats, List.filterMap_cons, List.filterMap_nil, List.getElem?_toArray, List.getElem?_cons_succ, List.getElem?_cons_zero]
      show wpQuiet _ _ _ _ [_, _, _, _, _, _, _] _
      try simp only [List.getElem_toArray, List.getElem_cons_succ, List.getElem_cons_zero, Act.put, List.setIfInBounds_toArray, List.set_cons_succ, List.set_cons_zero] at *
      repeat (go_big_quiet_step (fail))
      refine wpQuiet_nil ?_
      clear q0 q1
      refine ot_step rfl (fun K hK => ?_)
      go_simp
      refine hK _ _ (.inr ((Lib.OthersKept.refl _ _ _).alloc _)) ?_
      clear hK K
      obtain ⟨kb, hkb⟩ : ∃ kb, kb = UInt8.ofNat kd.toNat := ⟨_, rfl⟩
      have hkx : kd % 256 = (kb.toNat : Int) := by
        have h1 := HKD.out.2
        rw [hkb, ofNat_toNat _ (by omega)]
        omega
      have HKB := Lib.hid hkb
      have HKX := Lib.hid hkx
      have hB4 : wr.heap.size < w4.heap.size := (Array.getElem?_eq_some_iff.1 HX4.out.2.2).1
      have hoA : OwnB (w4.alloc (.cells #[.int .u8 (kd % 256)] 5)) w.heap.size u3 acc := HX4.out.1.below ((Below.refl _ _).alloc (Nat.le_refl _) _)
      have hbA : Below w.heap.size w (w4.alloc (.cells #[.int .u8 (kd % 256)] 5)) := HX4.out.2.1.alloc HX4.out.2.1.size _
      have hkA : K8 w4 (w4.alloc (.cells #[.int .u8 (kd % 256)] 5)) := (Lib.OthersKept.refl _ _ _).alloc _
      clear hkb hkx hB4
      refine ot_act rfl rfl (fun K hK => ?_)
      refine wp_append_bytesR _ _ rfl w.heap.size u3 acc rfl hoA (w4.heap.size + 1) _ [kb] rfl (Rd.one' rfl kb HKX.out) (by simp) hbA.size (by have := HAL.out; simp; omega) (fun v5 w5 hv5 hg5 => ?_)
      refine hK _ _ (.inr (k8_grown hoA hg5)) ?_
      clear hK K
      have HX5 : Hid (OwnB w5 w.heap.size v5 (acc ++ [kb]) ∧ Below w.heap.size w w5 ∧ K8 w4 w5) := Lib.hid ⟨hv5, below_own hbA hoA hbA.size hg5, hkA.trans (k8_grown hoA hg5)⟩
      clear hv5 hg5 hoA hbA hkA
      simp only [List.getElem_toArray, List.getElem_cons_succ, List.getElem_cons_zero, Act.put, List.setIfInBounds_toArray, List.set_cons_succ, List.set_cons_zero]
      have HC := Lib.hid (rcount_any l[k].path.length w5 (by omega))
      refine ot_step rfl (fun K hK => ?_)
      go_simp
      refine HC.out.mono ?_
      rintro e w6 ⟨v6, rfl, hv6, hb6⟩
      go_simp
      refine hK _ _ (.inr (k8_below hb6)) ?_
      clear hK K HC
      have hoB : OwnB w6 w.heap.size v5 (acc ++ [kb]) := HX5.out.1.below hb6
      have hbB : Below w.heap.size w w6 := HX5.out.2.1.trans (hb6.mono HX5.out.2.1.size)
      have hgl := (grp_length l[k].path.length).1
      refine ot_act rfl rfl (fun K hK => ?_)
      refine wp_append_bytesR _ _ rfl w.heap.size v5 (acc ++ [kb]) rfl hoB w6.heap.size _ (grp l[k].path.length) rfl hv6.rd (grp_pos _) hbB.size (by have := HAL.out; simp; omega) (fun v7 w7 hv7 hg7 => ?_)
      refine hK _ _ (.inr (k8_grown hoB hg7)) ?_
      clear hK K
      have hk7 : K8 w4 w7 := (HX5.out.2.2.trans (k8_below hb6)).trans (k8_grown hoB hg7)
      have HX7 : Hid (OwnB w7 w.heap.size v7 (acc ++ [kb] ++ grp l[k].path.length ++ ((l[k].path.take 0).map txt).flatten) ∧ Below w.heap.size w w7 ∧ w7.heap[wr.heap.size]? = some (.cells #[.int .i64 kd, .slice PA l[k].path.length pc, .int .i64 l[k].val.kind, .int .i64 l[k].val.num, .string l[k].val.text, .slice VA l[k].val.items.length vc, .slice VA' l[k].val.names.length vc', .int .i64 l[k].num] 31 (0, 0))) := Lib.hid ⟨by simpa using hv7, below_own hbB hoB hbB.size hg7, dbox_k8 HX4.out.2.2 hk7⟩
      clear hv7 hg7 hoB hbB hk7 hv6 hb6 HX5 HX4 hgl
      simp only [List.getElem_toArray, List.getElem_cons_succ, List.getElem_cons_zero, Act.put, List.setIfInBounds_toArray, List.set_cons_succ, List.set_cons_zero]
      refine ot_free ?_
      simp only [atNats, List.filterMap_cons, List.filterMap_nil, List.getElem?_toArray, List.getElem?_cons_succ, List.getElem?_cons_zero]
      show wpQuiet _ _ _ _ [_] _
      try simp only [List.getElem_toArray, List.getElem_cons_succ, List.getElem_cons_zero, Act.put, List.setIfInBounds_toArray, List.set_cons_succ, List.set_cons_zero] at *
      repeat (go_big_quiet_step (fail))
      refine wpQuiet_nil ?_
      refine ot_end ?_
      clear z0 z1 z2 z3 z4 z5 z6 z7
      obtain ⟨g5, hg5⟩ : ∃ g, g = wr.heap.size := ⟨_, rfl⟩
      rw [← hg5] at HX7 ⊢
      clear hg5 HW4 HOB
      go_wp2_with fail
      go_loopw [3, 6] (fun v0 i wj => ∃ j : Nat, i = .int .i64 j ∧ j ≤ l[k].path.length ∧ Hid (OwnB wj w.heap.size v0 (acc ++ [kb] ++ grp l[k].path.length ++ ((l[k].path.take j).map txt).flatten) ∧ Below w.heap.size w wj ∧ wj.heap[g5]? = some (.cells #[.int .i64 kd, .slice PA l[k].path.length pc, .int .i64 l[k].val.kind, .int .i64 l[k].val.num, .string l[k].val.text, .slice VA l[k].val.items.length vc, .slice VA' l[k].val.names.length vc', .int .i64 l[k].num] 31 (0, 0)))) (fun _ i _ => l[k].path.length - (intOf i).toNat)
      case atStart => exact ⟨0, rfl, by omega, HX7⟩
      case round =>
        obtain ⟨j, rfl, hj, HJ⟩ := hrel
        have r1 : wr.cell? ⟨g5, 1, none⟩ = some (.slice PA l[k].path.length pc) := Go.Joins.cell_of_block HJ.out.2.2 1
        by_cases hjl : j < l[k].path.length
        · have d2 : decide ((j : Int) < (l[k].path.length : Int)) = true := decide_eq_true (by omega)
          obtain ⟨b, boff, hPA, hbS, hcells⟩ := (HOP.out wr HJ.out.2.1).1 (by omega)
          rw [hPA] at r1
          clear hPA
          have hcj := (hcells j hjl).1
          have hsz := HNM.out.2 _ (List.getElem_mem hjl)
          obtain ⟨s, hs⟩ : ∃ s, s = l[k].path[j] := ⟨_, rfl⟩
          rw [← hs] at hcj hsz
          have HSX := Lib.hid hs
          have HT := Lib.hid (rtext_any s wr (by omega))
          have HTL := Lib.hid (txt_small hsz)
          have hfl := flat_small (p := l[k].path.take j) fun s hs => HNM.out.2 s (List.mem_of_mem_take hs)
          rw [List.length_take] at hfl
          have hcl : (acc ++ [kb] ++ grp l[k].path.length ++ ((l[k].path.take j).map txt).flatten).length ≤ 134600000 := by
            have h1 := (grp_length l[k].path.length).1
            have h3 := HAL.out
            simp only [List.length_append, List.length_cons, List.length_nil]
            omega
          have HCL := Lib.hid hcl
          have HSZ := Lib.hid HJ.out.2.1.size
          clear hcells hsz hs hbS hfl hcl
          go_wp2_with fail
          refine HT.out.mono ?_
          rintro e w8 ⟨v8, rfl, hv8, hb8⟩
          have HV8 := Lib.hid hv8
          have HO8 := Lib.hid (HJ.out.1.below hb8)
          have HB8 := Lib.hid hb8
          clear hv8 hb8 HT hcj r1
          go_wp2_with (at_builtin; go_must (refine wpList_append_bytes rfl _ _ rfl w.heap.size _ (acc ++ [kb] ++ grp l[k].path.length ++ ((l[k].path.take j).map txt).flatten) rfl HO8.out w8.heap.size _ (txt s) rfl HV8.out.rd (Nat.le_trans HSZ.out HB8.out.size) (by have := HCL.out; have := HTL.out; omega) ?_))
          intro v9 w9 hv9 hg9
          have HX : Hid (OwnB w9 w.heap.size v9 (acc ++ [kb] ++ grp l[k].path.length ++ ((l[k].path.take (j + 1)).map txt).flatten) ∧ Below w.heap.size w w9 ∧ w9.heap[g5]? = some (.cells #[.int .i64 kd, .slice PA l[k].path.length pc, .int .i64 l[k].val.kind, .int .i64 l[k].val.num, .string l[k].val.text, .slice VA l[k].val.items.length vc, .slice VA' l[k].val.names.length vc', .int .i64 l[k].num] 31 (0, 0))) := Lib.hid ⟨by
            have h1 : ((l[k].path.take (j + 1)).map txt).flatten = ((l[k].path.take j).map txt).flatten ++ txt s := by
              rw [List.take_add_one, List.getElem?_eq_getElem hjl, List.map_append, List.flatten_append, ← HSX.out]
              exact congrArg _ (List.append_nil _)
            rw [h1]
            simpa [List.append_assoc, List.map_take] using hv9, below_own (toStart HJ.out.2.1 HB8.out) HO8.out (Nat.le_trans HSZ.out HB8.out.size) hg9, dbox_k8 (dbox_keep HJ.out.2.2 HB8.out) (k8_grown HO8.out hg9)⟩
          clear hv9 hg9
          go_wp2_with fail
          go_roundw
          case rel => exact ⟨j + 1, by go_num, by omega, HX⟩
          case measure => simp [intOf]; omega
        · have hje : j = l[k].path.length := by omega
          have d2 : decide ((j : Int) < (l[k].path.length : Int)) = false := decide_eq_false (by omega)
          have HJ2 : Hid (OwnB wr w.heap.size u3 (acc ++ [kb] ++ pathC l[k].path) ∧ Below w.heap.size w wr ∧ wr.heap[g5]? = some (.cells #[.int .i64 kd, .slice PA l[k].path.length pc, .int .i64 l[k].val.kind, .int .i64 l[k].val.num, .string l[k].val.text, .slice VA l[k].val.items.length vc, .slice VA' l[k].val.names.length vc', .int .i64 l[k].num] 31 (0, 0))) := Lib.hid ⟨by
            have h9 := HJ.out.1
            rw [hje, List.take_length] at h9
            unfold pathC
            simpa [List.append_assoc] using h9, HJ.out.2⟩
          have HN : Hid (grp l.length ++ ((l.take (k + 1)).map codeD1).flatten = acc ++ [kb] ++ pathC l[k].path ++ (if kd = 1 then encO l[k].val else if kd = 3 then grp l[k].num.toNat else [])) := Lib.hid (by
            have h1 : ((l.take (k + 1)).map codeD1).flatten = ((l.take k).map codeD1).flatten ++ codeD1 l[k] := by
              rw [List.take_add_one, List.getElem?_eq_getElem hlt, List.map_append, List.flatten_append]
              exact congrArg _ (List.append_nil _)
            rw [h1, HACC.out, HKB.out, HKD.out.1]
            unfold codeD1
            simp only [List.append_assoc])
          have HL7 : Hid ((acc ++ [kb] ++ pathC l[k].path).length ≤ 140000000) := Lib.hid (by have := HAL.out; have := pathC_small HNM.out; simp; omega)
          have r0 : wr.cell? ⟨g5, 0, none⟩ = some (.int .i64 kd) := Go.Joins.cell_of_block HJ.out.2.2 0
          have r2 := Go.Joins.cell_of_block HJ.out.2.2 2
          have r3 := Go.Joins.cell_of_block HJ.out.2.2 3
          have r4 := Go.Joins.cell_of_block HJ.out.2.2 4
          have r5 := Go.Joins.cell_of_block HJ.out.2.2 5
          have r6 := Go.Joins.cell_of_block HJ.out.2.2 6
          have r7 := Go.Joins.cell_of_block HJ.out.2.2 7
          clear HJ hje
          by_cases h1k : kd = 1
          · have hv := HMAY.out
            have HC := Lib.hid (renc_any S l[k].val _ wr (fun b hb => Nat.lt_of_lt_of_le (HS.out b hb) HJ2.out.2.1.size) (HOP.out wr HJ2.out.2.1).2 (HD.out.2 _ (List.getElem_mem hlt)) (mayD_check hv (HKD.out.1 ▸ h1k)))
            have HK1 := Lib.hid h1k
            have d3 : (kd == 1) = true := by rw [h1k]; rfl
            clear h1k hv
            go_wp2_with fail
            refine HC.out.mono ?_
            rintro e w8 ⟨v8, rfl, hv8, hb8⟩
            have HX8 : Hid (OwnB w8 w.heap.size u3 (acc ++ [kb] ++ pathC l[k].path) ∧ Below w.heap.size w w8 ∧ Rd w8 w8.heap.size v8 (encO l[k].val)) := Lib.hid ⟨HJ2.out.1.below hb8, HJ2.out.2.1.trans (hb8.mono HJ2.out.2.1.size), hv8.rd⟩
            clear hv8 hb8 HC r0 r1 r2 r3 r4 r5 r6 r7
            go_wp2_with (at_builtin; go_must (refine wpList_append_bytes rfl _ _ rfl w.heap.size _ (acc ++ [kb] ++ pathC l[k].path) rfl HX8.out.1 w8.heap.size v8 (encO l[k].val) rfl HX8.out.2.2 HX8.out.2.1.size (by have := HL7.out; have := encO_length (t := l[k].val) (HD.out.2 _ (List.getElem_mem hlt)); omega) ?_))
            intro v9 w9 hv9 hg9
            have HX9 : Hid (OwnB w9 w.heap.size v9 (grp l.length ++ ((l.take (k + 1)).map codeD1).flatten) ∧ Below w.heap.size w w9) := Lib.hid ⟨by rw [HN.out, if_pos HK1.out]; simpa [List.append_assoc] using hv9, below_own HX8.out.2.1 HX8.out.1 HX8.out.2.1.size hg9⟩
            clear hv9 hg9
            go_wp2_with fail
            go_roundw
            case rel => exact ⟨k + 1, by go_num, by omega, HX9⟩
            case measure => simp [intOf]; omega
          have d3 : (kd == 1) = false := by simpa using h1k
          have HK1 := Lib.hid h1k
          clear h1k
          by_cases h3k : kd = 3
          · have d4 : (kd == 3) = true := by rw [h3k]; rfl
            have HK3 := Lib.hid h3k
            have hn9 : 0 ≤ l[k].num ∧ l[k].num ≤ 999 := by have := HKD.out.2; omega
            obtain ⟨n, hnn⟩ : ∃ n : Nat, l[k].num = n := ⟨l[k].num.toNat, by omega⟩
            have HNN := Lib.hid hnn
            rw [hnn] at r7
            have hn99 : n ≤ 999 := by omega
            have HC := Lib.hid (rcount_any n wr (by omega))
            clear h3k hn9 hnn
            go_wp2_with fail
            refine HC.out.mono ?_
            rintro e w8 ⟨v8, rfl, hv8, hb8⟩
            have HX8 : Hid (OwnB w8 w.heap.size u3 (acc ++ [kb] ++ pathC l[k].path) ∧ Below w.heap.size w w8 ∧ Rd w8 w8.heap.size v8 (grp n)) := Lib.hid ⟨HJ2.out.1.below hb8, HJ2.out.2.1.trans (hb8.mono HJ2.out.2.1.size), hv8.rd⟩
            clear hv8 hb8 HC r0 r1 r2 r3 r4 r5 r6 r7
            go_wp2_with (at_builtin; go_must (refine wpList_append_bytes rfl _ _ rfl w.heap.size _ (acc ++ [kb] ++ pathC l[k].path) rfl HX8.out.1 w8.heap.size v8 (grp n) rfl HX8.out.2.2 HX8.out.2.1.size (by have := HL7.out; have := (grp_length n).1; omega) ?_))
            intro v9 w9 hv9 hg9
            have HX9 : Hid (OwnB w9 w.heap.size v9 (grp l.length ++ ((l.take (k + 1)).map codeD1).flatten) ∧ Below w.heap.size w w9) := Lib.hid ⟨by rw [HN.out, if_neg HK1.out, if_pos HK3.out, HNN.out, Int.toNat_natCast]; simpa [List.append_assoc] using hv9, below_own HX8.out.2.1 HX8.out.1 HX8.out.2.1.size hg9⟩
            clear hv9 hg9
            go_wp2_with fail
            go_roundw
            case rel => exact ⟨k + 1, by go_num, by omega, HX9⟩
            case measure => simp [intOf]; omega
          · have d4 : (kd == 3) = false := by simpa using h3k
            have HX9 : Hid (OwnB wr w.heap.size u3 (grp l.length ++ ((l.take (k + 1)).map codeD1).flatten) ∧ Below w.heap.size w wr) := Lib.hid ⟨by rw [HN.out, if_neg HK1.out, if_neg h3k, List.append_nil]; exact HJ2.out.1, HJ2.out.2.1⟩
            clear h3k
            go_wp2_with fail
            go_roundw
            case rel => exact ⟨k + 1, by go_num, by omega, HX9⟩
            case measure => simp [intOf]; omega
    · have hke : k = l.length := by omega
      have d1 : decide ((k : Int) < (l.length : Int)) = false := decide_eq_false (by omega)
      have HE : Hid (OwnB wr w.heap.size u3 (codeDs l)) := Lib.hid (by
        have h9 := HH.out.1
        rw [hke, List.take_length] at h9
        rw [HF.out]
        exact h9)
      clear hke
      go_wp2_with fail
      go_ret
      exact ⟨_, rfl, HE.out, HH.out.2⟩
end Go.Proofs.YtnamdlljdgllmaaGreat

/- Whether two lists of changes are the same, by the document. -/
namespace Go.Proofs.YtnamdlljdgllmaaGreat
set_option linter.unusedVariables false
set_option linter.unusedSimpArgs false
open Go.RowKit
set_option maxRecDepth 100000
set_option maxHeartbeats 16000000 in
theorem r6same_any (S : Nat → Prop) (A : Option Addr) (c : Nat) (xs : List DelT) (B : Option Addr) (d : Nat) (ys : List DelT) (w : World) (hS : ∀ b, S b → b < w.heap.size) (ha : DelsL w S A xs) (hb : DelsL w S B ys) (hla : xs.length ≤ 140737488351232) (hlb : ys.length ≤ 140737488351232) :
    Calls Tryz.prog 18 #[.slice A xs.length c, .slice B ys.length d] w fun e w' => (∃ r : Bool, e = .returned (.bool r) ∧ (r = true ↔ xs = ys)) ∧ Below w.heap.size w w' := by
  have HS := Lib.hid hS
  have HA := Lib.hid ha
  have HBB := Lib.hid hb
  clear hS ha hb
  by_cases hl : xs.length = ys.length
  · have HL := Lib.hid hl
    obtain ⟨m, hm⟩ : ∃ m, m = xs.length := ⟨_, rfl⟩
    have HMA := Lib.hid hm
    have HMB : Hid (m = ys.length) := Lib.hid (by omega)
    rw [← hl, ← hm]
    have hm9 : m ≤ 140737488351232 := by omega
    have d0 : ((m : Int) != (m : Int)) = false := by simp
    clear hl hm hla hlb
    go_enter Tryz.func18, Tryz.ntmps18
    go_wp2_with fail
    clear d0
    go_loopw [5] (fun i wr => ∃ j : Nat, i = .int .i64 j ∧ j ≤ m ∧ Hid (∀ k (h : k < xs.length) (h' : k < ys.length), k < j → xs[k] = ys[k]) ∧ Hid (Below w.heap.size w wr)) (fun i _ => m - (intOf i).toNat)
    case atStart => exact ⟨0, rfl, Nat.zero_le _, Lib.hid (fun k _ _ h => absurd h (Nat.not_lt_zero _)), Lib.hid (Below.refl _ _)⟩
    case round =>
      obtain ⟨j, rfl, hj, HE, HB⟩ := hrel
      by_cases hlt : j < m
      · have hla : j < xs.length := by have := HMA.out; omega
        have hlb : j < ys.length := by have := HMB.out; omega
        have d1 : decide ((j : Int) < (m : Int)) = true := decide_eq_true (by omega)
        obtain ⟨p, o, PA, pc, VA, vc, VA', vc', rfl, hp, hx, x0, x1, x2, x3, x4, x5, x6, x7⟩ := (HA.out.below HS.out HB.out).cells j hla
        obtain ⟨p', o', PB, pd, VB, vd, VB', vd', rfl, hp', hy, g0, g1, g2, g3, g4, g5, g6, g7⟩ := (HBB.out.below HS.out HB.out).cells j hlb
        have hp2 : p < wr.heap.size := Nat.lt_of_lt_of_le (HS.out p hp) HB.out.size
        have hp2' : p' < wr.heap.size := Nat.lt_of_lt_of_le (HS.out p' hp') HB.out.size
        have hS2 : ∀ b, S b → b < wr.drew.heap.size := fun b hb => Nat.lt_of_lt_of_le (HS.out b hb) HB.out.size
        obtain ⟨hvx, hpx, hlx⟩ : LV wr.drew S xs[j].val (.agg #[.int .i64 xs[j].val.kind, .int .i64 xs[j].val.num, .string xs[j].val.text, .slice VA xs[j].val.items.length vc, .slice VA' xs[j].val.names.length vc']) ∧ StrsAt wr.drew S PA xs[j].path ∧ xs[j].path.length ≤ 8796093021952 := by
          obtain ⟨P1, p1, V1, v1, V1', v1', e, q0, q1, -, -, -, -, q4⟩ := hx
          simp only [Array.mk.injEq, List.cons.injEq, Value.slice.injEq, and_true, true_and] at e
          obtain ⟨⟨rfl, rfl⟩, ⟨rfl, rfl⟩, rfl, rfl⟩ := e
          exact ⟨q0.drew, q1, q4⟩
        obtain ⟨hvy, hpy, hly⟩ : LV wr.drew S ys[j].val (.agg #[.int .i64 ys[j].val.kind, .int .i64 ys[j].val.num, .string ys[j].val.text, .slice VB ys[j].val.items.length vd, .slice VB' ys[j].val.names.length vd']) ∧ StrsAt wr.drew S PB ys[j].path ∧ ys[j].path.length ≤ 8796093021952 := by
          obtain ⟨P1, p1, V1, v1, V1', v1', e, q0, q1, -, -, -, -, q4⟩ := hy
          simp only [Array.mk.injEq, List.cons.injEq, Value.slice.injEq, and_true, true_and] at e
          obtain ⟨⟨rfl, rfl⟩, ⟨rfl, rfl⟩, rfl, rfl⟩ := e
          exact ⟨q0.drew, q1, q4⟩
        have HPS := Lib.hid (rpsame_any PA PB pc pd xs[j].path ys[j].path wr.drew S S hpx hpy hS2 hS2 (by omega) (by omega))
        have HVS : Hid (∀ W, Below wr.drew.heap.size wr.drew W → Calls Tryz.prog 24 #[.agg #[.int .i64 xs[j].val.kind, .int .i64 xs[j].val.num, .string xs[j].val.text, .slice VA xs[j].val.items.length vc, .slice VA' xs[j].val.names.length vc'], .agg #[.int .i64 ys[j].val.kind, .int .i64 ys[j].val.num, .string ys[j].val.text, .slice VB ys[j].val.items.length vd, .slice VB' ys[j].val.names.length vd']] W fun e w' => (∃ r : Bool, e = .returned (.bool r) ∧ (r = true ↔ xs[j].val = ys[j].val)) ∧ Below W.heap.size W w') := Lib.hid fun W hW => rsame_any S (depthT xs[j].val) xs[j].val ys[j].val _ _ W (Nat.le_refl _) (fun b hb => Nat.lt_of_lt_of_le (hS2 b hb) hW.size) (hvx.keep fun b hb => hW.block b (hS2 b hb)) (hvy.keep fun b hb => hW.block b (hS2 b hb))
        clear hx hy hp hp' hS2 hvx hpx hlx hvy hpy hly
        by_cases hall : xs[j].kind = ys[j].kind ∧ xs[j].num = ys[j].num
        · have e0 : (xs[j].kind != ys[j].kind) = false := by rw [hall.1]; simp
          have e7 : (xs[j].num != ys[j].num) = false := by rw [hall.2]; simp
          have HALL := Lib.hid hall
          clear hall
          go_wp2_with fail
          refine wp_region_mix [0, 1, 2, 3, 4, 5, 6, 7, 8, 9, 10, 11, 12, 13, 14, 15, 16, 17, 18, 19, 20, 21, 22, 23, 24, 25, 26, 27, 28, 29, 30, 31, 32, 33, 34, 35, 36, 37, 38, 39, 40, 41, 42, 43, 44, 45, 46, 47, 48, 49, 50, 51] (by kernel_rfl) (by kernel_rfl) (fun _ d _ _ _ h => by cases d <;> exact h) ?_
          simp only [atNats, List.filterMap_cons, List.filterMap_nil, List.getElem?_toArray, List.getElem?_cons_succ, List.getElem?_cons_zero]
          have q0 := cell_later (B := wr.heap.size) (w := wr.drew) x0 hp2
          have q1 := cell_later (B := wr.heap.size) (w := wr.drew) x1 hp2
          have q2 := cell_later (B := wr.heap.size) (w := wr.drew) x2 hp2
          have q3 := cell_later (B := wr.heap.size) (w := wr.drew) x3 hp2
          have q4 := cell_later (B := wr.heap.size) (w := wr.drew) x4 hp2
          have q5 := cell_later (B := wr.heap.size) (w := wr.drew) x5 hp2
          have q6 := cell_later (B := wr.heap.size) (w := wr.drew) x6 hp2
          have q7 := cell_later (B := wr.heap.size) (w := wr.drew) x7 hp2
          have z0 := cell_later (B := wr.heap.size) (w := wr.drew) g0 hp2'
          have z1 := cell_later (B := wr.heap.size) (w := wr.drew) g1 hp2'
          have z2 := cell_later (B := wr.heap.size) (w := wr.drew) g2 hp2'
          have z3 := cell_later (B := wr.heap.size) (w := wr.drew) g3 hp2'
          have z4 := cell_later (B := wr.heap.size) (w := wr.drew) g4 hp2'
          have z5 := cell_later (B := wr.heap.size) (w := wr.drew) g5 hp2'
          have z6 := cell_later (B := wr.heap.size) (w := wr.drew) g6 hp2'
          have z7 := cell_later (B := wr.heap.size) (w := wr.drew) g7 hp2'
          first | refine mix_pure ?_ | refine mix_pureB ?_
          simp only [List.takeWhile, List.dropWhile, isPure, Nat.reduceBNe]
          repeat (go_big_quiet_step (fail))
          refine wpQuiet_nil ?_
          clear q0 q1 q2 q3 q4 q5 q6 q7 z0 z1 z2 z3 z4 z5 z6 z7
          first | refine mix_call rfl (fun K hK => ?_) | refine mix_callB rfl (fun K hK => ?_)
          go_simp
          refine (HPS.out).mono ?_
          rintro e w8 ⟨rfl, hb⟩
          refine hK _ _ hb ?_
          clear hK K
          try simp only [Act.put]
          have HVS8 := Lib.hid (HVS.out w8 hb)
          have HB8 : Hid (Below w.heap.size w w8) := Lib.hid (HB.out.trans ((show Below wr.heap.size wr w8 from (Below.refl _ _).drew.trans hb).mono HB.out.size))
          have hs8 : wr.heap.size ≤ w8.heap.size := hb.size
          have t2 := (World.cell?_of_block (a := ⟨p, o + j * 8 + 2, none⟩) (hb.block p hp2)).trans x2
          have t3 := (World.cell?_of_block (a := ⟨p, o + j * 8 + 3, none⟩) (hb.block p hp2)).trans x3
          have t4 := (World.cell?_of_block (a := ⟨p, o + j * 8 + 4, none⟩) (hb.block p hp2)).trans x4
          have t5 := (World.cell?_of_block (a := ⟨p, o + j * 8 + 5, none⟩) (hb.block p hp2)).trans x5
          have t6 := (World.cell?_of_block (a := ⟨p, o + j * 8 + 6, none⟩) (hb.block p hp2)).trans x6
          have s2 := (World.cell?_of_block (a := ⟨p', o' + j * 8 + 2, none⟩) (hb.block p' hp2')).trans g2
          have s3 := (World.cell?_of_block (a := ⟨p', o' + j * 8 + 3, none⟩) (hb.block p' hp2')).trans g3
          have s4 := (World.cell?_of_block (a := ⟨p', o' + j * 8 + 4, none⟩) (hb.block p' hp2')).trans g4
          have s5 := (World.cell?_of_block (a := ⟨p', o' + j * 8 + 5, none⟩) (hb.block p' hp2')).trans g5
          have s6 := (World.cell?_of_block (a := ⟨p', o' + j * 8 + 6, none⟩) (hb.block p' hp2')).trans g6
          have hp3 : p < w8.heap.size := by omega
          have hp3' : p' < w8.heap.size := by omega
          clear hb HPS HVS x0 x1 x2 x3 x4 x5 x6 x7 g0 g1 g2 g3 g4 g5 g6 g7 hp2 hp2' e0 e7
          by_cases hpp : xs[j].path = ys[j].path
          · have HPP := Lib.hid hpp
            rw [decide_eq_true hpp]
            clear hpp
            have q2 := cell_later (B := w8.heap.size) (w := w8) t2 hp3
            have z2 := cell_later (B := w8.heap.size) (w := w8) s2 hp3'
            have q3 := cell_later (B := w8.heap.size) (w := w8) t3 hp3
            have z3 := cell_later (B := w8.heap.size) (w := w8) s3 hp3'
            have q4 := cell_later (B := w8.heap.size) (w := w8) t4 hp3
            have z4 := cell_later (B := w8.heap.size) (w := w8) s4 hp3'
            have q5 := cell_later (B := w8.heap.size) (w := w8) t5 hp3
            have z5 := cell_later (B := w8.heap.size) (w := w8) s5 hp3'
            have q6 := cell_later (B := w8.heap.size) (w := w8) t6 hp3
            have z6 := cell_later (B := w8.heap.size) (w := w8) s6 hp3'
            first | refine mix_pure ?_ | refine mix_pureB ?_
            simp only [List.takeWhile, List.dropWhile, isPure, Nat.reduceBNe]
            repeat (go_big_quiet_step (fail))
            refine wpQuiet_nil ?_
            clear q2 q3 q4 q5 q6 z2 z3 z4 z5 z6
            first | refine mix_call rfl (fun K hK => ?_) | refine mix_callB rfl (fun K hK => ?_)
            go_simp
            refine (HVS8.out).mono ?_
            rintro e w9 ⟨⟨r, rfl, hr⟩, hb⟩
            refine hK _ _ hb ?_
            clear hK K
            try simp only [Act.put]
            have HB9 : Hid (Below w.heap.size w w9) := Lib.hid (HB8.out.trans (hb.mono HB8.out.size))
            have HRR := Lib.hid hr
            clear hb HVS8 hr t2 t3 t4 t5 t6 s2 s3 s4 s5 s6 hp3 hp3' hs8
            first | refine mix_pure ?_ | refine mix_pureB ?_
            simp only [List.takeWhile, List.dropWhile, isPure, Nat.reduceBNe]
            repeat (go_big_quiet_step (fail))
            refine wpQuiet_nil ?_
            unfold wpMix
            cases r
            · have HF : Hid ((false = true) ↔ xs = ys) := Lib.hid ⟨fun h => (by cases h), fun h => by
                have h1 := HRR.out.2 (by subst h; rfl)
                cases h1⟩
              go_wp2_with fail
              go_ret
              exact ⟨⟨_, rfl, HF.out⟩, HB9.out⟩
            · have HEQ : Hid (xs[j] = ys[j]) := Lib.hid (DelT.same HALL.out.1 HALL.out.2 HPP.out (HRR.out.1 rfl))
              go_wp2_with fail
              go_roundw
              case rel => exact ⟨j + 1, by go_num, by omega, Lib.hid (fun k h h' hkj => by
                by_cases e : k = j
                · subst e; exact HEQ.out
                · exact HE.out k h h' (by omega)), HB9⟩
              case measure => simp [intOf]; omega
          · have HF : Hid ((false = true) ↔ xs = ys) := Lib.hid ⟨fun h => (by cases h), fun h => absurd (by subst h; rfl) hpp⟩
            rw [decide_eq_false hpp]
            clear hpp
            first | refine mix_pure ?_ | refine mix_pureB ?_
            simp only [List.takeWhile, List.dropWhile, isPure, Nat.reduceBNe]
            repeat (go_big_quiet_step (fail))
            refine wpQuiet_nil ?_
            first | refine mix_call rfl (fun K hK => ?_) | refine mix_callB rfl (fun K hK => ?_)
            go_simp
            refine hK _ _ (Below.refl _ _) ?_
            clear hK K
            try simp only [Act.put]
            first | refine mix_pure ?_ | refine mix_pureB ?_
            simp only [List.takeWhile, List.dropWhile, isPure, Nat.reduceBNe]
            repeat (go_big_quiet_step (fail))
            refine wpQuiet_nil ?_
            unfold wpMix
            go_wp2_with fail
            go_ret
            exact ⟨⟨_, rfl, HF.out⟩, HB8.out⟩
        · have HF : Hid ((false = true) ↔ xs = ys) := Lib.hid ⟨fun h => (by cases h), fun h => absurd (by subst h; exact ⟨rfl, rfl⟩) hall⟩
          have HB8 : Hid (Below w.heap.size w wr.drew) := Lib.hid HB.out.drew
          have hcut : (xs[j].kind ≠ ys[j].kind) ∨ (xs[j].kind = ys[j].kind ∧ xs[j].num ≠ ys[j].num) := by
            by_cases h1 : xs[j].kind = ys[j].kind
            · exact .inr ⟨h1, fun h2 => hall ⟨h1, h2⟩⟩
            · exact .inl h1
          clear hall HPS HVS
          rcases hcut with h1 | ⟨h1, h2⟩
          · have e0 : (xs[j].kind != ys[j].kind) = true := bne_iff_ne.2 h1
            clear h1
            go_wp2_with fail
            refine wp_region_mix [0, 1, 2, 3, 4, 5, 6, 7, 8, 9, 10, 11, 12, 13, 14, 15, 16, 17, 18, 19, 20, 21, 22, 23, 24, 25, 26, 27, 28, 29, 30, 31, 32, 33, 34, 35, 36, 37, 38, 39, 40, 41, 42, 43, 44, 45, 46, 47, 48, 49, 50, 51] (by kernel_rfl) (by kernel_rfl) (fun _ d _ _ _ h => by cases d <;> exact h) ?_
            simp only [atNats, List.filterMap_cons, List.filterMap_nil, List.getElem?_toArray, List.getElem?_cons_succ, List.getElem?_cons_zero]
            have q0 := cell_later (B := wr.heap.size) (w := wr.drew) x0 hp2
            have q1 := cell_later (B := wr.heap.size) (w := wr.drew) x1 hp2
            have q2 := cell_later (B := wr.heap.size) (w := wr.drew) x2 hp2
            have q3 := cell_later (B := wr.heap.size) (w := wr.drew) x3 hp2
            have q4 := cell_later (B := wr.heap.size) (w := wr.drew) x4 hp2
            have q5 := cell_later (B := wr.heap.size) (w := wr.drew) x5 hp2
            have q6 := cell_later (B := wr.heap.size) (w := wr.drew) x6 hp2
            have q7 := cell_later (B := wr.heap.size) (w := wr.drew) x7 hp2
            have z0 := cell_later (B := wr.heap.size) (w := wr.drew) g0 hp2'
            have z1 := cell_later (B := wr.heap.size) (w := wr.drew) g1 hp2'
            have z2 := cell_later (B := wr.heap.size) (w := wr.drew) g2 hp2'
            have z3 := cell_later (B := wr.heap.size) (w := wr.drew) g3 hp2'
            have z4 := cell_later (B := wr.heap.size) (w := wr.drew) g4 hp2'
            have z5 := cell_later (B := wr.heap.size) (w := wr.drew) g5 hp2'
            have z6 := cell_later (B := wr.heap.size) (w := wr.drew) g6 hp2'
            have z7 := cell_later (B := wr.heap.size) (w := wr.drew) g7 hp2'
            first | refine mix_pure ?_ | refine mix_pureB ?_
            simp only [List.takeWhile, List.dropWhile, isPure, Nat.reduceBNe]
            repeat (go_big_quiet_step (fail))
            refine wpQuiet_nil ?_
            first | refine mix_call rfl (fun K hK => ?_) | refine mix_callB rfl (fun K hK => ?_)
            go_simp
            refine hK _ _ (Below.refl _ _) ?_
            clear hK K
            try simp only [Act.put]
            first | refine mix_pure ?_ | refine mix_pureB ?_
            simp only [List.takeWhile, List.dropWhile, isPure, Nat.reduceBNe]
            repeat (go_big_quiet_step (fail))
            refine wpQuiet_nil ?_
            first | refine mix_call rfl (fun K hK => ?_) | refine mix_callB rfl (fun K hK => ?_)
            go_simp
            refine hK _ _ (Below.refl _ _) ?_
            clear hK K
            try simp only [Act.put]
            first | refine mix_pure ?_ | refine mix_pureB ?_
            simp only [List.takeWhile, List.dropWhile, isPure, Nat.reduceBNe]
            repeat (go_big_quiet_step (fail))
            refine wpQuiet_nil ?_
            unfold wpMix
            clear q0 q1 q2 q3 q4 q5 q6 q7 z0 z1 z2 z3 z4 z5 z6 z7
            go_wp2_with fail
            go_ret
            exact ⟨⟨_, rfl, HF.out⟩, HB8.out⟩
          · have e0 : (xs[j].kind != ys[j].kind) = false := by rw [h1]; simp
            have e7 : (xs[j].num != ys[j].num) = true := bne_iff_ne.2 h2
            clear h1 h2
            go_wp2_with fail
            refine wp_region_mix [0, 1, 2, 3, 4, 5, 6, 7, 8, 9, 10, 11, 12, 13, 14, 15, 16, 17, 18, 19, 20, 21, 22, 23, 24, 25, 26, 27, 28, 29, 30, 31, 32, 33, 34, 35, 36, 37, 38, 39, 40, 41, 42, 43, 44, 45, 46, 47, 48, 49, 50, 51] (by kernel_rfl) (by kernel_rfl) (fun _ d _ _ _ h => by cases d <;> exact h) ?_
            simp only [atNats, List.filterMap_cons, List.filterMap_nil, List.getElem?_toArray, List.getElem?_cons_succ, List.getElem?_cons_zero]
            have q0 := cell_later (B := wr.heap.size) (w := wr.drew) x0 hp2
            have q1 := cell_later (B := wr.heap.size) (w := wr.drew) x1 hp2
            have q2 := cell_later (B := wr.heap.size) (w := wr.drew) x2 hp2
            have q3 := cell_later (B := wr.heap.size) (w := wr.drew) x3 hp2
            have q4 := cell_later (B := wr.heap.size) (w := wr.drew) x4 hp2
            have q5 := cell_later (B := wr.heap.size) (w := wr.drew) x5 hp2
            have q6 := cell_later (B := wr.heap.size) (w := wr.drew) x6 hp2
            have q7 := cell_later (B := wr.heap.size) (w := wr.drew) x7 hp2
            have z0 := cell_later (B := wr.heap.size) (w := wr.drew) g0 hp2'
            have z1 := cell_later (B := wr.heap.size) (w := wr.drew) g1 hp2'
            have z2 := cell_later (B := wr.heap.size) (w := wr.drew) g2 hp2'
            have z3 := cell_later (B := wr.heap.size) (w := wr.drew) g3 hp2'
            have z4 := cell_later (B := wr.heap.size) (w := wr.drew) g4 hp2'
            have z5 := cell_later (B := wr.heap.size) (w := wr.drew) g5 hp2'
            have z6 := cell_later (B := wr.heap.size) (w := wr.drew) g6 hp2'
            have z7 := cell_later (B := wr.heap.size) (w := wr.drew) g7 hp2'
            first | refine mix_pure ?_ | refine mix_pureB ?_
            simp only [List.takeWhile, List.dropWhile, isPure, Nat.reduceBNe]
            repeat (go_big_quiet_step (fail))
            refine wpQuiet_nil ?_
            first | refine mix_call rfl (fun K hK => ?_) | refine mix_callB rfl (fun K hK => ?_)
            go_simp
            refine hK _ _ (Below.refl _ _) ?_
            clear hK K
            try simp only [Act.put]
            first | refine mix_pure ?_ | refine mix_pureB ?_
            simp only [List.takeWhile, List.dropWhile, isPure, Nat.reduceBNe]
            repeat (go_big_quiet_step (fail))
            refine wpQuiet_nil ?_
            first | refine mix_call rfl (fun K hK => ?_) | refine mix_callB rfl (fun K hK => ?_)
            go_simp
            refine hK _ _ (Below.refl _ _) ?_
            clear hK K
            try simp only [Act.put]
            first | refine mix_pure ?_ | refine mix_pureB ?_
            simp only [List.takeWhile, List.dropWhile, isPure, Nat.reduceBNe]
            repeat (go_big_quiet_step (fail))
            refine wpQuiet_nil ?_
            unfold wpMix
            clear q0 q1 q2 q3 q4 q5 q6 q7 z0 z1 z2 z3 z4 z5 z6 z7
            go_wp2_with fail
            go_ret
            exact ⟨⟨_, rfl, HF.out⟩, HB8.out⟩
      · have HF : Hid ((true = true) ↔ xs = ys) := Lib.hid ⟨fun _ => List.ext_getElem HL.out (fun k h h' => HE.out k h h' (by have := HMA.out; omega)), fun _ => rfl⟩
        have d1 : decide ((j : Int) < (m : Int)) = false := decide_eq_false (by omega)
        go_wp2_with fail
        go_ret
        exact ⟨.inr ⟨rfl, by have h := HF.out; simpa using h⟩, HB.out⟩
  · have d1 : ((xs.length : Int) != (ys.length : Int)) = true := bne_iff_ne.2 (by omega)
    have HN : Hid (xs ≠ ys) := Lib.hid fun e => hl (by rw [e])
    clear hl
    go_enter Tryz.func18, Tryz.ntmps18
    go_wp2_with fail
    go_ret
    exact ⟨⟨false, rfl, by have := HN.out; simpa using this⟩, Below.refl _ _⟩
end Go.Proofs.YtnamdlljdgllmaaGreat

/- Bytes that came in. -/
namespace Go.Proofs.YtnamdlljdgllmaaGreat.OpenB
set_option linter.unusedVariables false
set_option linter.unusedSimpArgs false
open Go.ChangeShapes Go.WideShapes Go.ChangeAt Go.RowKit Go.Joins Go.Deep
set_option linter.unusedVariables false
section
variable {H : Type} {enc : TypeId × Value → H} {W : World} {sp : Nat → Bool}
theorem add_at (b off i : Nat) : ((⟨b, off, none⟩ : Addr).add i) = ⟨b, off + i, none⟩ := by
  unfold Addr.add
  split
  · next h => simp [h]
  · rfl

theorem open_bytes {fuel : Nat} {A : Option Addr} {len cap : Nat} {x : DataW H × List MemPlace} (h : DataW.trod enc Tryz.prog W 0 sp true fuel 46 [.slice A len cap] = some x) :
    (∃ l : List UInt8, len = l.length ∧ Rd W W.heap.size (.slice A l.length cap) l) ∧ (len = 0 ∨ ∃ es rs, x.1 = .slice es rs ∧ es.length = len) := by
  rcases open_ints Tryz.underlying46 Tryz.underlying5 (by kernel_rfl) h with ⟨hcs, _⟩ | ⟨a, len', cap', zs, hcs, _, hl, hm, hz, hxx, hcell, hwf⟩
  · simp only [List.cons.injEq, Value.slice.injEq, and_true] at hcs
    obtain ⟨rfl, rfl, rfl⟩ := hcs
    exact ⟨⟨[], rfl, none, 0, rfl, by simp, ⟨by decide, fun _ => rfl⟩, fun h => absurd h (by simp)⟩, .inl rfl⟩
  · simp only [List.cons.injEq, Value.slice.injEq, and_true] at hcs
    obtain ⟨rfl, rfl, rfl⟩ := hcs
    have hzl : len ≤ zs.length := by rw [hz]; split <;> omega
    have hlen : len = ((zs.take len).map fun z => UInt8.ofNat z.toNat).length := by simp; omega
    refine ⟨⟨(zs.take len).map fun z => UInt8.ofNat z.toNat, hlen, some a, cap, rfl, by rw [← hlen]; exact hl, ⟨by unfold maxLen at hm; omega, fun h => by cases h⟩, fun hp => ?_⟩, .inr ⟨_, _, by rw [hxx], by simp [lits]; omega⟩⟩
    rw [← hlen] at hp
    obtain ⟨b, off, spot⟩ := a
    have h0 := hcell 0 (by omega)
    obtain rfl : spot = none := by simpa [Addr.add] using World.cell?_spot h0
    refine ⟨b, off, rfl, ?_, fun i hi => ?_⟩
    · rw [add_at] at h0; exact World.block_lt_of_cell? W _ h0
    · rw [← hlen] at hi
      have hi2 : i < zs.length := by omega
      have h1 := hcell i hi2
      rw [add_at] at h1
      rw [h1]
      have hb := bounds_u8 (hwf zs[i] (List.getElem_mem hi2))
      have e : zs.getD i 0 = zs[i] := by simp [List.getD, List.getElem?_eq_getElem hi2]
      rw [e]
      simp only [List.getElem_map, List.getElem_take]
      rw [ofNat_toNat _ (by omega)]
      congr 2
      omega
end
end Go.Proofs.YtnamdlljdgllmaaGreat.OpenB
