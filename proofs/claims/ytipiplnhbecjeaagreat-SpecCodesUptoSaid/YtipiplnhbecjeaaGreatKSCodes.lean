/- The code of any update, put behind any bytes, is the document's, and it is read; where the two arguments hold together at most 1048576 values and letters. -/
import Derived.Test.YtipiplnhbecjeaaGreatKSpRi
import Derived.Test.YtipiplnhbecjeaaGreatKSpSa
import Derived.Test.YtipiplnhbecjeaaGreatKKeA
import Derived.Test.YtipiplnhbecjeaaGreatKOpenB
import Derived.Test.YtipiplnhbecjeaaGreatKSpX
import Derived.Test.YtipiplnhbecjeaaGreatKSpM
import Derived.Test.YtipiplnhbecjeaaGreatKSpS
import Derived.JoinedCond
import Derived.Deep.CondSized
import Derived.SizedLaws
import Derived.ProofKit
import Derived.OpenShut
import Derived.ShutString
import Derived.ChangeOld
import Derived.Below
namespace Go.Proofs.YtipiplnhbecjeaaGreat.SCodes
set_option linter.unusedVariables false
set_option linter.unusedSimpArgs false
open Go.ChangeShapes Go.WideShapes Go.ChangeAt Go.RowKit Go.Joins OpenB
set_option linter.unusedVariables false

theorem own : ownKnob Tryz.prog.godebug = none := by kernel_rfl
theorem laidOut : laidOutB Tryz.prog = true := by kernel_rfl
theorem all_takeC {l : List OpT} {k : Nat} (hk : k < l.length) : (l.take (k + 1)).all mayO = ((l.take k).all mayO && mayO l[k]) := by
  rw [List.take_add_one, List.getElem?_eq_getElem hk, List.all_append]
  simp
theorem boxs_of {w w' : World} {B g : Nat} {s : SpecT} {DA : Option Addr} {dc : Nat} {DA' : Option Addr} {dc' : Nat} {OA : Option Addr} {oc : Nat} (h : SBox w g s DA dc DA' dc' OA oc) (hb : Below B w w') (hg : g < B) : SBox w' g s DA dc DA' dc' OA oc := (hb.block g hg).trans h
theorem boxs_lt {w : World} {g : Nat} {s : SpecT} {DA : Option Addr} {dc : Nat} {DA' : Option Addr} {dc' : Nat} {OA : Option Addr} {oc : Nat} (h : SBox w g s DA dc DA' dc' OA oc) : g < w.heap.size := (Array.getElem?_eq_some_iff.1 h).1

theorem k8_none {w w' : World} (hg : w.grownBy w' none) : K8 w w' := fun k o hk _ _ => (hg.block k (Array.getElem?_eq_some_iff.1 hk).1 (by simp)).trans hk
theorem codeS_pos {s : SpecT} (h : checkS s = 0) : 1 ≤ (codeS s).length := by
  unfold codeS
  rw [if_pos h]
  split <;> simp <;> omega
theorem codeS_small {w : World} {S : Nat → Prop} {s : SpecT} {cs : Array Value} (h : checkS s = 0) (hz : SmallZ s) (hL : SpecL w S s cs) : (codeS s).length ≤ 33700000 := by
  unfold codeS
  rw [if_pos h]
  cases hr : s.rep with
  | true =>
    have := encO_length (t := s.doc) hz.1
    simp only [if_true, List.length_append, List.length_cons, List.length_nil]
    omega
  | false =>
    obtain ⟨h1, h2⟩ := check_zero_ops h hr
    have h3 := codes_small (l := s.ops) fun o ho => ⟨h2 o ho, hz.2 o ho⟩
    have h4 := (grp_length s.ops.length).1
    simp only [Bool.false_eq_true, if_false, List.length_append, List.length_cons, List.length_nil]
    omega
theorem ba_eq (l m : List UInt8) : ((⟨l.toArray⟩ : ByteArray).toList == (⟨m.toArray⟩ : ByteArray).toList) = decide (l = m) := by
  rw [ByteArray.toList_eq, ByteArray.toList_eq]
  by_cases h : l = m
  · subst h; simp
  · rw [decide_eq_false h]
    exact beq_eq_false_iff_ne.2 (by simpa using h)
theorem ba_app (l m : List UInt8) : (⟨l.toArray⟩ : ByteArray) ++ ⟨m.toArray⟩ = ⟨(l ++ m).toArray⟩ := by
  apply ByteArray.ext
  simp [ByteArray.data_append]
set_option maxHeartbeats 16000000 in
set_option maxRecDepth 100000 in
theorem walk (s : SpecT) (cs : Array Value) (A : Option Addr) (cap : Nat) (l : List UInt8) (w : World) (h : SpecL w (fun b => b < w.heap.size) s cs) (hr : Rd w w.heap.size (.slice A l.length cap) l) (hl : l.length ≤ 1048576) :
    Calls Tryz.prog 4 #[.agg cs, .slice A l.length cap] w fun e w' => e = .returned (.bool true) ∧ Below w.heap.size w w' := by
  obtain ⟨DA, dc, DA', dc', OA, oc, rfl, hv, ho, hoc, hol⟩ := id h
  obtain ⟨w1, hw1⟩ : ∃ W, W = w.alloc (.cells #[.bool s.rep, .int .i64 s.doc.kind, .int .i64 s.doc.num, .string s.doc.text, .slice DA s.doc.items.length dc, .slice DA' s.doc.names.length dc', .slice OA s.ops.length oc] 28) := ⟨_, rfl⟩
  have hbk : SBox w1 w.heap.size s DA dc DA' dc' OA oc := by rw [hw1]; exact heap_alloc_new w _
  have hb1 : Below w.heap.size w w1 := by rw [hw1]; exact (Below.refl _ _).alloc (Nat.le_refl _) _
  have HS : Hid (∀ b, (fun b => b < w.heap.size) b → b < w.heap.size) := Lib.hid fun b hb => hb
  have HL := Lib.hid h
  have HLG := Lib.hid (rlarge7_any (fun b => b < w.heap.size) s _ w1 (fun b hb => Nat.lt_of_lt_of_le hb hb1.size) (h.below HS.out hb1))
  have y0 := Go.Joins.cell_of_block hbk 0
  have y1 := Go.Joins.cell_of_block hbk 1
  have y2 := Go.Joins.cell_of_block hbk 2
  have y3 := Go.Joins.cell_of_block hbk 3
  have y4 := Go.Joins.cell_of_block hbk 4
  have y5 := Go.Joins.cell_of_block hbk 5
  have y6 := Go.Joins.cell_of_block hbk 6
  have HX1 := Lib.hid hbk
  have HB1 := Lib.hid hb1
  have HLL := Lib.hid hl
  obtain ⟨n, hn⟩ : ∃ n, n = l.length := ⟨_, rfl⟩
  have HN := Lib.hid hn
  rw [← hn] at hr hl ⊢
  have HR := Lib.hid hr
  clear h hv ho hbk hb1 hoc hol hr hn
  cases hlg : largeS s with
  | true =>
    rw [hlg] at HLG
    clear hlg
    go_enter Tryz.func4, Tryz.ntmps4
    go_wp2_with fail
    rw [← hw1]
    refine HLG.out.mono ?_
    rintro e w2 ⟨rfl, hb⟩
    have HB2 := Lib.hid (HB1.out.trans (hb.mono HB1.out.size))
    clear hb HLG y0 y1 y2 y3 y4 y5 y6
    go_wp2_with fail
    refine (lives7_any _).mono ?_
    rintro e v9 ⟨rfl, hb⟩
    have HF := Lib.hid (HB2.out.trans (hb.mono HB2.out.size))
    clear hb
    go_wp2_with fail
    go_ret
    exact ⟨rfl, HF.out⟩
  | false =>
    rw [hlg] at HLG
    have HSM := Lib.hid (small_all HL.out hlg)
    obtain ⟨l1, l2, l3⟩ := largeS_small hlg
    have HSR : Hid (SmallR s) := Lib.hid ⟨by omega, fun o ho => by have := (l3 o ho).1; omega⟩
    have HRN := Lib.hid HL.out.rng
    clear hlg l1 l2 l3
    go_enter Tryz.func4, Tryz.ntmps4
    go_wp2_with fail
    rw [← hw1]
    refine HLG.out.mono ?_
    rintro e w2 ⟨rfl, hb⟩
    have HB2 := Lib.hid (HB1.out.trans (hb.mono HB1.out.size))
    have HX2 := Lib.hid (boxs_of HX1.out hb (boxs_lt HX1.out))
    clear hb HLG HX1 HB1 hw1 y0 y1 y2 y3 y4 y5 y6
    go_wp2_with fail
    obtain ⟨w3, hw3⟩ : ∃ W, W = w2.drew := ⟨_, rfl⟩
    have HX3 : Hid (SBox w3 w.heap.size s DA dc DA' dc' OA oc) := Lib.hid (by rw [hw3]; exact HX2.out)
    have HB3 : Hid (Below w.heap.size w w3) := Lib.hid (by rw [hw3]; exact HB2.out.drew)
    have HW3 := Lib.hid hw3
    clear hw3
    have q0 := cell_k8 (w := w2.drew) (i := 0) (show w2.drew.heap[w.heap.size]? = _ from HX2.out) (by decide) rfl
    have q1 := cell_k8 (w := w2.drew) (i := 1) (show w2.drew.heap[w.heap.size]? = _ from HX2.out) (by decide) rfl
    have q2 := cell_k8 (w := w2.drew) (i := 2) (show w2.drew.heap[w.heap.size]? = _ from HX2.out) (by decide) rfl
    have q3 := cell_k8 (w := w2.drew) (i := 3) (show w2.drew.heap[w.heap.size]? = _ from HX2.out) (by decide) rfl
    have q4 := cell_k8 (w := w2.drew) (i := 4) (show w2.drew.heap[w.heap.size]? = _ from HX2.out) (by decide) rfl
    have q5 := cell_k8 (w := w2.drew) (i := 5) (show w2.drew.heap[w.heap.size]? = _ from HX2.out) (by decide) rfl
    have q6 := cell_k8 (w := w2.drew) (i := 6) (show w2.drew.heap[w.heap.size]? = _ from HX2.out) (by decide) rfl
    refine wp_region_OT K8 (fun w => Lib.OthersKept.refl _ _ _) (fun _ _ _ h k => h.trans k) [] (.pure [0, 1, 2, 4, 6] (.step 3 (.step 5 (.step 7 (.free [8] (.tail [])))))) (by kernel_rfl) (by kernel_rfl) (fun _ d _ _ _ h => by cases d <;> exact h) ?_
    refine ot_pure ?_
    simp only [atNats, List.filterMap_cons, List.filterMap_nil, List.getElem?_toArray, List.getElem?_cons_succ, List.getElem?_cons_zero]
    show wpQuiet _ _ _ _ [_, _, _, _, _] _
    repeat (go_big_quiet_step (fail))
    refine wpQuiet_nil ?_
    clear q0 q1 q2 q3 q4 q5 q6
    rw [← HW3.out]
    clear HW3 HX2 HB2
    refine ot_act rfl rfl (fun K hK => ?_)
    refine wp_make_own _ _ rfl w.heap.size _ (n + 9) rfl rfl (by first | rfl | omega) (by omega) HB3.out.size (fun w4 hown hg => ?_)
    have hk := k8_none hg
    refine hK _ _ (.inr hk) ?_
    clear hK K
    simp only [List.getElem_toArray, List.getElem_cons_succ, List.getElem_cons_zero, Act.put, List.setIfInBounds_toArray, List.set_cons_succ, List.set_cons_zero]
    have HX4 := Lib.hid (boxs_k8 HX3.out hk)
    have HB4 := Lib.hid (HB3.out.grown hg HB3.out.size (fun k hk => by cases hk))
    have HO4 := Lib.hid hown
    have HR4 := Lib.hid (HR.out.keep HB4.out)
    clear hown hg hk HX3
    refine ot_act rfl rfl (fun K hK => ?_)
    refine wp_append_bytesN _ _ rfl w.heap.size _ [] rfl HO4.out w.heap.size _ l rfl HR4.out HB4.out.size (by have := HLL.out; simp only [List.length_nil]; omega) (fun v5 w5 hv5 hg5 => ?_)
    have hk := k8_grown HO4.out hg5
    refine hK _ _ (.inr hk) ?_
    clear hK K
    simp only [List.getElem_toArray, List.getElem_cons_succ, List.getElem_cons_zero, Act.put, List.setIfInBounds_toArray, List.set_cons_succ, List.set_cons_zero]
    rw [List.nil_append] at hv5
    have HX5 := Lib.hid (boxs_k8 HX4.out hk)
    have HB5 := Lib.hid (below_own HB4.out HO4.out HB4.out.size hg5)
    have HP5 := Lib.hid (spput_any (fun b => b < w.heap.size) s _ v5 l w5 (fun b hb => Nat.lt_of_lt_of_le hb HB5.out.size) (HL.out.below HS.out HB5.out) HSM.out.1 HSM.out.2 hv5.rd (by have := HLL.out; omega))
    clear hv5 hg5 hk HX4 HB4 HO4 HR4 HB3
    refine ot_step rfl (fun K hK => ?_)
    go_simp
    refine HP5.out.mono ?_
    rintro e w6 ⟨v6, rfl, hv6, hb⟩
    go_simp
    refine hK _ _ (.inr (k8_below hb)) ?_
    clear hK K
    have HX6 := Lib.hid (boxs_of HX5.out hb (boxs_lt HX5.out))
    have HB6 := Lib.hid (HB5.out.trans (hb.mono HB5.out.size))
    have HV6 := Lib.hid (hv6.base HB5.out.size)
    clear hv6 hb HP5 HX5 HB5
    refine ot_free ?_
    simp only [atNats, List.filterMap_cons, List.filterMap_nil, List.getElem?_toArray, List.getElem?_cons_succ, List.getElem?_cons_zero]
    show wpQuiet _ _ _ _ [_] _
    repeat (go_big_quiet_step (fail))
    refine wpQuiet_nil ?_
    refine ot_end ?_
    go_wp2_with fail
    refine (lives7_any _).mono ?_
    rintro e w7 ⟨rfl, hb⟩
    have HX7 := Lib.hid (boxs_of HX6.out hb (boxs_lt HX6.out))
    have HB7 := Lib.hid (HB6.out.trans (hb.mono HB6.out.size))
    have HV7 := Lib.hid (HV6.out.below hb)
    have HC7 := Lib.hid (rspcheck_any _ s _ w7 (fun b hb => Nat.lt_of_lt_of_le (HS.out b hb) HB7.out.size) (HL.out.below HS.out HB7.out) HSR.out)
    clear hb HX6 HB6 HV6
    have y0 := Go.Joins.cell_of_block HX7.out 0
    have y1 := Go.Joins.cell_of_block HX7.out 1
    have y2 := Go.Joins.cell_of_block HX7.out 2
    have y3 := Go.Joins.cell_of_block HX7.out 3
    have y4 := Go.Joins.cell_of_block HX7.out 4
    have y5 := Go.Joins.cell_of_block HX7.out 5
    have y6 := Go.Joins.cell_of_block HX7.out 6
    go_wp2_with fail
    refine HC7.out.mono ?_
    rintro e w8 ⟨rfl, hb⟩
    have HX8 := Lib.hid (boxs_of HX7.out hb (boxs_lt HX7.out))
    have HB8 := Lib.hid (HB7.out.trans (hb.mono HB7.out.size))
    have HV8 := Lib.hid (HV7.out.below hb)
    have HR8 := Lib.hid (HR.out.keep HB8.out)
    obtain ⟨x, hx⟩ : ∃ x, x = checkS s := ⟨_, rfl⟩
    rw [← hx]
    have HXC := Lib.hid hx
    clear hb HX7 HB7 HV7 HC7 hx y0 y1 y2 y3 y4 y5 y6
    by_cases hx0 : x = 0
    rotate_left
    · have hne : (x != 0) = true := bne_iff_ne.2 hx0
      have e1 := HV8.out.rd.strS
      rw [show l ++ codeS s = l from by unfold codeS; rw [if_neg (fun h => hx0 (HXC.out.trans h)), List.append_nil]] at e1
      have e2 := HR8.out.strS
      have e3 : ((⟨l.toArray⟩ : ByteArray).toList == (⟨l.toArray⟩ : ByteArray).toList) = true := by simp
      obtain ⟨xs, hxs⟩ : ∃ x, x = (⟨l.toArray⟩ : ByteArray) := ⟨_, rfl⟩
      rw [← hxs] at e1 e2 e3
      clear hx0 hxs
      go_wp2_with fail
      go_ret
      exact ⟨by simp, HB8.out⟩
    subst hx0
    have HCK : Hid (checkS s = 0) := Lib.hid HXC.out.symm
    have y0 := Go.Joins.cell_of_block HX8.out 0
    have y1 := Go.Joins.cell_of_block HX8.out 1
    have y2 := Go.Joins.cell_of_block HX8.out 2
    have y3 := Go.Joins.cell_of_block HX8.out 3
    have y4 := Go.Joins.cell_of_block HX8.out 4
    have y5 := Go.Joins.cell_of_block HX8.out 5
    have y6 := Go.Joins.cell_of_block HX8.out 6
    obtain ⟨C, hC⟩ : ∃ C, C = codeS s := ⟨_, rfl⟩
    have HC := Lib.hid hC
    rw [← hC] at HV8
    have hcl : C.length ≤ 33700000 := by
      rw [hC]; exact codeS_small HCK.out HSM.out.2 HL.out
    have hcp : 1 ≤ C.length := by rw [hC]; exact codeS_pos HCK.out
    have HCL := Lib.hid (And.intro hcp hcl)
    clear hC hcp hcl
    go_wp2_with fail
    refine wp_region_mix [0, 1, 2, 3, 4, 5, 6, 7, 8] (by kernel_rfl) (by kernel_rfl) (fun _ d _ _ _ h => by cases d <;> exact h) ?_
    simp only [atNats, List.filterMap_cons, List.filterMap_nil, List.getElem?_toArray, List.getElem?_cons_succ, List.getElem?_cons_zero]
    have HXD : Hid (SBox w8.drew w.heap.size s DA dc DA' dc' OA oc) := Lib.hid HX8.out
    have HBD : Hid (Below w.heap.size w w8.drew) := Lib.hid HB8.out.drew
    have cv1 := run_later (B := w8.heap.size) (w := w8.drew) (s := convert 39 9 v6) fun u hu => (HV8.out.below (show Below w8.heap.size w8 u from ⟨hu.os, hu.tape, hu.output, hu.size, hu.block⟩)).rd.strS
    have cv2 := run_later (B := w8.heap.size) (w := w8.drew) (s := convert 39 9 (.slice A n cap)) fun u hu => (HR8.out.keep (Below.mono (show Below w8.heap.size w8 u from ⟨hu.os, hu.tape, hu.output, hu.size, hu.block⟩) HB8.out.size)).strS
    have z0 := cell_later (B := w8.heap.size) (w := w8.drew) (show w8.drew.cell? ⟨w.heap.size, 0, none⟩ = _ from Go.Joins.cell_of_block HX8.out 0) (boxs_lt HX8.out)
    have z1 := cell_later (B := w8.heap.size) (w := w8.drew) (show w8.drew.cell? ⟨w.heap.size, 1, none⟩ = _ from Go.Joins.cell_of_block HX8.out 1) (boxs_lt HX8.out)
    have z2 := cell_later (B := w8.heap.size) (w := w8.drew) (show w8.drew.cell? ⟨w.heap.size, 2, none⟩ = _ from Go.Joins.cell_of_block HX8.out 2) (boxs_lt HX8.out)
    have z3 := cell_later (B := w8.heap.size) (w := w8.drew) (show w8.drew.cell? ⟨w.heap.size, 3, none⟩ = _ from Go.Joins.cell_of_block HX8.out 3) (boxs_lt HX8.out)
    have z4 := cell_later (B := w8.heap.size) (w := w8.drew) (show w8.drew.cell? ⟨w.heap.size, 4, none⟩ = _ from Go.Joins.cell_of_block HX8.out 4) (boxs_lt HX8.out)
    have z5 := cell_later (B := w8.heap.size) (w := w8.drew) (show w8.drew.cell? ⟨w.heap.size, 5, none⟩ = _ from Go.Joins.cell_of_block HX8.out 5) (boxs_lt HX8.out)
    have z6 := cell_later (B := w8.heap.size) (w := w8.drew) (show w8.drew.cell? ⟨w.heap.size, 6, none⟩ = _ from Go.Joins.cell_of_block HX8.out 6) (boxs_lt HX8.out)
    clear y0 y1 y2 y3 y4 y5 y6
    first | refine mix_pure ?_ | refine mix_pureB ?_
    simp only [List.takeWhile, List.dropWhile, isPure, Nat.reduceBNe]
    repeat (go_big_quiet_step (fail))
    refine wpQuiet_nil ?_
    clear z0 z1 z2 z3 z4 z5 z6 cv1 cv2
    first | refine mix_call rfl (fun K hK => ?_) | refine mix_callB rfl (fun K hK => ?_)
    go_simp
    refine (rcode_any _ s _ w8.drew (fun b hb => Nat.lt_of_lt_of_le (HS.out b hb) HB8.out.size) (HL.out.below HS.out HBD.out) HSM.out.2 HCK.out).mono ?_
    rintro e w9 ⟨v9, rfl, hv9, hb⟩
    refine hK _ _ hb ?_
    clear hK K
    try simp only [Act.put]
    have HX9 := Lib.hid (boxs_of HXD.out hb (boxs_lt HXD.out))
    have HB9 := Lib.hid (HBD.out.trans (hb.mono HBD.out.size))
    have HV9 := Lib.hid ((show OwnB w8.drew w.heap.size v6 (l ++ C) from HV8.out).below hb)
    have HR9 := Lib.hid (HR.out.keep HB9.out)
    rw [← HC.out] at hv9
    have cv := run_later (B := w9.heap.size) (w := w9) (s := convert 39 9 v9) fun u hu => (hv9.below hu).rd.strS
    have happ := ba_app l C
    have e3 : ((⟨(l ++ C).toArray⟩ : ByteArray).toList != (⟨(l ++ C).toArray⟩ : ByteArray).toList) = false := by simp
    obtain ⟨xs, hxs⟩ : ∃ x, x = (⟨(l ++ C).toArray⟩ : ByteArray) := ⟨_, rfl⟩
    obtain ⟨yl, hyl⟩ : ∃ x, x = (⟨l.toArray⟩ : ByteArray) := ⟨_, rfl⟩
    obtain ⟨zl, hzl⟩ : ∃ x, x = (⟨C.toArray⟩ : ByteArray) := ⟨_, rfl⟩
    have hys : yl.size ≤ 1048576 := by rw [hyl, size_mk]; exact HLL.out
    have hzs : zl.size ≤ 33700000 := by rw [hzl, size_mk]; exact HCL.out.2
    rw [← hzl] at cv
    rw [← hxs, ← hyl, ← hzl] at happ
    rw [← hxs, ← hyl]
    rw [← hxs] at e3
    clear hv9 hb hxs hyl hzl HX8 HB8 HV8 HR8 HXD HBD
    first | refine mix_pure ?_ | refine mix_pureB ?_
    simp only [List.takeWhile, List.dropWhile, isPure, Nat.reduceBNe]
    repeat (go_big_quiet_step (fail))
    refine wpQuiet_nil ?_
    unfold wpMix
    clear cv happ e3 hys hzs
    obtain ⟨g, vc, hv6e, hgB, hgl, hgc⟩ := HV9.out.shape (by rw [List.length_append]; have := HCL.out.1; omega)
    obtain ⟨q, hq⟩ : ∃ q, q = C.length := ⟨_, rfl⟩
    have hN : (l ++ C).length = n + q := by rw [List.length_append, HN.out, hq]
    have hq1 : 1 ≤ q ∧ q ≤ 33700000 := by rw [hq]; exact HCL.out
    have hcap : n + q ≤ vc := by
      obtain ⟨A', c', e1, e2, -⟩ := HV9.out.rd
      rw [hv6e] at e1
      injection e1 with e3 e4 e5
      omega
    have hcut : Rd w9 w9.heap.size (.slice (some ⟨g, n, none⟩) q (vc - n)) C := by
      have h0 := HV9.out.rd
      rw [hv6e] at h0
      have h1 := h0.cutAny (k := l.length) (by simp)
      rw [if_neg (by rw [← HN.out]; omega), List.drop_left' rfl, hN, ← HN.out] at h1
      rw [show n + q - n = q by omega] at h1
      have h2 : ((some ⟨g, 0, none⟩ : Option Addr).map fun x => x.add n) = some ⟨g, n, none⟩ := by
        simp only [Option.map_some, Addr.add]
        split <;> simp_all
      rw [h2] at h1
      exact h1
    rw [hN] at hv6e
    subst hv6e
    have HF := Lib.hid (from_any _ ⟨C.toArray⟩ w9 hcut.strS)
    have hql : q ≤ 33700000 := hq1.2
    have hvn : ¬ vc = n := by omega
    have hnq : n ≤ n + q := by omega
    have hqi : ((n + q : Nat) : Int) - (n : Int) = (q : Int) := by omega
    have hsub : n + q - n = q := by omega
    have HCQ := Lib.hid hq
    clear hgB hgl hgc hN hq1 hcut hq
    go_wp2_with fail
    refine HF.out.mono ?_
    rintro e wa ⟨rfl, hsa, hb⟩
    have HXa := Lib.hid (boxs_of HX9.out hb (boxs_lt HX9.out))
    have HBa := Lib.hid (HB9.out.trans (hb.mono HB9.out.size))
    have hsl : SrcL wa w9.heap.size (some C) := ⟨hsa, by have := HCL.out.2; omega⟩
    have hgl := hsl.lt
    have hw9 : w.heap.size < w9.heap.size := Nat.lt_of_lt_of_le (boxs_lt HX9.out) (Nat.le_refl _)
    have HSL := Lib.hid hsl
    generalize w9.heap.size = g9 at *
    clear hb hsa hsl HF HX9 HB9 HV9 HR9
    go_wp2_with fail
    obtain ⟨BB, hBB⟩ : ∃ B, B = w.heap.size + 1 := ⟨_, rfl⟩
    have HBB := Lib.hid hBB
    clear hBB
    refine wp_region_mixB BB [0, 1, 2, 3, 5, 4, 6, 7, 8, 9, 10, 11, 12, 13] (by kernel_rfl) (by kernel_rfl) (fun _ d _ _ _ h => by cases d <;> exact h) ?_
    simp only [atNats, List.filterMap_cons, List.filterMap_nil, List.getElem?_toArray, List.getElem?_cons_succ, List.getElem?_cons_zero]
    have HXD : Hid (SBox wa.drew w.heap.size s DA dc DA' dc' OA oc) := Lib.hid HXa.out
    have HBD : Hid (Below w.heap.size w wa.drew) := Lib.hid HBa.out.drew
    have HSD : Hid (SrcL wa.drew g9 (some C)) := Lib.hid HSL.out
    have z0 := cell_later (B := BB) (w := wa.drew) (show wa.drew.cell? ⟨w.heap.size, 0, none⟩ = _ from Go.Joins.cell_of_block HXa.out 0) (by have := HBB.out; show w.heap.size < BB; omega)
    have z1 := cell_later (B := BB) (w := wa.drew) (show wa.drew.cell? ⟨w.heap.size, 1, none⟩ = _ from Go.Joins.cell_of_block HXa.out 1) (by have := HBB.out; show w.heap.size < BB; omega)
    have z2 := cell_later (B := BB) (w := wa.drew) (show wa.drew.cell? ⟨w.heap.size, 2, none⟩ = _ from Go.Joins.cell_of_block HXa.out 2) (by have := HBB.out; show w.heap.size < BB; omega)
    have z3 := cell_later (B := BB) (w := wa.drew) (show wa.drew.cell? ⟨w.heap.size, 3, none⟩ = _ from Go.Joins.cell_of_block HXa.out 3) (by have := HBB.out; show w.heap.size < BB; omega)
    have z4 := cell_later (B := BB) (w := wa.drew) (show wa.drew.cell? ⟨w.heap.size, 4, none⟩ = _ from Go.Joins.cell_of_block HXa.out 4) (by have := HBB.out; show w.heap.size < BB; omega)
    have z5 := cell_later (B := BB) (w := wa.drew) (show wa.drew.cell? ⟨w.heap.size, 5, none⟩ = _ from Go.Joins.cell_of_block HXa.out 5) (by have := HBB.out; show w.heap.size < BB; omega)
    have z6 := cell_later (B := BB) (w := wa.drew) (show wa.drew.cell? ⟨w.heap.size, 6, none⟩ = _ from Go.Joins.cell_of_block HXa.out 6) (by have := HBB.out; show w.heap.size < BB; omega)
    first | refine mix_pure ?_ | refine mix_pureB ?_
    simp only [List.takeWhile, List.dropWhile, isPure, Nat.reduceBNe]
    repeat (go_big_quiet_step (fail))
    refine wpQuiet_nil ?_
    clear z0 z1 z2 z3 z4 z5 z6
    first | refine mix_call rfl (fun K hK => ?_) | refine mix_callB rfl (fun K hK => ?_)
    go_simp
    refine (spread_any g9 (some C) wa.drew HSD.out).mono ?_
    rintro e wb ⟨cs', rfl, hL', hs', ho'⟩
    refine hK _ _ ((ho'.below (by have := boxs_lt HXD.out; have := HBB.out; omega) (by have := HBB.out; omega))) ?_
    clear hK K
    try simp only [Act.put]
    have hrdc : rdS (some C) = (s, some []) := by
      have h := rdS_code HCK.out HSM.out.2 HRN.out []
      rw [List.append_nil, ← HC.out] at h
      exact h
    rw [hrdc] at hL' hs'
    have hBb : Below w.heap.size w wb := HBD.out.trans (ho'.below (by have := boxs_lt HXD.out; omega) (by omega))
    have HSA := Lib.hid (rsame7_any (fun b => b < wb.heap.size) s s cs' _ wb (fun b hb => hb) (hL'.imp fun b hb => hb.2) ((HL.out.below HS.out hBb).imp fun b hb => Nat.lt_of_lt_of_le hb hBb.size))
    have HSB := Lib.hid hs'
    have HBb := Lib.hid hBb
    clear hL' hs' ho' hrdc hBb HSD HXD HBD
    first | refine mix_call rfl (fun K hK => ?_) | refine mix_callB rfl (fun K hK => ?_)
    go_simp
    refine (HSA.out).mono ?_
    rintro e wc ⟨⟨r, rfl, hr⟩, hb⟩
    refine hK _ _ ((hb.mono (by have := HBb.out.size; have := HSB.out.lt; have := HBB.out; omega))) ?_
    clear hK K
    try simp only [Act.put]
    obtain rfl : r = true := hr.2 rfl
    have HBc := Lib.hid (HBb.out.trans (hb.mono HBb.out.size))
    have HSC := Lib.hid (HSB.out.keep hb HSB.out.lt)
    clear hb hr HSA
    first | refine mix_pure ?_ | refine mix_pureB ?_
    simp only [List.takeWhile, List.dropWhile, isPure, Nat.reduceBNe]
    repeat (go_big_quiet_step (fail))
    refine wpQuiet_nil ?_
    first | refine mix_call rfl (fun K hK => ?_) | refine mix_callB rfl (fun K hK => ?_)
    go_simp
    refine (sdone_st g9 (some []) wc HSC.out).mono ?_
    rintro e wd ⟨rfl, rfl⟩
    refine hK _ _ ((Below.refl _ _)) ?_
    clear hK K
    try simp only [Act.put]
    rw [show doneOf (some []) = 0 from rfl]
    first | refine mix_pure ?_ | refine mix_pureB ?_
    simp only [List.takeWhile, List.dropWhile, isPure, Nat.reduceBNe]
    repeat (go_big_quiet_step (fail))
    refine wpQuiet_nil ?_
    unfold wpMix
    go_wp2_with fail
    go_ret
    exact ⟨rfl, HBc.out⟩

theorem bulk_one {H : Type} (d : DataW H) : 1 ≤ Rows.uptoBulk d := by
  cases d with
  | lit l => cases l <;> simp [Rows.uptoBulk]
  | nil => simp [Rows.uptoBulk]
  | ptr d => simp [Rows.uptoBulk]
  | slice elems spare => simp [Rows.uptoBulk]
  | agg parts => simp [Rows.uptoBulk]
  | iface t d => simp [Rows.uptoBulk]
  | map entries => simp [Rows.uptoBulk]
  | held h => simp [Rows.uptoBulk]
theorem bulk_length {H : Type} (l : List (DataW H)) : l.length ≤ Rows.uptoBulkAll l := by
  induction l with
  | nil => simp [Rows.uptoBulkAll]
  | cons x r ih => have := bulk_one x; simp only [Rows.uptoBulkAll, List.length_cons]; omega
theorem bulk_slice {H : Type} (es rs : List (DataW H)) : es.length + 1 ≤ Rows.uptoBulk (.slice es rs) := by
  have := bulk_length es
  simp only [Rows.uptoBulk]
  omega

set_option maxRecDepth 100000 in
theorem lifted (os : Os) (started : os.Started) (H : Type) (enc : TypeId × Value → H) (F : Stop.Interp) :
    ReturnsInHanded {} Tryz.checked os 4 .any ((Rows.OpenSpec.upto Rows.specCodesSpec).pre6 enc Tryz.prog Tryz.f4 Rows.specCodesUptoRow.domain false) (((Rows.OpenSpec.upto Rows.specCodesSpec).at F).post enc Tryz.prog Tryz.f4 false true false false) := by
  refine returnsInHanded_of_cond_sized (C := Tryz.checked) (s := Rows.OpenSpec.upto Rows.specCodesSpec) (k := Rows.uptoSmall) rfl own started (by kernel_rfl) Tryz.func4
    (OpenSpec.witness (enc := enc) (C := Tryz.checked) (s := Rows.OpenSpec.upto Rows.specCodesSpec) (k := Rows.uptoSmall) rfl false ⟨#[], #[.agg #[.bool false, .int .i64 0, .int .i64 0, .string ByteArray.empty, .slice none 0 0, .slice none 0 0, .slice none 0 0], .slice none 0 0], []⟩ 8 (by kernel_rfl) (by kernel_rfl) (by kernel_rfl)
      (x := ([.agg [.lit (.bool false), .agg [.lit (.int .i64 0), .lit (.int .i64 0), .lit (.string []), .nil, .nil], .nil], .nil], [], [])) (by kernel_rfl) rfl (by kernel_rfl)) ?_
  intro W base args ds gs before hval0 hW hcnd hk hsz0 _
  have hval : ∀ (j : Nat) t v, Tryz.f4.params[j]? = some t → args[j]? = some v → Value.okWide Tryz.prog W .any base t v := hval0
  have hsz : (DataW.weightsEach Tryz.prog (Tryz.f4.params.toList ++ Rows.specCodesSpec.plain.varTypes Tryz.prog) (ds ++ gs)).all (· ≤ reachBytes) = true := hsz0
  have hW' := hW
  obtain ⟨p, q, hA0, hV, rfl, hfz, hnd⟩ := hW
  have hA : DataW.TrodAll enc Tryz.prog W 0 (fun _ => true) true Tryz.f4.params.toList args.toList ds p := hA0
  rw [Tryz.params4] at hA hval hsz
  obtain ⟨v0, v1, d0, d1, p0, p1, rfl, rfl, rfl, h0, h1⟩ := trodAll_two hA
  obtain ⟨rfl, rfl⟩ := trodVars_none hV
  obtain ⟨a0, rfl, -⟩ := okWide_struct Tryz.underlying28 (hval 0 28 v0 rfl rfl)
  have k0 := h0
  have lt0 : ∀ x ∈ p0, x.block < W.heap.size := by obtain ⟨m, hm⟩ := k0; exact DataW.trod_lt m _ _ _ hm
  have wt0 : ∀ n ∈ d0.weights Tryz.prog 28, n ≤ reachBytes := fun n hn => by have := List.all_eq_true.1 hsz n (DataW.weights_mem_each (j := 0) rfl rfl n hn); simpa using this
  obtain ⟨A1, n1, c1, rfl⟩ := okWide_slice Tryz.underlying39 (hval 1 39 v1 rfl rfl)
  have k1 := h1
  have lt1 : ∀ x ∈ p1, x.block < W.heap.size := by obtain ⟨m, hm⟩ := k1; exact DataW.trod_lt m _ _ _ hm
  clear hA0 hval0
  obtain ⟨sp0, hsp0⟩ : ∃ s : SpecT, SpecL W (fun b => b < W.heap.size) s a0 := by
    obtain ⟨m, hm⟩ := k0
    obtain ⟨s, h3⟩ := open_spec hm wt0
    exact ⟨s, by simpa [Value.cells] using h3⟩
  obtain ⟨l1, hll1, hrd1, hln1⟩ : ∃ l : List UInt8, n1 = l.length ∧ Rd W W.heap.size (.slice A1 l.length c1) l ∧ n1 ≤ 140737488351232 := by
    obtain ⟨fuel, hf⟩ := k1
    obtain ⟨⟨l, hll, hrd⟩, hshape⟩ := open_bytes hf
    refine ⟨l, hll, hrd, ?_⟩
    rcases hshape with h0 | ⟨es, rs, hd, hes⟩
    · omega
    · simp only [] at hd
      subst hd
      have h3 := sized_slice hsz (j := 1) (t := 39) (e := 5) rfl rfl Tryz.underlying39
      have hb : Tryz.prog.bytesOf 5 = 1 := by kernel_rfl
      rw [hb] at h3
      simp only [reachBytes] at h3
      omega
  subst hll1
  have hk2 : Rows.uptoBulkAll ([d0, d1] ++ []) ≤ 1048576 := of_decide_eq_true hk
  simp only [List.cons_append, List.nil_append, Rows.uptoBulkAll] at hk2
  have hb1 : l1.length ≤ 1048576 := by
    obtain ⟨fuel, hf⟩ := k1
    rcases (open_bytes hf).2 with h0 | ⟨es, rs, hd, hes⟩
    · omega
    · simp only [] at hd
      subst hd
      have h1 := bulk_slice es rs
      omega
  refine (walk sp0 _ A1 c1 l1 W hsp0 hrd1 hb1).mono fun e W' ⟨he, bel⟩ => ?_
  subst he
  exact ⟨_, rfl, _, _, _, [], _, [], hW', trodAll_mk1 (shut_bool Tryz.underlying4 _), trodAll_mk2 (Below.trod laidOut (by kernel_rfl) (of_decide_eq_true (by kernel_rfl)) k0 bel lt0) (Below.trod laidOut (by kernel_rfl) (of_decide_eq_true (by kernel_rfl)) k1 bel lt1), rfl, bel.frame _, fun h => by cases h⟩

/-- The statement. -/
theorem proved : Rows.SpecCodesUptoSaid :=
  OpenClaim.holds_of_cond 4 Tryz.f4 rfl rfl rfl rfl rfl rfl rfl ⟨rfl, rfl, rfl, rfl, rfl⟩ rfl rfl rfl rfl rfl (by kernel_rfl) Tryz.func4 (by kernel_rfl)
    (of_decide_eq_true (by kernel_rfl)) (by unfold Func.isWrapper; first | (rw [if_pos (by decide +kernel)]; kernel_rfl) | (rw [if_neg (by decide +kernel)]; exact ⟨rfl, rfl⟩))
    (fun os started H enc _ F => lifted os started H enc F)

end Go.Proofs.YtipiplnhbecjeaaGreat.SCodes
