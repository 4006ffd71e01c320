/- What any bytes are as images: what is got of them is what the document says. No conditions. -/
import Derived.Test.YtdggeokpnaopiaaKRiM
import Derived.Test.YtdggeokpnaopiaaKRiK
import Derived.Test.YtdggeokpnaopiaaKOpenB
import Derived.SizedLaws
import Derived.ProofKit
import Derived.OpenShut
import Derived.ShutString
import Derived.ChangeOld
import Derived.Below
namespace Go.Proofs.Ytdggeokpnaopiaa
set_option linter.unusedVariables false
set_option linter.unusedSimpArgs false
open Go.RowKit
theorem left_of16 (st : Option (List UInt8)) : ((leftN st : Nat) : Int) = leftOf st := by cases st <;> rfl
theorem own_zero16 (w : World) : OwnB (w.alloc (.cells #[] 5)) w.heap.size (.slice (some ⟨w.heap.size, 0, none⟩) 0 0) [] := ⟨rfl, .inr ⟨_, 0, #[], rfl, Nat.le_refl _, heap_alloc_new w _, Nat.le_refl _, by decide, rfl, rfl⟩⟩
end Go.Proofs.Ytdggeokpnaopiaa
namespace Go.Proofs.Ytdggeokpnaopiaa.IReads
open Go.ChangeShapes Go.WideShapes Go.ChangeAt Go.RowKit Go.Joins OpenB
set_option linter.unusedVariables false

theorem own : ownKnob Try.prog.godebug = none := by kernel_rfl
theorem laidOut : laidOutB Try.prog = true := by kernel_rfl

set_option maxHeartbeats 16000000 in
set_option maxRecDepth 100000 in
theorem walk (A : Option Addr) (cap : Nat) (l : List UInt8) (i : Int) (w : World) (hr : Rd w w.heap.size (.slice A l.length cap) l) (hl : l.length ≤ 140737488351232) (hi : -9223372036854775808 ≤ i ∧ i ≤ 9223372036854775807) :
    Calls Try.prog 5 #[.slice A l.length cap, .int .i64 i] w fun e w' => e = .returned (.bool true) ∧ Below w.heap.size w w' := by
  obtain ⟨n, hn⟩ : ∃ n, n = l.length := ⟨_, rfl⟩
  have HN := Lib.hid hn
  rw [← hn] at hr hl ⊢
  have HR := Lib.hid hr
  have HII := Lib.hid hi
  clear hr hn hi
  go_enter Try.func5, Try.ntmps5
  by_cases hbig : (n : Int) > 20000
  · have hbig2 : decide ((n : Int) > 20000) = true := decide_eq_true hbig
    go_wp2_with fail
    refine (lives16_any _).mono ?_
    rintro e v9 ⟨rfl, hb⟩
    have HF := Lib.hid hb
    clear hb
    go_wp2_with fail
    go_ret
    exact ⟨rfl, HF.out⟩
  have hbig2 : decide ((n : Int) > 20000) = false := decide_eq_false hbig
  have hb0 := below_box (w := w) (.cells #[] 5)
  have HO0 := Lib.hid (own_zero16 w)
  have HR0 := Lib.hid (HR.out.keep hb0)
  have HB0 := Lib.hid hb0
  have hz0 := hb0.size
  have hn20 : n ≤ 20000 := by omega
  clear hb0
  go_wp2_with (at_builtin; go_must (refine wpList_append_bytes rfl _ _ rfl w.heap.size _ [] rfl HO0.out _ _ l rfl HR0.out hz0 (by have := HN.out; simp only [List.length_nil]; omega) ?_))
  intro v1 w1 hv1 hg1
  have hb1 := below_own HB0.out HO0.out hz0 hg1
  have HB1 := Lib.hid hb1
  have HD := Lib.hid (from_any v1 _ w1 hv1.conv)
  clear hb1 hv1 hg1 HO0 HR0 HB0
  go_wp2_with fail
  refine HD.out.mono ?_
  rintro e w2 ⟨rfl, hs2, hb2⟩
  have hB2 := HB1.out.trans (hb2.mono HB1.out.size)
  have hs2' : SrcL w2 w1.heap.size (some l) := ⟨hs2, by have := HN.out; omega⟩
  have hg1 : w.heap.size ≤ w1.heap.size := HB1.out.size
  have hg12 : w1.heap.size < w2.heap.size := hs2'.lt
  have hbx := below_box (w := w2) (.cells #[.slice A n cap, .bool false] 54)
  have hB3 := hB2.trans (hbx.mono hB2.size)
  have hs3 := hs2'.alloc (.cells #[.slice A n cap, .bool false] 54)
  have hx3 : RS (w2.alloc (.cells #[.slice A n cap, .bool false] 54)) w2.heap.size w.heap.size (some l) := ⟨_, heap_alloc_new w2 _, HR.out.keep hB3⟩
  have HB3 := Lib.hid hB3
  have HS3 := Lib.hid hs3
  have HX3 := Lib.hid hx3
  clear hB2 hs2 hs2' hb2 hbx hB3 hs3 hx3 HD HB1
  generalize w1.heap.size = g1 at *
  go_wp2_with fail
  generalize w2.alloc (.cells #[.slice A n cap, .bool false] 54) = w3 at *
  generalize w2.heap.size = g2 at *
  refine (lives16_any _).mono ?_
  rintro e w4 ⟨rfl, hb⟩
  have HB4 := Lib.hid (HB3.out.trans (hb.mono HB3.out.size))
  have HS4 := Lib.hid (HS3.out.of (hb.block g1 HS3.out.lt))
  have HX4 := Lib.hid (HX3.out.keep (hb.block g2 HX3.out.lt) (hb.mono HB3.out.size))
  clear hb HB3 HS3 HX3
  have hg2 : w.heap.size ≤ g2 := by omega
  have hne : g1 ≠ g2 := by omega
  have HGG := Lib.hid (And.intro hg1 (And.intro hg2 hne))
  clear hg1 hg12 hg2 hne
  have hag := read_agree (some l)
  obtain ⟨sf, hsf⟩ : ∃ s, s = (rdRef (some l)).2 := ⟨_, rfl⟩
  rw [← hsf] at hag
  go_wp2_with fail
  refine (iread_any g1 (some l) _ HS4.out).mono ?_
  rintro e w5 ⟨hs5, ho5, hm5⟩
  have hb5 := only_br ho5 HGG.out.1 HB4.out.size
  have HX5 := Lib.hid (HX4.out.keep (ho5.block g2 HX4.out.lt (by rintro ⟨⟩; exact HGG.out.2.2 rfl)) hb5)
  have HB5 := Lib.hid (HB4.out.trans hb5)
  have HZ5 := Lib.hid (And.intro HX4.out.lt (And.intro HS4.out.lt ho5.size))
  rw [hag.1] at hs5
  have HS5 := Lib.hid hs5
  clear hs5 ho5 hb5 HS4 HX4 HB4
  obtain ⟨-, hiff, hboth⟩ := hag
  cases him : (rdImg (some l)).1 with
  | none =>
    have hrn := hiff.1 him
    rw [him] at hm5
    have hm5 : e = .returned (.pointer none) := hm5
    subst hm5
    have HRN := Lib.hid hrn
    have HSF := Lib.hid hsf
    clear hboth hiff him hrn hsf
    go_wp2_with fail
    refine (rread16_any g2 w.heap.size (some l) _ HX5.out HGG.out.2.1).mono ?_
    rintro e w6 ⟨hs6, ho6, hm6⟩
    rw [HRN.out] at hm6
    have hm6 : e = .returned (.pointer none) := hm6
    subst hm6
    rw [← HSF.out] at hs6
    have HRS := Lib.hid hs6
    have HSL := Lib.hid (HS5.out.of (ho6.block g1 HS5.out.lt (by rintro ⟨⟩; exact HGG.out.2.2 rfl)))
    have HB6 := Lib.hid (HB5.out.trans (only_br ho6 HGG.out.2.1 HB5.out.size))
    clear hs6 ho6 HX5 HS5 HB5 HSF
    go_wp2_with fail
    cases sf with
    | none =>
      have zb := cell_ka (w := w6.drew) (i := 1) (show w6.drew.heap[g2]? = some _ from (Array.getElem?_eq_getElem HRS.out.lt)) (show w6.drew.cell? ⟨g2, 1, none⟩ = some (.bool true) from rs_c1 HRS.out)
      have HSL' : Hid (SrcL w6.drew g1 none) := Lib.hid (HSL.out.of rfl)
      have HRS' : Hid (RS w6.drew g2 w.heap.size none) := Lib.hid (HRS.out.keep rfl ((Below.refl _ _).drew))
      refine wp_region_OT KeepA KeepA.refl KeepA.trans [] (.pure [0, 2, 3, 4, 5] (.step 1 (.pure [6, 7, 8, 10] (.step 9 (.step 11 (.pure [12, 13, 14, 15, 16, 17, 18, 19, 20] (.tail []))))))) (by kernel_rfl) (by kernel_rfl) (fun _ d _ _ _ h => by cases d <;> exact h) ?_
      refine ot_pure ?_
      simp only [atNats, List.filterMap_cons, List.filterMap_nil, List.getElem?_toArray, List.getElem?_cons_succ, List.getElem?_cons_zero]
      show wpQuiet _ _ _ _ [_, _, _, _, _] _
      repeat (go_big_quiet_step (fail))
      refine wpQuiet_nil ?_
      refine ot_step rfl (fun K hK => ?_)
      go_simp
      refine (sbad_any g1 none _ HSL'.out).mono ?_
      rintro e w7 ⟨rfl, rfl⟩
      go_simp
      refine hK _ _ (.inr (KeepA.refl _)) ?_
      clear hK K
      refine ot_pure ?_
      simp only [atNats, List.filterMap_cons, List.filterMap_nil, List.getElem?_toArray, List.getElem?_cons_succ, List.getElem?_cons_zero]
      show wpQuiet _ _ _ _ [_, _, _, _] _
      repeat (go_big_quiet_step (fail))
      refine wpQuiet_nil ?_
      refine ot_step rfl (fun K hK => ?_)
      go_simp
      refine (cleft_st g1 none _ HSL'.out).mono ?_
      rintro e w7 ⟨rfl, rfl⟩
      go_simp
      refine hK _ _ (.inr (KeepA.refl _)) ?_
      clear hK K
      refine ot_step rfl (fun K hK => ?_)
      go_simp
      refine (rsleft_any g2 w.heap.size none _ HRS'.out).mono ?_
      rintro e w7 ⟨rfl, rfl⟩
      go_simp
      refine hK _ _ (.inr (KeepA.refl _)) ?_
      clear hK K
      rw [left_of16 none]
      refine ot_pure ?_
      simp only [atNats, List.filterMap_cons, List.filterMap_nil, List.getElem?_toArray, List.getElem?_cons_succ, List.getElem?_cons_zero]
      show wpQuiet _ _ _ _ [_, _, _, _, _, _, _, _, _] _
      repeat (go_big_quiet_step (fail))
      refine wpQuiet_nil ?_
      refine ot_end ?_
      go_wp2_with fail
      go_ret
      exact ⟨rfl, HB6.out.drew⟩
    | some lf =>
      have zb := cell_ka (w := w6.drew) (i := 1) (show w6.drew.heap[g2]? = some _ from (Array.getElem?_eq_getElem HRS.out.lt)) (show w6.drew.cell? ⟨g2, 1, none⟩ = some (.bool false) from rs_c1 HRS.out)
      have HSL' : Hid (SrcL w6.drew g1 (some lf)) := Lib.hid (HSL.out.of rfl)
      have HRS' : Hid (RS w6.drew g2 w.heap.size (some lf)) := Lib.hid (HRS.out.keep rfl ((Below.refl _ _).drew))
      refine wp_region_OT KeepA KeepA.refl KeepA.trans [] (.pure [0, 2, 3, 4, 5] (.step 1 (.pure [6, 7, 8, 10] (.step 9 (.step 11 (.pure [12, 13, 14, 15, 16, 17, 18, 19, 20] (.tail []))))))) (by kernel_rfl) (by kernel_rfl) (fun _ d _ _ _ h => by cases d <;> exact h) ?_
      refine ot_pure ?_
      simp only [atNats, List.filterMap_cons, List.filterMap_nil, List.getElem?_toArray, List.getElem?_cons_succ, List.getElem?_cons_zero]
      show wpQuiet _ _ _ _ [_, _, _, _, _] _
      repeat (go_big_quiet_step (fail))
      refine wpQuiet_nil ?_
      refine ot_step rfl (fun K hK => ?_)
      go_simp
      refine (sbad_any g1 (some lf) _ HSL'.out).mono ?_
      rintro e w7 ⟨rfl, rfl⟩
      go_simp
      refine hK _ _ (.inr (KeepA.refl _)) ?_
      clear hK K
      refine ot_pure ?_
      simp only [atNats, List.filterMap_cons, List.filterMap_nil, List.getElem?_toArray, List.getElem?_cons_succ, List.getElem?_cons_zero]
      show wpQuiet _ _ _ _ [_, _, _, _] _
      repeat (go_big_quiet_step (fail))
      refine wpQuiet_nil ?_
      refine ot_step rfl (fun K hK => ?_)
      go_simp
      refine (cleft_st g1 (some lf) _ HSL'.out).mono ?_
      rintro e w7 ⟨rfl, rfl⟩
      go_simp
      refine hK _ _ (.inr (KeepA.refl _)) ?_
      clear hK K
      refine ot_step rfl (fun K hK => ?_)
      go_simp
      refine (rsleft_any g2 w.heap.size (some lf) _ HRS'.out).mono ?_
      rintro e w7 ⟨rfl, rfl⟩
      go_simp
      refine hK _ _ (.inr (KeepA.refl _)) ?_
      clear hK K
      rw [left_of16 (some lf)]
      refine ot_pure ?_
      simp only [atNats, List.filterMap_cons, List.filterMap_nil, List.getElem?_toArray, List.getElem?_cons_succ, List.getElem?_cons_zero]
      show wpQuiet _ _ _ _ [_, _, _, _, _, _, _, _, _] _
      repeat (go_big_quiet_step (fail))
      refine wpQuiet_nil ?_
      refine ot_end ?_
      go_wp2_with fail
      go_ret
      exact ⟨rfl, HB6.out.drew⟩
  | some m =>
    obtain ⟨r, hrs⟩ : ∃ r, (rdRef (some l)).1 = some r := by
      cases hrr : (rdRef (some l)).1 with
      | none => rw [hiff.2 hrr] at him; cases him
      | some r => exact ⟨r, rfl⟩
    obtain ⟨hagr, hrfi⟩ := hboth m r him hrs
    rw [him] at hm5
    obtain ⟨rfl, hfi, hgo, him5⟩ := hm5
    have HRN := Lib.hid hrs
    have HSF := Lib.hid hsf
    have HAG := Lib.hid (And.intro hagr (And.intro hrfi hfi))
    have HIM := Lib.hid him5
    clear hboth hiff him hrs hsf hagr hrfi hfi hgo him5
    go_wp2_with fail
    refine (rread16_any g2 w.heap.size (some l) _ HX5.out HGG.out.2.1).mono ?_
    rintro e w6 ⟨hs6, ho6, hm6⟩
    rw [HRN.out] at hm6
    obtain ⟨x, rfl, hx6, hr6⟩ := hm6
    rw [← HSF.out] at hs6
    have HRS := Lib.hid hs6
    have HSL := Lib.hid (HS5.out.of (ho6.block g1 HS5.out.lt (by rintro ⟨⟩; exact HGG.out.2.2 rfl)))
    have HB6 := Lib.hid (HB5.out.trans (only_br ho6 HGG.out.2.1 HB5.out.size))
    have him6 := HIM.out.keep (w' := w6) (ho6.block _ HIM.out.lt (by rintro ⟨⟩; have := HZ5.out.1; omega)) (fun b hb => ho6.block b hb.2 (by rintro ⟨⟩; have := HZ5.out.1; have := hb.1; omega))
    have HLK := Lib.hid (looks_any (w := w6.drew) (him6.keep rfl fun _ _ => rfl) HAG.out.2.2 (hr6.below (fun _ h => h) (Below.refl _ _).drew) HAG.out.2.1 (fun b hb => Nat.lt_of_lt_of_le hb.2 ho6.size) (fun _ h => h) HAG.out.1 i HII.out)
    clear hs6 ho6 hx6 hr6 him6 HX5 HS5 HB5 HSF
    go_wp2_with fail
    cases sf with
    | none =>
      have zb := cell_ka (w := w6.drew) (i := 1) (show w6.drew.heap[g2]? = some _ from (Array.getElem?_eq_getElem HRS.out.lt)) (show w6.drew.cell? ⟨g2, 1, none⟩ = some (.bool true) from rs_c1 HRS.out)
      have HSL' : Hid (SrcL w6.drew g1 none) := Lib.hid (HSL.out.of rfl)
      have HRS' : Hid (RS w6.drew g2 w.heap.size none) := Lib.hid (HRS.out.keep rfl ((Below.refl _ _).drew))
      refine wp_region_OT KeepA KeepA.refl KeepA.trans [] (.pure [0, 2, 3, 4, 5] (.step 1 (.pure [6, 7, 8, 10] (.step 9 (.step 11 (.pure [12, 13, 14, 15, 16, 17, 18, 19, 20] (.tail []))))))) (by kernel_rfl) (by kernel_rfl) (fun _ d _ _ _ h => by cases d <;> exact h) ?_
      refine ot_pure ?_
      simp only [atNats, List.filterMap_cons, List.filterMap_nil, List.getElem?_toArray, List.getElem?_cons_succ, List.getElem?_cons_zero]
      show wpQuiet _ _ _ _ [_, _, _, _, _] _
      repeat (go_big_quiet_step (fail))
      refine wpQuiet_nil ?_
      refine ot_step rfl (fun K hK => ?_)
      go_simp
      refine (sbad_any g1 none _ HSL'.out).mono ?_
      rintro e w7 ⟨rfl, rfl⟩
      go_simp
      refine hK _ _ (.inr (KeepA.refl _)) ?_
      clear hK K
      refine ot_pure ?_
      simp only [atNats, List.filterMap_cons, List.filterMap_nil, List.getElem?_toArray, List.getElem?_cons_succ, List.getElem?_cons_zero]
      show wpQuiet _ _ _ _ [_, _, _, _] _
      repeat (go_big_quiet_step (fail))
      refine wpQuiet_nil ?_
      refine ot_step rfl (fun K hK => ?_)
      go_simp
      refine (cleft_st g1 none _ HSL'.out).mono ?_
      rintro e w7 ⟨rfl, rfl⟩
      go_simp
      refine hK _ _ (.inr (KeepA.refl _)) ?_
      clear hK K
      refine ot_step rfl (fun K hK => ?_)
      go_simp
      refine (rsleft_any g2 w.heap.size none _ HRS'.out).mono ?_
      rintro e w7 ⟨rfl, rfl⟩
      go_simp
      refine hK _ _ (.inr (KeepA.refl _)) ?_
      clear hK K
      rw [left_of16 none]
      refine ot_pure ?_
      simp only [atNats, List.filterMap_cons, List.filterMap_nil, List.getElem?_toArray, List.getElem?_cons_succ, List.getElem?_cons_zero]
      show wpQuiet _ _ _ _ [_, _, _, _, _, _, _, _, _] _
      repeat (go_big_quiet_step (fail))
      refine wpQuiet_nil ?_
      refine ot_end ?_
      go_wp2_with fail
      refine HLK.out.mono ?_
      rintro e we ⟨rfl, hbe⟩
      have HBE := Lib.hid (HB6.out.drew.trans (hbe.mono HB6.out.size))
      clear hbe
      go_wp2_with fail
      go_ret
      exact ⟨rfl, HBE.out⟩
    | some lf =>
      have zb := cell_ka (w := w6.drew) (i := 1) (show w6.drew.heap[g2]? = some _ from (Array.getElem?_eq_getElem HRS.out.lt)) (show w6.drew.cell? ⟨g2, 1, none⟩ = some (.bool false) from rs_c1 HRS.out)
      have HSL' : Hid (SrcL w6.drew g1 (some lf)) := Lib.hid (HSL.out.of rfl)
      have HRS' : Hid (RS w6.drew g2 w.heap.size (some lf)) := Lib.hid (HRS.out.keep rfl ((Below.refl _ _).drew))
      refine wp_region_OT KeepA KeepA.refl KeepA.trans [] (.pure [0, 2, 3, 4, 5] (.step 1 (.pure [6, 7, 8, 10] (.step 9 (.step 11 (.pure [12, 13, 14, 15, 16, 17, 18, 19, 20] (.tail []))))))) (by kernel_rfl) (by kernel_rfl) (fun _ d _ _ _ h => by cases d <;> exact h) ?_
      refine ot_pure ?_
      simp only [atNats, List.filterMap_cons, List.filterMap_nil, List.getElem?_toArray, List.getElem?_cons_succ, List.getElem?_cons_zero]
      show wpQuiet _ _ _ _ [_, _, _, _, _] _
      repeat (go_big_quiet_step (fail))
      refine wpQuiet_nil ?_
      refine ot_step rfl (fun K hK => ?_)
      go_simp
      refine (sbad_any g1 (some lf) _ HSL'.out).mono ?_
      rintro e w7 ⟨rfl, rfl⟩
      go_simp
      refine hK _ _ (.inr (KeepA.refl _)) ?_
      clear hK K
      refine ot_pure ?_
      simp only [atNats, List.filterMap_cons, List.filterMap_nil, List.getElem?_toArray, List.getElem?_cons_succ, List.getElem?_cons_zero]
      show wpQuiet _ _ _ _ [_, _, _, _] _
      repeat (go_big_quiet_step (fail))
      refine wpQuiet_nil ?_
      refine ot_step rfl (fun K hK => ?_)
      go_simp
      refine (cleft_st g1 (some lf) _ HSL'.out).mono ?_
      rintro e w7 ⟨rfl, rfl⟩
      go_simp
      refine hK _ _ (.inr (KeepA.refl _)) ?_
      clear hK K
      refine ot_step rfl (fun K hK => ?_)
      go_simp
      refine (rsleft_any g2 w.heap.size (some lf) _ HRS'.out).mono ?_
      rintro e w7 ⟨rfl, rfl⟩
      go_simp
      refine hK _ _ (.inr (KeepA.refl _)) ?_
      clear hK K
      rw [left_of16 (some lf)]
      refine ot_pure ?_
      simp only [atNats, List.filterMap_cons, List.filterMap_nil, List.getElem?_toArray, List.getElem?_cons_succ, List.getElem?_cons_zero]
      show wpQuiet _ _ _ _ [_, _, _, _, _, _, _, _, _] _
      repeat (go_big_quiet_step (fail))
      refine wpQuiet_nil ?_
      refine ot_end ?_
      go_wp2_with fail
      refine HLK.out.mono ?_
      rintro e we ⟨rfl, hbe⟩
      have HBE := Lib.hid (HB6.out.drew.trans (hbe.mono HB6.out.size))
      clear hbe
      go_wp2_with fail
      go_ret
      exact ⟨rfl, HBE.out⟩

set_option maxRecDepth 100000 in
theorem lifted (os : Os) (started : os.Started) (H : Type) (enc : TypeId × Value → H) :
    ReturnsInHanded {} Try.checked os 5 .any (Rows.imageReadsSpec.pre6 enc Try.prog Try.f5 Rows.imageReadsRow.domain false) (Rows.imageReadsSpec.post enc Try.prog Try.f5 false true false false) := by
  refine returnsInHanded_of_change_sized (C := Try.checked) own started (by kernel_rfl) Try.func5
    (ChangeSpec.witness6 (enc := enc) (C := Try.checked) false ⟨#[], #[.slice none 0 0, .int .i64 0], []⟩ 8 (by kernel_rfl) (by kernel_rfl) (by kernel_rfl) (by kernel_rfl)) ?_
  intro W base args ds gs before hval0 hW hcnd hsz0 _
  have hval : ∀ (j : Nat) t v, Try.f5.params[j]? = some t → args[j]? = some v → Value.okWide Try.prog W .any base t v := hval0
  have hsz : (DataW.weightsEach Try.prog (Try.f5.params.toList ++ Rows.imageReadsSpec.plain.varTypes Try.prog) (ds ++ gs)).all (· ≤ reachBytes) = true := hsz0
  have hW' := hW
  obtain ⟨p, q, hA0, hV, rfl, hfz, hnd⟩ := hW
  have hA : DataW.TrodAll enc Try.prog W 0 (fun _ => true) true Try.f5.params.toList args.toList ds p := hA0
  rw [Try.params5] at hA hval hsz
  obtain ⟨v0, v1, d0, d1, p0, p1, rfl, rfl, rfl, h0, h1⟩ := trodAll_two hA
  obtain ⟨rfl, rfl⟩ := trodVars_none hV
  obtain ⟨A0, n0, c0, rfl⟩ := okWide_slice Try.underlying45 (hval 0 45 v0 rfl rfl)
  have k0 := h0
  have lt0 : ∀ x ∈ p0, x.block < W.heap.size := by obtain ⟨m, hm⟩ := k0; exact DataW.trod_lt m _ _ _ hm
  obtain ⟨a1, rfl, rfl, rfl, wa1⟩ := open_int Try.underlying3 (hval 1 3 v1 rfl rfl) h1
  clear hA0 hval0
  obtain ⟨l0, hll0, hrd0, hln0⟩ : ∃ l : List UInt8, n0 = l.length ∧ Rd W W.heap.size (.slice A0 l.length c0) l ∧ n0 ≤ 140737488351232 := by
    obtain ⟨fuel, hf⟩ := k0
    obtain ⟨⟨l, hll, hrd⟩, hshape⟩ := open_bytes hf
    refine ⟨l, hll, hrd, ?_⟩
    rcases hshape with h0 | ⟨es, rs, hd, hes⟩
    · omega
    · simp only [] at hd
      subst hd
      have h3 := sized_slice hsz (j := 0) (t := 45) (e := 5) rfl rfl Try.underlying45
      have hb : Try.prog.bytesOf 5 = 1 := by kernel_rfl
      rw [hb] at h3
      simp only [reachBytes] at h3
      omega
  subst hll0
  have ha1 := in64_of_wf wa1
  refine (walk A0 c0 l0 a1 W hrd0 (by omega) ha1).mono fun e W' ⟨he, bel⟩ => ?_
  subst he
  exact ⟨_, rfl, _, _, _, [], _, [], hW', trodAll_mk1 (shut_bool Try.underlying4 _), trodAll_mk2 (Below.trod laidOut (by kernel_rfl) (of_decide_eq_true (by kernel_rfl)) k0 bel lt0) (shut_int Try.underlying3 wa1), rfl, bel.frame _, fun h => by cases h⟩

/-- The statement. -/
theorem proved : Rows.ImageReadsSaid :=
  OpenClaim.holds_of_wide 5 Try.f5 rfl rfl rfl rfl rfl rfl rfl ⟨rfl, rfl, rfl, rfl, rfl⟩ rfl rfl rfl rfl rfl (by kernel_rfl) Try.func5 (by kernel_rfl)
    (of_decide_eq_true (by kernel_rfl)) (by unfold Func.isWrapper; first | (rw [if_pos (by decide +kernel)]; kernel_rfl) | (rw [if_neg (by decide +kernel)]; exact ⟨rfl, rfl⟩))
    (fun os started H enc _ => lifted os started H enc)

end Go.Proofs.Ytdggeokpnaopiaa.IReads
