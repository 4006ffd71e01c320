/- The code of images is the document's. No conditions. -/
import Derived.Test.YtdggeokpnaopiaaKRiK
import Derived.Test.YtdggeokpnaopiaaKOpenI
import Derived.SizedLaws
import Derived.ProofKit
import Derived.OpenShut
import Derived.ShutString
import Derived.ChangeOld
import Derived.Below
namespace Go.Proofs.Ytdggeokpnaopiaa.ICodes
set_option linter.unusedVariables false
set_option linter.unusedSimpArgs false
open Go.ChangeShapes Go.WideShapes Go.ChangeAt Go.RowKit Go.Joins
set_option linter.unusedVariables false

theorem own : ownKnob Try.prog.godebug = none := by kernel_rfl
theorem laidOut : laidOutB Try.prog = true := by kernel_rfl

set_option maxHeartbeats 32000000 in
set_option maxRecDepth 100000 in
theorem walk (keep base : Int) (A : Option Addr) (os : List OpI) (c : Nat) (w : World) (hol : os.length ≤ 1466015503658) (hos : OpsI w (fun b => b < w.heap.size) A os) :
    Calls Try.prog 4 #[.int .i64 keep, .int .i64 base, .slice A os.length c] w fun e w' => e = .returned (.bool true) ∧ Below w.heap.size w w' := by
  have HOS := Lib.hid hos
  clear hos
  go_enter Try.func4, Try.ntmps4
  by_cases hm : mayI keep base = true
  · have HM := Lib.hid hm
    clear hm
    go_wp2_with fail
    refine (inew_any keep base w HM.out).mono ?_
    rintro e w1 h1
    have HNW := Lib.hid h1
    obtain ⟨rfl, -⟩ := h1
    go_wp2_with fail
    refine (lives16_any w1).mono ?_
    rintro e w2 ⟨rfl, hb2⟩
    have HB2 := Lib.hid hb2
    clear hb2
    go_wp2_with fail
    refine (rmay16_any keep base w2).mono ?_
    rintro e w3 ⟨rfl, rfl⟩
    rw [HM.out]
    by_cases hbig : 549755813888 < base
    · go_wp2_with fail
      refine (lives16_any _).mono ?_
      rintro e wz ⟨rfl, hbz⟩
      have HBZ := Lib.hid (((HNW.out.2.2).trans (HB2.out.mono HNW.out.2.2.size)).trans (hbz.mono ((HNW.out.2.2).trans (HB2.out.mono HNW.out.2.2.size)).size))
      clear hbz
      go_wp2_with fail
      go_ret
      exact ⟨rfl, HBZ.out⟩
    have HT0 := Lib.hid (Two.start HM.out HNW.out HB2.out)
    clear HNW HB2
    obtain ⟨X, hX⟩ : ∃ X, X = w3.heap.size := ⟨_, rfl⟩
    obtain ⟨g, hG⟩ : ∃ G, G = w.heap.size := ⟨_, rfl⟩
    rw [← hX] at HT0
    have HT0' : Hid (Two w (w3.alloc (.cells #[.int .i64 keep, .int .i64 base, .slice none 0 0] 32)) g X (newI keep base) ⟨keep, base, []⟩) := Lib.hid (by rw [hG]; exact HT0.out)
    have HL0 : Hid ((⟨keep, base, []⟩ : RefI).l.length ≤ 0 ∧ (newI keep base).base = (⟨keep, base, []⟩ : RefI).base) := Lib.hid ⟨Nat.le_refl _, rfl⟩
    have HGR0 : Hid (RefI.Good ⟨keep, base, []⟩) := Lib.hid (fun k t h => by simp at h)
    have HXE := Lib.hid hX
    have HGE := Lib.hid hG
    rw [← hG]
    clear hG hX HT0
    go_wp2_with fail
    rw [← HXE.out]
    go_loopw [6, 10] (fun _ kk wr => ∃ (k : Nat) (m : ImT) (r : RefI), kk = .int .i64 k ∧ k ≤ os.length ∧ k ≤ 100 ∧ Hid (Two w wr g X m r) ∧ Hid (r.l.length ≤ k ∧ m.base = r.base) ∧ Hid r.Good) (fun _ kk _ => os.length - (intOf kk).toNat)
    case atStart => exact ⟨0, _, _, rfl, by omega, by omega, HT0', HL0, HGR0⟩
    case round =>
      clear HT0' HL0 HGR0
      obtain ⟨k, m, r, rfl, hk, hk150, HT, HL, HGR⟩ := hrel
      by_cases hlt : k < os.length
      · by_cases hlt2 : k < 100
        · obtain ⟨b, off, hA, hbS, hc⟩ := HOS.out (by omega)
          obtain ⟨cs, hcs, hop⟩ := hc k hlt
          obtain ⟨a1, a2, a3, a4, a5, hcse, hv, -⟩ := hop
          obtain ⟨⟨kd, t, bb⟩, ho⟩ : ∃ o, o = os[k] := ⟨_, rfl⟩
          rw [← ho] at hcse hv
          have hcse : cs = #[.int .i64 kd, a1, a2, a3, a4, a5, .bool bb] := hcse
          have hv : LV w (fun b => b < w.heap.size) t (.agg #[a1, a2, a3, a4, a5]) := hv
          obtain ⟨A1, c1, A1', c1', hsh, -⟩ := hv.shape
          simp only [Value.agg.injEq, Array.mk.injEq, List.cons.injEq, and_true] at hsh
          obtain ⟨rfl, rfl, rfl, rfl, rfl⟩ := hsh
          have HT5 : Hid (Two w wr.drew g X m r) := Lib.hid (HT.out.stay (Below.refl _ _).drew)
          have hat : ∀ j v, #[Value.int .i64 kd, .int .i64 t.kind, .int .i64 t.num, .string t.text, .slice A1 t.items.length c1, .slice A1' t.names.length c1', .bool bb][j]? = some v → wr.drew.cell? ⟨b, off + k * 7 + j, none⟩ = some v := fun j v hj => (World.cell?_of_block (a := ⟨b, off + k * 7 + j, none⟩) (HT5.out.below.block b hbS)).trans (hcs j v (by rw [hcse]; exact hj))
          have e0 := cell_br (B := w.heap.size) (w := wr.drew) (a := ⟨b, off + k * 7, none⟩) (hat 0 _ rfl) hbS
          have e1 := cell_br (B := w.heap.size) (w := wr.drew) (a := ⟨b, off + k * 7 + 1, none⟩) (hat 1 _ rfl) hbS
          have e2 := cell_br (B := w.heap.size) (w := wr.drew) (a := ⟨b, off + k * 7 + 2, none⟩) (hat 2 _ rfl) hbS
          have e3 := cell_br (B := w.heap.size) (w := wr.drew) (a := ⟨b, off + k * 7 + 3, none⟩) (hat 3 _ rfl) hbS
          have e4 := cell_br (B := w.heap.size) (w := wr.drew) (a := ⟨b, off + k * 7 + 4, none⟩) (hat 4 _ rfl) hbS
          have e5 := cell_br (B := w.heap.size) (w := wr.drew) (a := ⟨b, off + k * 7 + 5, none⟩) (hat 5 _ rfl) hbS
          have e6 := cell_br (B := w.heap.size) (w := wr.drew) (a := ⟨b, off + k * 7 + 6, none⟩) (hat 6 _ rfl) hbS
          have HLV : Hid (LV w (fun b => b < w.heap.size) t _) := Lib.hid hv
          have HV5 : Hid (LV wr.drew (fun b => b < w.heap.size) t _) := Lib.hid (hv.keep fun b hb => HT5.out.below.block b hb)
          have HBS := Lib.hid hbS
          subst hA
          clear hat hcs hcse hc ho hbS HT hv
          by_cases hkd1 : kd = 1
          · subst hkd1
            cases hl : largeT t with
            | true =>
              have HLG := Lib.hid hl
              clear hl
              go_wp2_with fail
              refine wp_region_OT (BelowR w.heap.size) (fun w => Below.refl _ w) (fun _ _ _ h k => h.trans k) [] (.pure [0, 1, 2, 3, 4, 5, 6, 7, 8, 9, 10, 11] (.step 12 (.pure [13, 14, 15, 16, 17, 18, 19, 20, 21, 22, 23, 24, 25, 26, 28, 29, 30, 31, 32, 33, 34, 35, 36, 37, 38] (.step 27 (.step 39 (.free [40, 41] (.tail []))))))) (by kernel_rfl) (by kernel_rfl) (fun _ d _ _ _ h => by cases d <;> exact h) ?_
              refine ot_pure ?_
              simp only [atNats, List.filterMap_cons, List.filterMap_nil, List.getElem?_toArray, List.getElem?_cons_succ, List.getElem?_cons_zero]
              show wpQuiet _ _ _ _ [_, _, _, _, _, _, _, _, _, _, _, _] _
              repeat (go_big_quiet_step (fail))
              refine wpQuiet_nil ?_
              refine ot_step rfl (fun K hK => ?_)
              go_simp
              refine (large_any (fun b => b < w.heap.size) t _ _ HT5.out.inlt HV5.out).mono ?_
              rintro e w6 ⟨rfl, hb6⟩
              go_simp
              refine hK _ _ (.inr (hb6.mono HT5.out.below.size)) ?_
              clear hK K
              rw [HLG.out]
              have HT6 := Lib.hid (HT5.out.stay hb6)
              clear hb6 HT5 HV5 e0 e1 e2 e3 e4 e5 e6
              refine ot_pure ?_
              simp only [atNats, List.filterMap_cons, List.filterMap_nil, List.getElem?_toArray, List.getElem?_cons_succ, List.getElem?_cons_zero]
              show wpQuiet _ _ _ _ [_, _, _, _, _, _, _, _, _, _, _, _, _, _, _, _, _, _, _, _, _, _, _, _, _] _
              repeat (go_big_quiet_step (fail))
              refine wpQuiet_nil ?_
              refine ot_step rfl (fun K hK => ?_)
              go_simp
              refine hK _ _ (.inr (Below.refl _ _)) ?_
              clear hK K
              refine ot_step rfl (fun K hK => ?_)
              go_simp
              refine hK _ _ (.inr (Below.refl _ _)) ?_
              clear hK K
              refine ot_free ?_
              simp only [atNats, List.filterMap_cons, List.filterMap_nil, List.getElem?_toArray, List.getElem?_cons_succ, List.getElem?_cons_zero]
              show wpQuiet _ _ _ _ [_, _] _
              repeat (go_big_quiet_step (fail))
              refine wpQuiet_nil ?_
              refine ot_end ?_
              go_wp2_with fail
              go_roundw
              case rel => exact ⟨k + 1, _, _, by go_num, by omega, by omega, HT6, Lib.hid ⟨by have := HL.out.1; omega, HL.out.2⟩, HGR⟩
              case measure => simp [intOf]; omega
            | false =>
              have HLG := Lib.hid hl
              clear hl
              have hdk := dep_ok HLG.out
              have hd1000 : depthT t ≤ 1000 := Nat.le_trans (depth_small HLG.out) (by decide)
              have HD := Lib.hid (And.intro hdk hd1000)
              clear hdk hd1000
              by_cases href : bb = true ∧ checkT t ≠ 0
              · obtain ⟨rfl, hck⟩ := href
                have HCK := Lib.hid hck
                clear hck
                go_wp2_with fail
                refine wp_region_OT (BelowR w.heap.size) (fun w => Below.refl _ w) (fun _ _ _ h k => h.trans k) [] (.pure [0, 1, 2, 3, 4, 5, 6, 7, 8, 9, 10, 11] (.step 12 (.pure [13, 14, 15, 16, 17, 18, 19, 20, 21, 22, 23, 24, 25, 26, 28, 29, 30, 31, 32, 33, 34, 35, 36, 37, 38] (.step 27 (.step 39 (.free [40, 41] (.tail []))))))) (by kernel_rfl) (by kernel_rfl) (fun _ d _ _ _ h => by cases d <;> exact h) ?_
                refine ot_pure ?_
                simp only [atNats, List.filterMap_cons, List.filterMap_nil, List.getElem?_toArray, List.getElem?_cons_succ, List.getElem?_cons_zero]
                show wpQuiet _ _ _ _ [_, _, _, _, _, _, _, _, _, _, _, _] _
                repeat (go_big_quiet_step (fail))
                refine wpQuiet_nil ?_
                refine ot_step rfl (fun K hK => ?_)
                go_simp
                refine (large_any (fun b => b < w.heap.size) t _ _ HT5.out.inlt HV5.out).mono ?_
                rintro e w6 ⟨rfl, hb6⟩
                go_simp
                refine hK _ _ (.inr (hb6.mono HT5.out.below.size)) ?_
                clear hK K
                rw [HLG.out]
                have HT6 := Lib.hid (HT5.out.stay hb6)
                have HV6 := Lib.hid (HV5.out.below HT5.out.inlt hb6)
                replace e0 := cell_br (B := w.heap.size) (w := w6) (a := ⟨b, off + k * 7, none⟩) ((hb6.cell (p := ⟨b, off + k * 7, none⟩) (HT5.out.inlt b HBS.out)).trans (e0 ⟨wr.drew, Below.refl _ _⟩)) HBS.out
                replace e1 := cell_br (B := w.heap.size) (w := w6) (a := ⟨b, off + k * 7 + 1, none⟩) ((hb6.cell (p := ⟨b, off + k * 7 + 1, none⟩) (HT5.out.inlt b HBS.out)).trans (e1 ⟨wr.drew, Below.refl _ _⟩)) HBS.out
                replace e2 := cell_br (B := w.heap.size) (w := w6) (a := ⟨b, off + k * 7 + 2, none⟩) ((hb6.cell (p := ⟨b, off + k * 7 + 2, none⟩) (HT5.out.inlt b HBS.out)).trans (e2 ⟨wr.drew, Below.refl _ _⟩)) HBS.out
                replace e3 := cell_br (B := w.heap.size) (w := w6) (a := ⟨b, off + k * 7 + 3, none⟩) ((hb6.cell (p := ⟨b, off + k * 7 + 3, none⟩) (HT5.out.inlt b HBS.out)).trans (e3 ⟨wr.drew, Below.refl _ _⟩)) HBS.out
                replace e4 := cell_br (B := w.heap.size) (w := w6) (a := ⟨b, off + k * 7 + 4, none⟩) ((hb6.cell (p := ⟨b, off + k * 7 + 4, none⟩) (HT5.out.inlt b HBS.out)).trans (e4 ⟨wr.drew, Below.refl _ _⟩)) HBS.out
                replace e5 := cell_br (B := w.heap.size) (w := w6) (a := ⟨b, off + k * 7 + 5, none⟩) ((hb6.cell (p := ⟨b, off + k * 7 + 5, none⟩) (HT5.out.inlt b HBS.out)).trans (e5 ⟨wr.drew, Below.refl _ _⟩)) HBS.out
                replace e6 := cell_br (B := w.heap.size) (w := w6) (a := ⟨b, off + k * 7 + 6, none⟩) ((hb6.cell (p := ⟨b, off + k * 7 + 6, none⟩) (HT5.out.inlt b HBS.out)).trans (e6 ⟨wr.drew, Below.refl _ _⟩)) HBS.out
                clear hb6 HT5 HV5
                refine ot_pure ?_
                simp only [atNats, List.filterMap_cons, List.filterMap_nil, List.getElem?_toArray, List.getElem?_cons_succ, List.getElem?_cons_zero]
                show wpQuiet _ _ _ _ [_, _, _, _, _, _, _, _, _, _, _, _, _, _, _, _, _, _, _, _, _, _, _, _, _] _
                repeat (go_big_quiet_step (fail))
                refine wpQuiet_nil ?_
                clear e0 e1 e2 e3 e4 e5 e6
                refine ot_step rfl (fun K hK => ?_)
                go_simp
                refine (inote_refused (w := w6) (g := g) HT6.out.inlt HV6.out HD.out.1 HCK.out).mono ?_
                rintro e w9 ⟨rfl, hb9⟩
                go_simp
                refine hK _ _ (.inr (hb9.mono HT6.out.below.size)) ?_
                clear hK K
                have HT9 := Lib.hid (HT6.out.stay hb9)
                have HV9 := Lib.hid (HV6.out.below HT6.out.inlt hb9)
                clear hb9 HT6 HV6
                refine ot_step rfl (fun K hK => ?_)
                go_simp
                refine (rnote_refused (w := w9) (x := X) HT9.out.inlt HV9.out HD.out.2 HCK.out).mono ?_
                rintro e w10 ⟨rfl, hb10⟩
                go_simp
                refine hK _ _ (.inr (hb10.mono HT9.out.below.size)) ?_
                clear hK K
                have HT10 := Lib.hid (HT9.out.stay hb10)
                clear hb10 HT9 HV9
                refine ot_free ?_
                simp only [atNats, List.filterMap_cons, List.filterMap_nil, List.getElem?_toArray, List.getElem?_cons_succ, List.getElem?_cons_zero]
                show wpQuiet _ _ _ _ [_, _] _
                repeat (go_big_quiet_step (fail))
                refine wpQuiet_nil ?_
                refine ot_end ?_
                go_wp2_with fail
                go_roundw
                case rel => exact ⟨k + 1, _, _, by go_num, by omega, by omega, HT10, Lib.hid ⟨by have := HL.out.1; omega, HL.out.2⟩, HGR⟩
                case measure => simp [intOf]; omega
              · have hc : bb = true → checkT t = 0 := fun h => Decidable.byContradiction fun h2 => href ⟨h, h2⟩
                have HC := Lib.hid hc
                clear hc href
                go_wp2_with fail
                refine wp_region_OT (BelowR w.heap.size) (fun w => Below.refl _ w) (fun _ _ _ h k => h.trans k) [] (.pure [0, 1, 2, 3, 4, 5, 6, 7, 8, 9, 10, 11] (.step 12 (.pure [13, 14, 15, 16, 17, 18, 19, 20, 21, 22, 23, 24, 25, 26, 28, 29, 30, 31, 32, 33, 34, 35, 36, 37, 38] (.step 27 (.step 39 (.free [40, 41] (.tail []))))))) (by kernel_rfl) (by kernel_rfl) (fun _ d _ _ _ h => by cases d <;> exact h) ?_
                refine ot_pure ?_
                simp only [atNats, List.filterMap_cons, List.filterMap_nil, List.getElem?_toArray, List.getElem?_cons_succ, List.getElem?_cons_zero]
                show wpQuiet _ _ _ _ [_, _, _, _, _, _, _, _, _, _, _, _] _
                repeat (go_big_quiet_step (fail))
                refine wpQuiet_nil ?_
                refine ot_step rfl (fun K hK => ?_)
                go_simp
                refine (large_any (fun b => b < w.heap.size) t _ _ HT5.out.inlt HV5.out).mono ?_
                rintro e w6 ⟨rfl, hb6⟩
                go_simp
                refine hK _ _ (.inr (hb6.mono HT5.out.below.size)) ?_
                clear hK K
                rw [HLG.out]
                have HT6 := Lib.hid (HT5.out.stay hb6)
                have HV6 := Lib.hid (HV5.out.below HT5.out.inlt hb6)
                replace e0 := cell_br (B := w.heap.size) (w := w6) (a := ⟨b, off + k * 7, none⟩) ((hb6.cell (p := ⟨b, off + k * 7, none⟩) (HT5.out.inlt b HBS.out)).trans (e0 ⟨wr.drew, Below.refl _ _⟩)) HBS.out
                replace e1 := cell_br (B := w.heap.size) (w := w6) (a := ⟨b, off + k * 7 + 1, none⟩) ((hb6.cell (p := ⟨b, off + k * 7 + 1, none⟩) (HT5.out.inlt b HBS.out)).trans (e1 ⟨wr.drew, Below.refl _ _⟩)) HBS.out
                replace e2 := cell_br (B := w.heap.size) (w := w6) (a := ⟨b, off + k * 7 + 2, none⟩) ((hb6.cell (p := ⟨b, off + k * 7 + 2, none⟩) (HT5.out.inlt b HBS.out)).trans (e2 ⟨wr.drew, Below.refl _ _⟩)) HBS.out
                replace e3 := cell_br (B := w.heap.size) (w := w6) (a := ⟨b, off + k * 7 + 3, none⟩) ((hb6.cell (p := ⟨b, off + k * 7 + 3, none⟩) (HT5.out.inlt b HBS.out)).trans (e3 ⟨wr.drew, Below.refl _ _⟩)) HBS.out
                replace e4 := cell_br (B := w.heap.size) (w := w6) (a := ⟨b, off + k * 7 + 4, none⟩) ((hb6.cell (p := ⟨b, off + k * 7 + 4, none⟩) (HT5.out.inlt b HBS.out)).trans (e4 ⟨wr.drew, Below.refl _ _⟩)) HBS.out
                replace e5 := cell_br (B := w.heap.size) (w := w6) (a := ⟨b, off + k * 7 + 5, none⟩) ((hb6.cell (p := ⟨b, off + k * 7 + 5, none⟩) (HT5.out.inlt b HBS.out)).trans (e5 ⟨wr.drew, Below.refl _ _⟩)) HBS.out
                replace e6 := cell_br (B := w.heap.size) (w := w6) (a := ⟨b, off + k * 7 + 6, none⟩) ((hb6.cell (p := ⟨b, off + k * 7 + 6, none⟩) (HT5.out.inlt b HBS.out)).trans (e6 ⟨wr.drew, Below.refl _ _⟩)) HBS.out
                clear hb6 HT5 HV5
                refine ot_pure ?_
                simp only [atNats, List.filterMap_cons, List.filterMap_nil, List.getElem?_toArray, List.getElem?_cons_succ, List.getElem?_cons_zero]
                show wpQuiet _ _ _ _ [_, _, _, _, _, _, _, _, _, _, _, _, _, _, _, _, _, _, _, _, _, _, _, _, _] _
                repeat (go_big_quiet_step (fail))
                refine wpQuiet_nil ?_
                clear e0 e1 e2 e3 e4 e5 e6
                have hsg : ¬ (g < w.heap.size) := by have := HT6.out.new; omega
                have hsx : ¬ (X < w.heap.size) := by have := HT6.out.xnew; omega
                have HSG := Lib.hid hsg
                have HSX := Lib.hid hsx
                refine ot_step rfl (fun K hK => ?_)
                go_simp
                refine (inote_any bb HT6.out.at_ HT6.out.fine NearX.lt NearX.self HT6.out.inlt hsg HV6.out HD.out.1 HC.out).mono ?_
                rintro e w9 ⟨rfl, hi9, ho9⟩
                go_simp
                refine hK _ _ (.inr (below_only (Below.refl _ _) ho9 HT6.out.below.size HT6.out.new)) ?_
                clear hK K hsg hsx
                obtain ⟨C, hC, -⟩ := HT6.out.at_
                have hr9 := HT6.out.rat.only ho9 hC (fun b hb => ⟨HT6.out.inlt b hb, fun e => HSG.out (by rw [← e]; exact hb)⟩)
                have hv9 : LV w9 (fun b => b < w.heap.size) t _ := HV6.out.keep fun b hb => ho9.block b (HT6.out.inlt b hb) (by rintro ⟨⟩; exact HSG.out hb)
                have hin9 : ∀ b, b < w.heap.size → b < w9.heap.size := fun b hb => Nat.lt_of_lt_of_le (HT6.out.inlt b hb) ho9.size
                have HM := Lib.hid (rnote_any bb hr9 hin9 HSX.out hin9 HSX.out hv9 HD.out.2 HC.out (by have := HL.out.1; omega))
                have HN9 : Hid (NoteR w6 (NearX w w6 g X) g (m.note (if bb = true then some t else none)) (.returned (.int .i64 0)) w9) := Lib.hid ⟨rfl, hi9, ho9⟩
                have HB9 : Hid (w.heap.size ≤ w9.heap.size) := Lib.hid (Nat.le_trans HT6.out.below.size ho9.size)
                have HO : Hid (∀ y, (if bb = true then some t else none) = some y → checkT y = 0 ∧ sizeT y ≤ 9223372036854775807) := Lib.hid (fun y hy => by
                  by_cases hb : bb = true
                  · rw [if_pos hb] at hy
                    injection hy with hy
                    subst hy
                    exact ⟨HC.out hb, size_small HLV.out HLG.out⟩
                  · rw [if_neg hb] at hy; cases hy)
                clear hi9 ho9 hC hr9 hv9 hin9 HV6
                refine ot_step rfl (fun K hK => ?_)
                go_simp
                refine HM.out.mono ?_
                rintro e w10 hn10
                obtain ⟨rfl, hr10, ho10⟩ := hn10
                go_simp
                refine hK _ _ (.inr (below_only (Below.refl _ _) ho10 HB9.out HT6.out.xnew)) ?_
                clear hK K
                have HT10 := Lib.hid (HT6.out.noted HN9.out ⟨rfl, hr10, ho10⟩ (fun b hb => hb.elim id id) (by
                  have h1 := HT6.out.agree.top
                  have h2 := HL.out.1
                  have h3 := HT6.out.rfine.b1
                  have h4 : r.top = r.base + r.l.length := rfl
                  omega) HO.out (by have := HL.out.1; omega))
                have HGR10 := Lib.hid (HGR.out.note (if bb = true then some t else none) HO.out)
                clear hr10 ho10 HM HN9 HT6 HO
                refine ot_free ?_
                simp only [atNats, List.filterMap_cons, List.filterMap_nil, List.getElem?_toArray, List.getElem?_cons_succ, List.getElem?_cons_zero]
                show wpQuiet _ _ _ _ [_, _] _
                repeat (go_big_quiet_step (fail))
                refine wpQuiet_nil ?_
                refine ot_end ?_
                go_wp2_with fail
                go_roundw
                case rel => exact ⟨k + 1, _, _, by go_num, by omega, by omega, HT10, Lib.hid ⟨by have := HL.out.1; show (r.l ++ [_]).length ≤ k + 1; simp; omega, by rw [note_base]; exact HL.out.2⟩, HGR10⟩
                case measure => simp [intOf]; omega
          · skip
            have hb1 : (kd == 1) = false := beq_false_of_ne hkd1
            go_wp2_with fail
            refine wp_region_OT (BelowR w.heap.size) (fun w => Below.refl _ w) (fun _ _ _ h k => h.trans k) [] (.pure [0, 1, 2, 3, 4, 5, 6, 7, 8, 9, 10, 11] (.step 12 (.pure [13, 14, 15, 16, 17, 18, 19, 20, 21, 22, 23, 24, 25, 26, 28, 29, 30, 31, 32, 33, 34, 35, 36, 37, 38] (.step 27 (.step 39 (.free [40, 41] (.tail []))))))) (by kernel_rfl) (by kernel_rfl) (fun _ d _ _ _ h => by cases d <;> exact h) ?_
            refine ot_pure ?_
            simp only [atNats, List.filterMap_cons, List.filterMap_nil, List.getElem?_toArray, List.getElem?_cons_succ, List.getElem?_cons_zero]
            show wpQuiet _ _ _ _ [_, _, _, _, _, _, _, _, _, _, _, _] _
            repeat (go_big_quiet_step (fail))
            refine wpQuiet_nil ?_
            clear e0 e1 e2 e3 e4 e5 e6
            refine ot_step rfl (fun K hK => ?_)
            go_simp
            refine hK _ _ (.inr (Below.refl _ _)) ?_
            clear hK K
            refine ot_pure ?_
            simp only [atNats, List.filterMap_cons, List.filterMap_nil, List.getElem?_toArray, List.getElem?_cons_succ, List.getElem?_cons_zero]
            show wpQuiet _ _ _ _ [_, _, _, _, _, _, _, _, _, _, _, _, _, _, _, _, _, _, _, _, _, _, _, _, _] _
            repeat (go_big_quiet_step (fail))
            refine wpQuiet_nil ?_
            refine ot_step rfl (fun K hK => ?_)
            go_simp
            refine hK _ _ (.inr (Below.refl _ _)) ?_
            clear hK K
            refine ot_step rfl (fun K hK => ?_)
            go_simp
            refine hK _ _ (.inr (Below.refl _ _)) ?_
            clear hK K
            refine ot_free ?_
            simp only [atNats, List.filterMap_cons, List.filterMap_nil, List.getElem?_toArray, List.getElem?_cons_succ, List.getElem?_cons_zero]
            show wpQuiet _ _ _ _ [_, _] _
            repeat (go_big_quiet_step (fail))
            refine wpQuiet_nil ?_
            refine ot_end ?_
            go_wp2_with fail
            go_roundw
            case rel => exact ⟨k + 1, _, _, by go_num, by omega, by omega, HT5, Lib.hid ⟨by have := HL.out.1; omega, HL.out.2⟩, HGR⟩
            case measure => simp [intOf]; omega
        · obtain rfl : k = 100 := by omega
          go_wp2_with fail
          have HT5 : Hid (Two w wr.drew g X m r) := Lib.hid (HT.out.stay (Below.refl _ _).drew)
          clear HT
          refine wp_region_OT KeepA KeepA.refl KeepA.trans [] (.pure [0, 3] (.step 1 (.pure [2] (.step 4 (.pure [5, 6, 7] (.tail [])))))) (by kernel_rfl) (by kernel_rfl) (fun _ d _ _ _ h => by cases d <;> exact h) ?_
          refine ot_pure ?_
          simp only [atNats, List.filterMap_cons, List.filterMap_nil, List.getElem?_toArray, List.getElem?_cons_succ, List.getElem?_cons_zero]
          show wpQuiet _ _ _ _ [_, _] _
          repeat (go_big_quiet_step (fail))
          refine wpQuiet_nil ?_
          refine ot_step rfl (fun K hK => ?_)
          go_simp
          refine (icode_any HT5.out.at_ HT5.out.fine HT5.out.good NearX.lt).mono ?_
          rintro e w6 ⟨v6, rfl, hv6, hb6⟩
          go_simp
          refine hK _ _ (.inr (KeepA.of hb6)) ?_
          clear hK K
          have HT6 := Lib.hid (HT5.out.stay hb6)
          have HV6 := Lib.hid hv6
          have hcv := run_ka (w := w6) (s := convert 45 9 v6) fun u hu => (OwnB.ka HV6.out hu).conv
          clear hv6 hb6 HT5
          refine ot_pure ?_
          simp only [atNats, List.filterMap_cons, List.filterMap_nil, List.getElem?_toArray, List.getElem?_cons_succ, List.getElem?_cons_zero]
          show wpQuiet _ _ _ _ [_] _
          repeat (go_big_quiet_step (fail))
          refine wpQuiet_nil ?_
          clear hcv
          refine ot_step rfl (fun K hK => ?_)
          go_simp
          have hrc := rcode16_any HT6.out.rat HT6.out.rfine HGR.out HT6.out.inlt
          rw [code_eq HT6.out.fine HT6.out.rfine HT6.out.agree HL.out.2] at hrc
          refine hrc.mono ?_
          rintro e w7 ⟨v7, rfl, hv7, hb7⟩
          go_simp
          refine hK _ _ (.inr (KeepA.of hb7)) ?_
          clear hK K hrc
          have HT7 := Lib.hid (HT6.out.stay hb7)
          have HV7 := Lib.hid hv7
          have hcv := run_ka (w := w7) (s := convert 45 9 v7) fun u hu => (OwnB.ka HV7.out hu).conv
          clear hv7 hb7 HT6
          refine ot_pure ?_
          simp only [atNats, List.filterMap_cons, List.filterMap_nil, List.getElem?_toArray, List.getElem?_cons_succ, List.getElem?_cons_zero]
          show wpQuiet _ _ _ _ [_, _, _] _
          repeat (go_big_quiet_step (fail))
          refine wpQuiet_nil ?_
          refine ot_end ?_
          go_wp2_with fail
          go_ret
          refine ⟨?_, HT7.out.below⟩
          simp
      · obtain rfl : k = os.length := by omega
        go_wp2_with fail
        have HT5 : Hid (Two w wr.drew g X m r) := Lib.hid (HT.out.stay (Below.refl _ _).drew)
        clear HT
        refine wp_region_OT KeepA KeepA.refl KeepA.trans [] (.pure [0, 3] (.step 1 (.pure [2] (.step 4 (.pure [5, 6, 7] (.tail [])))))) (by kernel_rfl) (by kernel_rfl) (fun _ d _ _ _ h => by cases d <;> exact h) ?_
        refine ot_pure ?_
        simp only [atNats, List.filterMap_cons, List.filterMap_nil, List.getElem?_toArray, List.getElem?_cons_succ, List.getElem?_cons_zero]
        show wpQuiet _ _ _ _ [_, _] _
        repeat (go_big_quiet_step (fail))
        refine wpQuiet_nil ?_
        refine ot_step rfl (fun K hK => ?_)
        go_simp
        refine (icode_any HT5.out.at_ HT5.out.fine HT5.out.good NearX.lt).mono ?_
        rintro e w6 ⟨v6, rfl, hv6, hb6⟩
        go_simp
        refine hK _ _ (.inr (KeepA.of hb6)) ?_
        clear hK K
        have HT6 := Lib.hid (HT5.out.stay hb6)
        have HV6 := Lib.hid hv6
        have hcv := run_ka (w := w6) (s := convert 45 9 v6) fun u hu => (OwnB.ka HV6.out hu).conv
        clear hv6 hb6 HT5
        refine ot_pure ?_
        simp only [atNats, List.filterMap_cons, List.filterMap_nil, List.getElem?_toArray, List.getElem?_cons_succ, List.getElem?_cons_zero]
        show wpQuiet _ _ _ _ [_] _
        repeat (go_big_quiet_step (fail))
        refine wpQuiet_nil ?_
        clear hcv
        refine ot_step rfl (fun K hK => ?_)
        go_simp
        have hrc := rcode16_any HT6.out.rat HT6.out.rfine HGR.out HT6.out.inlt
        rw [code_eq HT6.out.fine HT6.out.rfine HT6.out.agree HL.out.2] at hrc
        refine hrc.mono ?_
        rintro e w7 ⟨v7, rfl, hv7, hb7⟩
        go_simp
        refine hK _ _ (.inr (KeepA.of hb7)) ?_
        clear hK K hrc
        have HT7 := Lib.hid (HT6.out.stay hb7)
        have HV7 := Lib.hid hv7
        have hcv := run_ka (w := w7) (s := convert 45 9 v7) fun u hu => (OwnB.ka HV7.out hu).conv
        clear hv7 hb7 HT6
        refine ot_pure ?_
        simp only [atNats, List.filterMap_cons, List.filterMap_nil, List.getElem?_toArray, List.getElem?_cons_succ, List.getElem?_cons_zero]
        show wpQuiet _ _ _ _ [_, _, _] _
        repeat (go_big_quiet_step (fail))
        refine wpQuiet_nil ?_
        refine ot_end ?_
        go_wp2_with fail
        go_ret
        refine ⟨?_, HT7.out.below⟩
        simp
  · have HM : Hid (mayI keep base = false) := Lib.hid (by simpa using hm)
    clear hm
    go_wp2_with fail
    refine (inew_bad keep base w HM.out).mono ?_
    rintro e w1 ⟨rfl, hb1⟩
    have HB1 := Lib.hid hb1
    clear hb1
    go_wp2_with fail
    refine (lives16_any w1).mono ?_
    rintro e w2 ⟨rfl, hb2⟩
    have HB2 := Lib.hid (HB1.out.trans (hb2.mono HB1.out.size))
    clear hb2 HB1
    go_wp2_with fail
    refine (rmay16_any keep base w2).mono ?_
    rintro e w3 ⟨rfl, rfl⟩
    rw [HM.out]
    go_wp2_with fail
    refine (lives16_any _).mono ?_
    rintro e wz ⟨rfl, hbz⟩
    have HBZ := Lib.hid (HB2.out.trans (hbz.mono HB2.out.size))
    clear hbz
    go_wp2_with fail
    go_ret
    exact ⟨rfl, HBZ.out⟩

set_option maxRecDepth 100000 in
theorem lifted (os : Os) (started : os.Started) (H : Type) (enc : TypeId × Value → H) :
    ReturnsInHanded {} Try.checked os 4 .any (Rows.imageCodesSpec.pre6 enc Try.prog Try.f4 Rows.imageCodesRow.domain false) (Rows.imageCodesSpec.post enc Try.prog Try.f4 false true false false) := by
  refine returnsInHanded_of_change_sized (C := Try.checked) own started (by kernel_rfl) Try.func4
    (ChangeSpec.witness6 (enc := enc) (C := Try.checked) false ⟨#[], #[.int .i64 0, .int .i64 0, .slice none 0 0], []⟩ 8 (by kernel_rfl) (by kernel_rfl) (by kernel_rfl) (by kernel_rfl)) ?_
  intro W base args ds gs before hval0 hW hcnd hsz0 _
  have hval : ∀ (j : Nat) t v, Try.f4.params[j]? = some t → args[j]? = some v → Value.okWide Try.prog W .any base t v := hval0
  have hsz : (DataW.weightsEach Try.prog (Try.f4.params.toList ++ Rows.imageCodesSpec.plain.varTypes Try.prog) (ds ++ gs)).all (· ≤ reachBytes) = true := hsz0
  have hW' := hW
  obtain ⟨p, q, hA0, hV, rfl, hfz, hnd⟩ := hW
  have hA : DataW.TrodAll enc Try.prog W 0 (fun _ => true) true Try.f4.params.toList args.toList ds p := hA0
  rw [Try.params4] at hA hval hsz
  obtain ⟨v0, v1, v2, d0, d1, d2, p0, p1, p2, rfl, rfl, rfl, h0, h1, h2⟩ := trodAll_three hA
  obtain ⟨rfl, rfl⟩ := trodVars_none hV
  obtain ⟨a0, rfl, rfl, rfl, wa0⟩ := open_int Try.underlying3 (hval 0 3 v0 rfl rfl) h0
  obtain ⟨a1, rfl, rfl, rfl, wa1⟩ := open_int Try.underlying3 (hval 1 3 v1 rfl rfl) h1
  obtain ⟨A2, n2, c2, rfl⟩ := okWide_slice Try.underlying22 (hval 2 22 v2 rfl rfl)
  have k2 := h2
  have lt2 : ∀ x ∈ p2, x.block < W.heap.size := by obtain ⟨m, hm⟩ := k2; exact DataW.trod_lt m _ _ _ hm
  have wt2 : ∀ n ∈ d2.weights Try.prog 22, n ≤ reachBytes := fun n hn => by have := List.all_eq_true.1 hsz n (DataW.weights_mem_each (j := 2) rfl rfl n hn); simpa using this
  clear hA0 hval0
  have ha0 := in64_of_wf wa0
  have ha1 := in64_of_wf wa1
  obtain ⟨os2, hn2, hl2, hos2⟩ : ∃ os : List OpI, n2 = os.length ∧ os.length ≤ 1466015503658 ∧ OpsI W (fun b => b < W.heap.size) A2 os := by
    obtain ⟨m, hm⟩ := k2
    obtain ⟨B, e, os, he, g0, g1⟩ := open_ops16 hm wt2
    have he' : [Value.slice A2 n2 c2] = [Value.slice B os.length e] := he
    simp only [List.cons.injEq, Value.slice.injEq, and_true] at he'
    obtain ⟨rfl, rfl, rfl⟩ := he'
    exact ⟨os, rfl, g0, g1⟩
  subst hn2
  refine (walk a0 a1 A2 os2 c2 W hl2 hos2).mono fun e W' ⟨he, bel⟩ => ?_
  subst he
  exact ⟨_, rfl, _, _, _, [], _, [], hW', trodAll_mk1 (shut_bool Try.underlying4 _), (trodAll_cons_mk (shut_int Try.underlying3 wa0) (trodAll_cons_mk (shut_int Try.underlying3 wa1) (trodAll_cons_mk (Below.trod laidOut (by kernel_rfl) (of_decide_eq_true (by kernel_rfl)) k2 bel lt2) trodAll_mk0))), rfl, bel.frame _, fun h => by cases h⟩

/-- The statement. -/
theorem proved : Rows.ImageCodesSaid :=
  OpenClaim.holds_of_wide 4 Try.f4 rfl rfl rfl rfl rfl rfl rfl ⟨rfl, rfl, rfl, rfl, rfl⟩ rfl rfl rfl rfl rfl (by kernel_rfl) Try.func4 (by kernel_rfl)
    (of_decide_eq_true (by kernel_rfl)) (by unfold Func.isWrapper; first | (rw [if_pos (by decide +kernel)]; kernel_rfl) | (rw [if_neg (by decide +kernel)]; exact ⟨rfl, rfl⟩))
    (fun os started H enc _ => lifted os started H enc)

end Go.Proofs.Ytdggeokpnaopiaa.ICodes
