/- Which operators, and updates, may be, and their places: as the document says. No conditions. -/
import Derived.Test.YtipiplnhbecjeaaGreatKSpRi
import Derived.Test.YtipiplnhbecjeaaGreatKSpX
import Derived.Test.YtipiplnhbecjeaaGreatKSpM
import Derived.Test.YtipiplnhbecjeaaGreatKSpS
import Derived.SizedLaws
import Derived.ProofKit
import Derived.OpenShut
import Derived.ShutString
import Derived.ChangeOld
import Derived.Below
namespace Go.Proofs.YtipiplnhbecjeaaGreat.SChecks
set_option linter.unusedVariables false
set_option linter.unusedSimpArgs false
open Go.ChangeShapes Go.WideShapes Go.ChangeAt Go.RowKit Go.Joins
set_option linter.unusedVariables false

theorem own : ownKnob Tryz.prog.godebug = none := by kernel_rfl
theorem laidOut : laidOutB Tryz.prog = true := by kernel_rfl
theorem all_take {l : List OpT} {k : Nat} (hk : k < l.length) : (l.take (k + 1)).all mayO = ((l.take k).all mayO && mayO l[k]) := by
  rw [List.take_add_one, List.getElem?_eq_getElem hk, List.all_append]
  simp
theorem boxs_of {w w' : World} {B g : Nat} {s : SpecT} {DA : Option Addr} {dc : Nat} {DA' : Option Addr} {dc' : Nat} {OA : Option Addr} {oc : Nat} (h : SBox w g s DA dc DA' dc' OA oc) (hb : Below B w w') (hg : g < B) : SBox w' g s DA dc DA' dc' OA oc := (hb.block g hg).trans h
theorem boxs_lt {w : World} {g : Nat} {s : SpecT} {DA : Option Addr} {dc : Nat} {DA' : Option Addr} {dc' : Nat} {OA : Option Addr} {oc : Nat} (h : SBox w g s DA dc DA' dc' OA oc) : g < w.heap.size := (Array.getElem?_eq_some_iff.1 h).1

set_option maxHeartbeats 16000000 in
set_option maxRecDepth 100000 in
theorem walk (s : SpecT) (cs : Array Value) (w : World) (h : SpecL w (fun b => b < w.heap.size) s cs) : Calls Tryz.prog 3 #[.agg cs] w fun e w' => e = .returned (.bool true) ∧ Below w.heap.size w w' := by
  obtain ⟨DA, dc, DA', dc', OA, oc, rfl, hv, ho, hoc, hol⟩ := id h
  obtain ⟨w1, hw1⟩ : ∃ W, W = w.alloc (.cells #[.bool s.rep, .int .i64 s.doc.kind, .int .i64 s.doc.num, .string s.doc.text, .slice DA s.doc.items.length dc, .slice DA' s.doc.names.length dc', .slice OA s.ops.length oc] 28) := ⟨_, rfl⟩
  have hbk : SBox w1 w.heap.size s DA dc DA' dc' OA oc := by rw [hw1]; exact heap_alloc_new w _
  have hb1 : Below w.heap.size w w1 := by rw [hw1]; exact (Below.refl _ _).alloc (Nat.le_refl _) _
  have HS : Hid (∀ b, (fun b => b < w.heap.size) b → b < w.heap.size) := Lib.hid fun b hb => hb
  have HL := Lib.hid h
  have HO := Lib.hid ho
  have HLG := Lib.hid (rlarge7_any (fun b => b < w.heap.size) s _ w1 (fun b hb => Nat.lt_of_lt_of_le hb hb1.size) (h.below HS.out hb1))
  have y0 := Go.Joins.cell_of_block hbk 0
  have y1 := Go.Joins.cell_of_block hbk 1
  have y2 := Go.Joins.cell_of_block hbk 2
  have y3 := Go.Joins.cell_of_block hbk 3
  have y4 := Go.Joins.cell_of_block hbk 4
  have y5 := Go.Joins.cell_of_block hbk 5
  have y6 := Go.Joins.cell_of_block hbk 6
  have HBK := Lib.hid hbk
  have HB1 := Lib.hid hb1
  have HOL := Lib.hid (And.intro hoc hol)
  clear h hv ho hbk hb1 hoc hol
  cases hlg : largeS s with
  | true =>
    rw [hlg] at HLG
    clear hlg
    go_enter Tryz.func3, Tryz.ntmps3
    go_wp2_with fail
    rw [← hw1]
    refine HLG.out.mono ?_
    rintro e w2 ⟨rfl, hb⟩
    have HB2 := Lib.hid (HB1.out.trans (hb.mono HB1.out.size))
    clear hb HLG y0 y1 y2 y3 y4 y5 y6
    go_wp2_with fail
    refine (lives7_any _).mono ?_
    rintro e v9 ⟨rfl, hb⟩
    have HF := Lib.hid (HB2.out.trans (hb.mono HB2.out.size))
    clear hb
    go_wp2_with fail
    go_ret
    exact ⟨rfl, HF.out⟩
  | false =>
    rw [hlg] at HLG
    have HSM := Lib.hid (small_all HL.out hlg)
    obtain ⟨l1, l2, l3⟩ := largeS_small hlg
    have HSR : Hid (SmallR s) := Lib.hid ⟨by omega, fun o ho => by have := (l3 o ho).1; omega⟩
    have HD := Lib.hid l3
    clear hlg l2 l3
    go_enter Tryz.func3, Tryz.ntmps3
    go_wp2_with fail
    rw [← hw1]
    refine HLG.out.mono ?_
    rintro e w2 ⟨rfl, hb⟩
    have HB2 := Lib.hid (HB1.out.trans (hb.mono HB1.out.size))
    have HX2 := Lib.hid (boxs_of HBK.out hb (boxs_lt HBK.out))
    clear hb HLG HBK HB1 hw1 y0 y1 y2 y3 y4 y5 y6
    go_wp2_with fail
    go_loopw [3, 4] (fun a i wr => ∃ k : Nat, i = .int .i64 k ∧ k ≤ s.ops.length ∧ a = .bool ((s.ops.take k).all mayO) ∧ Hid (Below w.heap.size w wr) ∧ Hid (SBox wr w.heap.size s DA dc DA' dc' OA oc)) (fun _ i _ => s.ops.length - (intOf i).toNat)
    case atStart => exact ⟨0, rfl, by omega, rfl, HB2, HX2⟩
    case round =>
      clear HB2 HX2
      obtain ⟨k, rfl, hk, rfl, HB, HX⟩ := hrel
      have y6 := Go.Joins.cell_of_block HX.out 6
      obtain ⟨n, hn⟩ : ∃ n, n = s.ops.length := ⟨_, rfl⟩
      have HN := Lib.hid hn
      have y6' : wr.cell? ⟨w.heap.size, 6, none⟩ = some (.slice OA n oc) := by rw [hn]; exact y6
      clear y6
      by_cases hlt : k < s.ops.length
      · have d1 : k < n := by omega
        obtain ⟨p, off, rfl, hpS, c0, c1, c2, c3, c4, c5, c6, c7, hop, x0, x1, x2, x3, x4, x5, x6, x7⟩ := (HO.out.below' HS.out HB.out).cells k hlt
        have HM1 := Lib.hid (rmay7_any (fun b => b < w.heap.size) s.ops[k] _ wr (fun b hb => Nat.lt_of_lt_of_le hb HB.out.size) hop (by have := (HD.out _ (List.getElem_mem hlt)).1; omega))
        have HM2 : Hid (∀ W, Below wr.heap.size wr W → Calls Tryz.prog 9 #[.agg #[c0, c1, c2, c3, c4, c5, c6, c7]] W fun e w' => e = .returned (.bool (mayO s.ops[k])) ∧ Below W.heap.size W w') := Lib.hid fun W hW => spmay_any (fun b => b < w.heap.size) s.ops[k] _ W (fun b hb => Nat.lt_of_lt_of_le hb (Nat.le_trans HB.out.size hW.size)) (hop.below (fun b hb => Nat.lt_of_lt_of_le hb HB.out.size) hW) (by have := (HD.out _ (List.getElem_mem hlt)).1; omega)
        have hpl : p < wr.heap.size := Nat.lt_of_lt_of_le hpS HB.out.size
        obtain ⟨PA, pc, a, b, c, d, e, TA, tc, he, hv, -⟩ := hop
        obtain ⟨VA, vc, VA', vc', hvs, -⟩ := hv.shape
        simp only [Value.agg.injEq, Array.mk.injEq, List.cons.injEq, and_true] at he hvs
        obtain ⟨rfl, rfl, rfl, rfl, rfl, rfl, rfl, rfl⟩ := he
        obtain ⟨rfl, rfl, rfl, rfl, rfl⟩ := hvs
        clear hv hpS
        have HAT := Lib.hid (all_take hlt)
        obtain ⟨m, hm⟩ : ∃ m, m = mayO s.ops[k] := ⟨_, rfl⟩
        obtain ⟨A, hA⟩ : ∃ A, A = (s.ops.take k).all mayO := ⟨_, rfl⟩
        rw [← hm] at HM1 HM2 HAT
        rw [← hA] at HAT ⊢
        have hmm : (m != m) = false := by simp
        have HP := Lib.hid (And.intro hpl (And.intro x0 (And.intro x1 (And.intro x2 (And.intro x3 (And.intro x4 (And.intro x5 (And.intro x6 x7))))))))
        clear hm hA hpl hn
        go_wp2_with fail
        refine HM1.out.mono ?_
        rintro e w3 ⟨rfl, hb⟩
        have HM3 := Lib.hid (HM2.out w3 hb)
        have HX3 := Lib.hid (boxs_of HX.out hb (boxs_lt HX.out))
        have HB3 := Lib.hid (HB.out.trans (hb.mono HB.out.size))
        have hp3 := hb.block p HP.out.1
        have u6 : w3.cell? ⟨w.heap.size, 6, none⟩ = some (.slice (some ⟨p, off, none⟩) n oc) := (World.cell?_of_block (a := ⟨w.heap.size, 6, none⟩) (hb.block _ (boxs_lt HX.out))).trans y6'
        have z0 := (World.cell?_of_block (a := ⟨p, off + k * 8, none⟩) hp3).trans HP.out.2.1
        have z1 := (World.cell?_of_block (a := ⟨p, off + k * 8 + 1, none⟩) hp3).trans HP.out.2.2.1
        have z2 := (World.cell?_of_block (a := ⟨p, off + k * 8 + 2, none⟩) hp3).trans HP.out.2.2.2.1
        have z3 := (World.cell?_of_block (a := ⟨p, off + k * 8 + 3, none⟩) hp3).trans HP.out.2.2.2.2.1
        have z4 := (World.cell?_of_block (a := ⟨p, off + k * 8 + 4, none⟩) hp3).trans HP.out.2.2.2.2.2.1
        have z5 := (World.cell?_of_block (a := ⟨p, off + k * 8 + 5, none⟩) hp3).trans HP.out.2.2.2.2.2.2.1
        have z6 := (World.cell?_of_block (a := ⟨p, off + k * 8 + 6, none⟩) hp3).trans HP.out.2.2.2.2.2.2.2.1
        have z7 := (World.cell?_of_block (a := ⟨p, off + k * 8 + 7, none⟩) hp3).trans HP.out.2.2.2.2.2.2.2.2
        clear hb hp3 x0 x1 x2 x3 x4 x5 x6 x7 y6' HP HM1 HM2 HX HB
        go_wp2_with fail
        refine HM3.out.mono ?_
        rintro e w4 ⟨rfl, hb⟩
        have HX4 := Lib.hid (boxs_of HX3.out hb (boxs_lt HX3.out))
        have HB4 := Lib.hid (HB3.out.trans (hb.mono HB3.out.size))
        clear hb u6 z0 z1 z2 z3 z4 z5 z6 z7 HM3 HX3 HB3
        cases A <;> cases m
        all_goals
          go_wp2_with fail
          go_roundw
          case rel => exact ⟨k + 1, by go_num, by omega, by rw [HAT.out]; rfl, HB4, HX4⟩
          case measure => simp [intOf]; omega
      · have hke : k = s.ops.length := by omega
        subst hn
        clear HN
        rw [hke, List.take_length]
        have HPL := Lib.hid (spplaces_any (fun b => b < w.heap.size) s _ wr (fun b hb => Nat.lt_of_lt_of_le hb HB.out.size) (HL.out.below HS.out HB.out) HSM.out.1 (by omega))
        have u0 := Go.Joins.cell_of_block HX.out 0
        have u1 := Go.Joins.cell_of_block HX.out 1
        have u2 := Go.Joins.cell_of_block HX.out 2
        have u3 := Go.Joins.cell_of_block HX.out 3
        have u4 := Go.Joins.cell_of_block HX.out 4
        have u5 := Go.Joins.cell_of_block HX.out 5
        cases hall : s.ops.all mayO with
        | false =>
          rw [if_neg (by rw [hall]; decide)] at HPL
          clear hke hall
          go_wp2_with fail
          refine HPL.out.mono ?_
          rintro e w4 ⟨A, c, rfl, -, hb⟩
          have HX4 := Lib.hid (boxs_of HX.out hb (boxs_lt HX.out))
          have HB4 := Lib.hid (HB.out.trans (hb.mono HB.out.size))
          clear hb HPL HX HB y6' u0 u1 u2 u3 u4 u5
          simp only [List.length_nil]
          go_wp2_with fail
          refine wp_region_mix [0, 1, 2, 3, 5, 4, 6, 7, 8, 9, 10, 11, 12, 13, 14, 15] (by kernel_rfl) (by kernel_rfl) (fun _ d _ _ _ h => by cases d <;> exact h) ?_
          simp only [atNats, List.filterMap_cons, List.filterMap_nil, List.getElem?_toArray, List.getElem?_cons_succ, List.getElem?_cons_zero]
          have HXD : Hid (SBox w4.drew w.heap.size s DA dc DA' dc' OA oc) := Lib.hid HX4.out
          have HBD : Hid (Below w.heap.size w w4.drew) := Lib.hid HB4.out.drew
          first | refine mix_call rfl (fun K hK => ?_) | refine mix_callB rfl (fun K hK => ?_)
          go_simp
          refine (lives7_any _).mono ?_
          rintro e wa ⟨rfl, hb⟩
          refine hK _ _ hb ?_
          clear hK K
          try simp only [Act.put]
          have HXa := Lib.hid (boxs_of HXD.out hb (boxs_lt HXD.out))
          have HBa := Lib.hid (HBD.out.trans (hb.mono HBD.out.size))
          clear hb HXD HBD
          have z0 := cell_later (B := wa.heap.size) (w := wa) (show wa.cell? ⟨w.heap.size, 0, none⟩ = _ from Go.Joins.cell_of_block HXa.out 0) (boxs_lt HXa.out)
          have z1 := cell_later (B := wa.heap.size) (w := wa) (show wa.cell? ⟨w.heap.size, 1, none⟩ = _ from Go.Joins.cell_of_block HXa.out 1) (boxs_lt HXa.out)
          have z2 := cell_later (B := wa.heap.size) (w := wa) (show wa.cell? ⟨w.heap.size, 2, none⟩ = _ from Go.Joins.cell_of_block HXa.out 2) (boxs_lt HXa.out)
          have z3 := cell_later (B := wa.heap.size) (w := wa) (show wa.cell? ⟨w.heap.size, 3, none⟩ = _ from Go.Joins.cell_of_block HXa.out 3) (boxs_lt HXa.out)
          have z4 := cell_later (B := wa.heap.size) (w := wa) (show wa.cell? ⟨w.heap.size, 4, none⟩ = _ from Go.Joins.cell_of_block HXa.out 4) (boxs_lt HXa.out)
          have z5 := cell_later (B := wa.heap.size) (w := wa) (show wa.cell? ⟨w.heap.size, 5, none⟩ = _ from Go.Joins.cell_of_block HXa.out 5) (boxs_lt HXa.out)
          have z6 := cell_later (B := wa.heap.size) (w := wa) (show wa.cell? ⟨w.heap.size, 6, none⟩ = _ from Go.Joins.cell_of_block HXa.out 6) (boxs_lt HXa.out)
          first | refine mix_pure ?_ | refine mix_pureB ?_
          simp only [List.takeWhile, List.dropWhile, isPure, Nat.reduceBNe]
          repeat (go_big_quiet_step (fail))
          refine wpQuiet_nil ?_
          clear z0 z1 z2 z3 z4 z5 z6
          first | refine mix_call rfl (fun K hK => ?_) | refine mix_callB rfl (fun K hK => ?_)
          go_simp
          refine (spcheck_any _ s _ wa (fun b hb => Nat.lt_of_lt_of_le (HS.out b hb) HBa.out.size) (HL.out.below HS.out HBa.out) HSM.out.1).mono ?_
          rintro e wb ⟨rfl, hb⟩
          refine hK _ _ hb ?_
          clear hK K
          try simp only [Act.put]
          have HXb := Lib.hid (boxs_of HXa.out hb (boxs_lt HXa.out))
          have HBb := Lib.hid (HBa.out.trans (hb.mono HBa.out.size))
          clear hb
          have z0 := cell_later (B := wb.heap.size) (w := wb) (show wb.cell? ⟨w.heap.size, 0, none⟩ = _ from Go.Joins.cell_of_block HXb.out 0) (boxs_lt HXb.out)
          have z1 := cell_later (B := wb.heap.size) (w := wb) (show wb.cell? ⟨w.heap.size, 1, none⟩ = _ from Go.Joins.cell_of_block HXb.out 1) (boxs_lt HXb.out)
          have z2 := cell_later (B := wb.heap.size) (w := wb) (show wb.cell? ⟨w.heap.size, 2, none⟩ = _ from Go.Joins.cell_of_block HXb.out 2) (boxs_lt HXb.out)
          have z3 := cell_later (B := wb.heap.size) (w := wb) (show wb.cell? ⟨w.heap.size, 3, none⟩ = _ from Go.Joins.cell_of_block HXb.out 3) (boxs_lt HXb.out)
          have z4 := cell_later (B := wb.heap.size) (w := wb) (show wb.cell? ⟨w.heap.size, 4, none⟩ = _ from Go.Joins.cell_of_block HXb.out 4) (boxs_lt HXb.out)
          have z5 := cell_later (B := wb.heap.size) (w := wb) (show wb.cell? ⟨w.heap.size, 5, none⟩ = _ from Go.Joins.cell_of_block HXb.out 5) (boxs_lt HXb.out)
          have z6 := cell_later (B := wb.heap.size) (w := wb) (show wb.cell? ⟨w.heap.size, 6, none⟩ = _ from Go.Joins.cell_of_block HXb.out 6) (boxs_lt HXb.out)
          clear z0 z1 z2 z3 z4 z5 z6
          first | refine mix_call rfl (fun K hK => ?_) | refine mix_callB rfl (fun K hK => ?_)
          go_simp
          refine (rspcheck_any _ s _ wb (fun b hb => Nat.lt_of_lt_of_le (HS.out b hb) HBb.out.size) (HL.out.below HS.out HBb.out) HSR.out).mono ?_
          rintro e wc ⟨rfl, hb⟩
          refine hK _ _ hb ?_
          clear hK K
          try simp only [Act.put]
          have HXc := Lib.hid (boxs_of HXb.out hb (boxs_lt HXb.out))
          have HBc := Lib.hid (HBb.out.trans (hb.mono HBb.out.size))
          clear hb HXa HBa HXb HBb
          obtain ⟨x, hx⟩ : ∃ x, x = checkS s := ⟨_, rfl⟩
          rw [← hx]
          have hxx : (x != x) = false := by simp
          clear hx
          first | refine mix_pure ?_ | refine mix_pureB ?_
          simp only [List.takeWhile, List.dropWhile, isPure, Nat.reduceBNe]
          repeat (go_big_quiet_step (fail))
          refine wpQuiet_nil ?_
          unfold wpMix
          go_wp2_with fail
          go_loopw [8] (fun i wr => i = .int .i64 0 ∧ wr = wc) (fun i _ => 0)
          case atStart => exact ⟨rfl, rfl⟩
          case round =>
            obtain ⟨rfl, rfl⟩ := hrel
            go_wp2_with fail
            go_ret
            exact ⟨rfl, HBc.out⟩
        | true =>
          rw [if_pos (by rw [hall])] at HPL
          clear hke hall
          go_wp2_with fail
          refine HPL.out.mono ?_
          rintro e w4 ⟨A, c, rfl, hpl4, hb⟩
          have HX4 := Lib.hid (boxs_of HX.out hb (boxs_lt HX.out))
          have HB4 := Lib.hid (HB.out.trans (hb.mono HB.out.size))
          have HPL4 := Lib.hid hpl4
          have HRP := Lib.hid (rplaces_any (fun b => b < w.heap.size) s _ w4 (fun b hb => Nat.lt_of_lt_of_le hb HB4.out.size) (HL.out.below HS.out HB4.out) (by omega))
          clear hb hpl4 HPL HX HB y6' u0 u1 u2 u3 u4 u5
          have u0 := Go.Joins.cell_of_block HX4.out 0
          have u1 := Go.Joins.cell_of_block HX4.out 1
          have u2 := Go.Joins.cell_of_block HX4.out 2
          have u3 := Go.Joins.cell_of_block HX4.out 3
          have u4 := Go.Joins.cell_of_block HX4.out 4
          have u5 := Go.Joins.cell_of_block HX4.out 5
          have u6 := Go.Joins.cell_of_block HX4.out 6
          obtain ⟨ps, hps⟩ : ∃ ps, ps = placesL s.ops := ⟨_, rfl⟩
          have hpn : ps.length ≤ 200 := by
            have h9 : ∀ l : List OpT, (placesL l).length ≤ 2 * l.length := fun l => by
              induction l with
              | nil => simp [placesL]
              | cons o r ih =>
                have h8 : (placesO o).length ≤ 2 := by unfold placesO; split <;> simp
                unfold placesL at ih ⊢
                rw [List.flatMap_cons, List.length_append, List.length_cons]
                omega
            have := h9 s.ops
            rw [hps]; omega
          rw [← hps] at HPL4 HRP ⊢
          clear hps
          go_wp2_with fail
          refine HRP.out.mono ?_
          rintro e w5 ⟨A', c', rfl, hpr, hb⟩
          have HX5 := Lib.hid (boxs_of HX4.out hb (boxs_lt HX4.out))
          have HB5 := Lib.hid (HB4.out.trans (hb.mono HB4.out.size))
          have HPA5 := Lib.hid (HPL4.out.below (fun b hb => hb) hb)
          have HPB5 := Lib.hid hpr.at
          have hq5 := hb.size
          clear hb hpr HRP HX4 HB4 HPL4 u0 u1 u2 u3 u4 u5 u6
          obtain ⟨n', hn'⟩ : ∃ n, n = ps.length := ⟨_, rfl⟩
          have HNP := Lib.hid hn'
          rw [← hn'] at hpn ⊢
          clear hn'
          have hnn : ((n' : Int) != (n' : Int)) = false := by simp
          go_wp2_with fail
          refine wp_region_mix [0, 1, 2, 3, 5, 4, 6, 7, 8, 9, 10, 11, 12, 13, 14, 15] (by kernel_rfl) (by kernel_rfl) (fun _ d _ _ _ h => by cases d <;> exact h) ?_
          simp only [atNats, List.filterMap_cons, List.filterMap_nil, List.getElem?_toArray, List.getElem?_cons_succ, List.getElem?_cons_zero]
          have HXD : Hid (SBox w5.drew w.heap.size s DA dc DA' dc' OA oc) := Lib.hid HX5.out
          have HBD : Hid (Below w.heap.size w w5.drew) := Lib.hid HB5.out.drew
          first | refine mix_call rfl (fun K hK => ?_) | refine mix_callB rfl (fun K hK => ?_)
          go_simp
          refine (lives7_any _).mono ?_
          rintro e wa ⟨rfl, hb⟩
          refine hK _ _ hb ?_
          clear hK K
          try simp only [Act.put]
          have HXa := Lib.hid (boxs_of HXD.out hb (boxs_lt HXD.out))
          have HBa := Lib.hid (HBD.out.trans (hb.mono HBD.out.size))
          have HPAa := Lib.hid ((show PlsAt w5.drew (fun b => b < w4.heap.size) A ps from HPA5.out).below (fun b hb => Nat.lt_of_lt_of_le hb hq5) hb)
          have HPBa := Lib.hid ((show PlsAt w5.drew (fun b => b < w.heap.size) A' ps from HPB5.out).below (fun b hb => Nat.lt_of_lt_of_le hb HB5.out.size) hb)
          have hqa : w4.heap.size ≤ wa.heap.size := Nat.le_trans hq5 hb.size
          clear hb HXD HBD
          have z0 := cell_later (B := wa.heap.size) (w := wa) (show wa.cell? ⟨w.heap.size, 0, none⟩ = _ from Go.Joins.cell_of_block HXa.out 0) (boxs_lt HXa.out)
          have z1 := cell_later (B := wa.heap.size) (w := wa) (show wa.cell? ⟨w.heap.size, 1, none⟩ = _ from Go.Joins.cell_of_block HXa.out 1) (boxs_lt HXa.out)
          have z2 := cell_later (B := wa.heap.size) (w := wa) (show wa.cell? ⟨w.heap.size, 2, none⟩ = _ from Go.Joins.cell_of_block HXa.out 2) (boxs_lt HXa.out)
          have z3 := cell_later (B := wa.heap.size) (w := wa) (show wa.cell? ⟨w.heap.size, 3, none⟩ = _ from Go.Joins.cell_of_block HXa.out 3) (boxs_lt HXa.out)
          have z4 := cell_later (B := wa.heap.size) (w := wa) (show wa.cell? ⟨w.heap.size, 4, none⟩ = _ from Go.Joins.cell_of_block HXa.out 4) (boxs_lt HXa.out)
          have z5 := cell_later (B := wa.heap.size) (w := wa) (show wa.cell? ⟨w.heap.size, 5, none⟩ = _ from Go.Joins.cell_of_block HXa.out 5) (boxs_lt HXa.out)
          have z6 := cell_later (B := wa.heap.size) (w := wa) (show wa.cell? ⟨w.heap.size, 6, none⟩ = _ from Go.Joins.cell_of_block HXa.out 6) (boxs_lt HXa.out)
          first | refine mix_pure ?_ | refine mix_pureB ?_
          simp only [List.takeWhile, List.dropWhile, isPure, Nat.reduceBNe]
          repeat (go_big_quiet_step (fail))
          refine wpQuiet_nil ?_
          clear z0 z1 z2 z3 z4 z5 z6
          first | refine mix_call rfl (fun K hK => ?_) | refine mix_callB rfl (fun K hK => ?_)
          go_simp
          refine (spcheck_any _ s _ wa (fun b hb => Nat.lt_of_lt_of_le (HS.out b hb) HBa.out.size) (HL.out.below HS.out HBa.out) HSM.out.1).mono ?_
          rintro e wb ⟨rfl, hb⟩
          refine hK _ _ hb ?_
          clear hK K
          try simp only [Act.put]
          have HXb := Lib.hid (boxs_of HXa.out hb (boxs_lt HXa.out))
          have HBb := Lib.hid (HBa.out.trans (hb.mono HBa.out.size))
          have HPAb := Lib.hid (HPAa.out.below (fun b hb => Nat.lt_of_lt_of_le hb hqa) hb)
          have HPBb := Lib.hid (HPBa.out.below (fun b hb => Nat.lt_of_lt_of_le hb HBa.out.size) hb)
          have hqb : w4.heap.size ≤ wb.heap.size := Nat.le_trans hqa hb.size
          clear hb
          have z0 := cell_later (B := wb.heap.size) (w := wb) (show wb.cell? ⟨w.heap.size, 0, none⟩ = _ from Go.Joins.cell_of_block HXb.out 0) (boxs_lt HXb.out)
          have z1 := cell_later (B := wb.heap.size) (w := wb) (show wb.cell? ⟨w.heap.size, 1, none⟩ = _ from Go.Joins.cell_of_block HXb.out 1) (boxs_lt HXb.out)
          have z2 := cell_later (B := wb.heap.size) (w := wb) (show wb.cell? ⟨w.heap.size, 2, none⟩ = _ from Go.Joins.cell_of_block HXb.out 2) (boxs_lt HXb.out)
          have z3 := cell_later (B := wb.heap.size) (w := wb) (show wb.cell? ⟨w.heap.size, 3, none⟩ = _ from Go.Joins.cell_of_block HXb.out 3) (boxs_lt HXb.out)
          have z4 := cell_later (B := wb.heap.size) (w := wb) (show wb.cell? ⟨w.heap.size, 4, none⟩ = _ from Go.Joins.cell_of_block HXb.out 4) (boxs_lt HXb.out)
          have z5 := cell_later (B := wb.heap.size) (w := wb) (show wb.cell? ⟨w.heap.size, 5, none⟩ = _ from Go.Joins.cell_of_block HXb.out 5) (boxs_lt HXb.out)
          have z6 := cell_later (B := wb.heap.size) (w := wb) (show wb.cell? ⟨w.heap.size, 6, none⟩ = _ from Go.Joins.cell_of_block HXb.out 6) (boxs_lt HXb.out)
          clear z0 z1 z2 z3 z4 z5 z6
          first | refine mix_call rfl (fun K hK => ?_) | refine mix_callB rfl (fun K hK => ?_)
          go_simp
          refine (rspcheck_any _ s _ wb (fun b hb => Nat.lt_of_lt_of_le (HS.out b hb) HBb.out.size) (HL.out.below HS.out HBb.out) HSR.out).mono ?_
          rintro e wc ⟨rfl, hb⟩
          refine hK _ _ hb ?_
          clear hK K
          try simp only [Act.put]
          have HXc := Lib.hid (boxs_of HXb.out hb (boxs_lt HXb.out))
          have HBc := Lib.hid (HBb.out.trans (hb.mono HBb.out.size))
          have HPAc := Lib.hid (HPAb.out.below (fun b hb => Nat.lt_of_lt_of_le hb hqb) hb)
          have HPBc := Lib.hid (HPBb.out.below (fun b hb => Nat.lt_of_lt_of_le hb HBb.out.size) hb)
          have hqc : w4.heap.size ≤ wc.heap.size := Nat.le_trans hqb hb.size
          clear hb HXa HBa HXb HBb
          obtain ⟨x, hx⟩ : ∃ x, x = checkS s := ⟨_, rfl⟩
          rw [← hx]
          have hxx : (x != x) = false := by simp
          clear hx
          first | refine mix_pure ?_ | refine mix_pureB ?_
          simp only [List.takeWhile, List.dropWhile, isPure, Nat.reduceBNe]
          repeat (go_big_quiet_step (fail))
          refine wpQuiet_nil ?_
          unfold wpMix
          clear HPAa HPBa HPAb HPBb hqa hqb hq5 HPA5 HPB5 HX5 HB5
          go_wp2_with fail
          go_loopw [8] (fun i wr => ∃ k : Nat, i = .int .i64 k ∧ k ≤ n' ∧ Hid (Below wc.heap.size wc wr)) (fun i _ => n' - (intOf i).toNat)
          case atStart => exact ⟨0, rfl, by omega, Lib.hid (Below.refl _ _)⟩
          case round =>
            obtain ⟨k, rfl, hk, HR⟩ := hrel
            by_cases hlt : k < n'
            · obtain ⟨pb, po, rfl, hpb, hpc⟩ := (HPAc.out.below (fun b hb => Nat.lt_of_lt_of_le hb hqc) HR.out) (by have := HNP.out; omega)
              obtain ⟨qb, qo, rfl, hqb, hqd⟩ := (HPBc.out.below (fun b hb => Nat.lt_of_lt_of_le hb HBc.out.size) HR.out) (by have := HNP.out; omega)
              obtain ⟨va, e1, PA, pc, rfl, hst1, hc1, hn1⟩ := hpc k (by have := HNP.out; omega)
              obtain ⟨vb, e2, QA, qc, rfl, hst2, hc2, hn2⟩ := hqd k (by have := HNP.out; omega)
              obtain ⟨q, hq⟩ : ∃ q, q = ps[k]'(by have := HNP.out; omega) := ⟨_, rfl⟩
              rw [← hq] at e1 e2 hst1 hst2 hn1 hn2
              have HSA : Hid (∀ W, Below wr.heap.size wr W → Calls Tryz.prog 14 #[.slice PA q.length pc, .slice QA q.length qc] W fun e w' => e = .returned (.bool true) ∧ Below W.heap.size W w') := Lib.hid fun W hW => by
                have h := rpsame_any PA QA pc qc q q W (fun b => b < w4.heap.size) (fun b => b < w.heap.size) (hst1.keep fun b hb => hW.block b (Nat.lt_of_lt_of_le hb (Nat.le_trans hqc HR.out.size))) (hst2.keep fun b hb => hW.block b (Nat.lt_of_lt_of_le hb (Nat.le_trans HBc.out.size HR.out.size))) (fun b hb => Nat.lt_of_lt_of_le hb (Nat.le_trans (Nat.le_trans hqc HR.out.size) hW.size)) (fun b hb => Nat.lt_of_lt_of_le hb (Nat.le_trans (Nat.le_trans HBc.out.size HR.out.size) hW.size)) (by omega) (by omega)
                rw [decide_eq_true rfl] at h
                exact h
              obtain ⟨ql, hql⟩ : ∃ l, l = q.length := ⟨_, rfl⟩
              rw [← hql] at e1 e2 HSA
              clear hpc hqd hst1 hst2 hc1 hc2 hn1 hn2 hq hql
              go_wp2_with fail
              refine wp_region_mix [0, 1, 2, 3, 4, 5, 6, 7, 8, 9] (by kernel_rfl) (by kernel_rfl) (fun _ d _ _ _ h => by cases d <;> exact h) ?_
              simp only [atNats, List.filterMap_cons, List.filterMap_nil, List.getElem?_toArray, List.getElem?_cons_succ, List.getElem?_cons_zero]
              have z1 := cell_later (B := wr.heap.size) (w := wr.drew) e1 hpb
              have z2 := cell_later (B := wr.heap.size) (w := wr.drew) e2 hqb
              first | refine mix_pure ?_ | refine mix_pureB ?_
              simp only [List.takeWhile, List.dropWhile, isPure, Nat.reduceBNe]
              repeat (go_big_quiet_step (fail))
              refine wpQuiet_nil ?_
              clear z1 z2
              first | refine mix_call rfl (fun K hK => ?_) | refine mix_callB rfl (fun K hK => ?_)
              go_simp
              refine (HSA.out _ (Below.refl wr.heap.size wr).drew).mono ?_
              rintro e wd ⟨rfl, hb⟩
              refine hK _ _ hb ?_
              clear hK K
              try simp only [Act.put]
              have HRD := Lib.hid (HR.out.trans ((show Below wr.heap.size wr wd from ⟨hb.os, hb.tape, hb.output, hb.size, hb.block⟩).mono HR.out.size))
              clear hb
              first | refine mix_pure ?_ | refine mix_pureB ?_
              simp only [List.takeWhile, List.dropWhile, isPure, Nat.reduceBNe]
              repeat (go_big_quiet_step (fail))
              refine wpQuiet_nil ?_
              unfold wpMix
              go_wp2_with fail
              go_roundw
              case rel => exact ⟨k + 1, by go_num, by omega, HRD⟩
              case measure => simp [intOf]; omega
            · go_wp2_with fail
              go_ret
              exact ⟨rfl, HBc.out.trans (HR.out.mono HBc.out.size)⟩

set_option maxRecDepth 100000 in
theorem lifted (os : Os) (started : os.Started) (H : Type) (enc : TypeId × Value → H) :
    ReturnsInHanded {} Tryz.checked os 3 .any (Rows.specChecksSpec.pre6 enc Tryz.prog Tryz.f3 Rows.specChecksRow.domain false) (Rows.specChecksSpec.post enc Tryz.prog Tryz.f3 false true false false) := by
  refine returnsInHanded_of_change_sized (C := Tryz.checked) own started (by kernel_rfl) Tryz.func3
    (ChangeSpec.witness6 (enc := enc) (C := Tryz.checked) false ⟨#[], #[.agg #[.bool false, .int .i64 0, .int .i64 0, .string ByteArray.empty, .slice none 0 0, .slice none 0 0, .slice none 0 0]], []⟩ 8 (by kernel_rfl) (by kernel_rfl) (by kernel_rfl) (by kernel_rfl)) ?_
  intro W base args ds gs before hval0 hW hcnd hsz0 _
  have hval : ∀ (j : Nat) t v, Tryz.f3.params[j]? = some t → args[j]? = some v → Value.okWide Tryz.prog W .any base t v := hval0
  have hsz : (DataW.weightsEach Tryz.prog (Tryz.f3.params.toList ++ Rows.specChecksSpec.plain.varTypes Tryz.prog) (ds ++ gs)).all (· ≤ reachBytes) = true := hsz0
  have hW' := hW
  obtain ⟨p, q, hA0, hV, rfl, hfz, hnd⟩ := hW
  have hA : DataW.TrodAll enc Tryz.prog W 0 (fun _ => true) true Tryz.f3.params.toList args.toList ds p := hA0
  rw [Tryz.params3] at hA hval hsz
  obtain ⟨v0, d0, rfl, rfl, h0⟩ := trodAll_one hA
  obtain ⟨rfl, rfl⟩ := trodVars_none hV
  obtain ⟨a0, rfl, -⟩ := okWide_struct Tryz.underlying28 (hval 0 28 v0 rfl rfl)
  have k0 := h0
  have lt0 : ∀ x ∈ p, x.block < W.heap.size := by obtain ⟨m, hm⟩ := k0; exact DataW.trod_lt m _ _ _ hm
  have wt0 : ∀ n ∈ d0.weights Tryz.prog 28, n ≤ reachBytes := fun n hn => by have := List.all_eq_true.1 hsz n (DataW.weights_mem_each (j := 0) rfl rfl n hn); simpa using this
  clear hA0 hval0
  obtain ⟨sp0, hsp0⟩ : ∃ s : SpecT, SpecL W (fun b => b < W.heap.size) s a0 := by
    obtain ⟨m, hm⟩ := k0
    obtain ⟨s, h3⟩ := open_spec hm wt0
    exact ⟨s, by simpa [Value.cells] using h3⟩
  refine (walk sp0 _ W hsp0).mono fun e W' ⟨he, bel⟩ => ?_
  subst he
  exact ⟨_, rfl, _, _, _, [], _, [], hW', trodAll_mk1 (shut_bool Tryz.underlying4 _), trodAll_mk1 (Below.trod laidOut (by kernel_rfl) (of_decide_eq_true (by kernel_rfl)) k0 bel lt0), rfl, bel.frame _, fun h => by cases h⟩

/-- The statement. -/
theorem proved : Rows.SpecChecksSaid :=
  OpenClaim.holds_of_wide 3 Tryz.f3 rfl rfl rfl rfl rfl rfl rfl ⟨rfl, rfl, rfl, rfl, rfl⟩ rfl rfl rfl rfl rfl (by kernel_rfl) Tryz.func3 (by kernel_rfl)
    (of_decide_eq_true (by kernel_rfl)) (by unfold Func.isWrapper; first | (rw [if_pos (by decide +kernel)]; kernel_rfl) | (rw [if_neg (by decide +kernel)]; exact ⟨rfl, rfl⟩))
    (fun os started H enc _ => lifted os started H enc)

end Go.Proofs.YtipiplnhbecjeaaGreat.SChecks
