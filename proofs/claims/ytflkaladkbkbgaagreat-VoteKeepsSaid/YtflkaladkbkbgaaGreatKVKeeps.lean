/- Behind a crash, whatever it keeps, what counts is what was noted last, or what was in the middle of being noted. No conditions. -/
import Derived.Test.YtflkaladkbkbgaaGreatKVoT
import Derived.Test.YtflkaladkbkbgaaGreatKOpenB
import Derived.Test.YtflkaladkbkbgaaGreatKFlT
import Derived.SizedLaws
import Derived.ProofKit
import Derived.OpenShut
import Derived.ShutString
import Derived.ChangeOld
import Derived.Below
namespace Go.Proofs.YtflkaladkbkbgaaGreat.VKeeps
set_option linter.unusedVariables false
set_option linter.unusedSimpArgs false
open Go.ChangeShapes Go.WideShapes Go.ChangeAt Go.RowKit Go.Joins OpenB
set_option linter.unusedVariables false

theorem own : ownKnob Tryz.prog.godebug = none := by kernel_rfl
theorem laidOut : laidOutB Tryz.prog = true := by kernel_rfl

set_option maxHeartbeats 16000000 in
set_option maxRecDepth 100000 in
theorem walk (A : Option Addr) (c : Nat) (os : List OpW) (sn st : Int) (A2 : Option Addr) (c2 : Nat) (ks : List (ByteArray × Int)) (w : World) (hos : OpsWAt w A os) (hsn : -9223372036854775808 ≤ sn ∧ sn ≤ 9223372036854775807) (hst : -9223372036854775808 ≤ st ∧ st ≤ 9223372036854775807) (hks : KeepsAt w (fun b => b < w.heap.size) A2 ks) (hkl : ks.length ≤ 5864062014805) :
    Calls Tryz.prog 3 #[.slice A os.length c, .int .i64 sn, .int .i64 st, .slice A2 ks.length c2] w fun e w' => e = .returned (.bool true) ∧ Below w.heap.size w w' := by
  have HOS := Lib.hid hos
  have HKS := Lib.hid hks
  have HSN := Lib.hid (And.intro hsn hst)
  clear hos hks hsn hst
  go_enter Tryz.func3, Tryz.ntmps3
  go_wp2_with fail
  refine (new_any w).mono ?_
  rintro e w1 ⟨d, Ft, rfl, hd1, hb1, hF⟩
  go_wp2_with fail
  refine (open_none hd1 mV0 mR0).mono ?_
  rintro e w1' ⟨v, Ft2, rfl, hv2, hvs, hn2, hg2, hd2⟩
  have L1 : LiveV w w1' d .new v 0 (-1) := ⟨Ft2, hd2, hg2.base hb1.size hF, hb1.trans (hg2.below hb1.size hF), hv2, hn2, Nat.le_trans hb1.size hvs⟩
  clear hd1 hb1 hF hv2 hvs hn2 hg2 hd2
  go_wp2_with fail
  refine (lives12_any _).mono ?_
  rintro e w2 ⟨rfl, hb2⟩
  obtain ⟨L2⟩ := L1.stay hb2
  clear hb2 L1
  by_cases h100 : 100 < os.length
  · have d1 : decide ((100 : Int) < (os.length : Int)) = true := decide_eq_true (by omega)
    have HB2 := Lib.hid L2.below
    clear L2
    go_wp2_with fail
    refine (lives12_any _).mono ?_
    rintro e w3 ⟨rfl, hb3⟩
    have HB3 := Lib.hid (HB2.out.trans (hb3.mono HB2.out.size))
    clear hb3
    go_wp2_with fail
    go_ret
    exact ⟨rfl, HB3.out⟩
  have d1 : decide ((100 : Int) < (os.length : Int)) = false := decide_eq_false (by omega)
  by_cases h50 : 50 < ks.length
  · have d2 : decide ((50 : Int) < (ks.length : Int)) = true := decide_eq_true (by omega)
    have HB2 := Lib.hid L2.below
    clear L2
    go_wp2_with fail
    refine (lives12_any _).mono ?_
    rintro e w3 ⟨rfl, hb3⟩
    have HB3 := Lib.hid (HB2.out.trans (hb3.mono HB2.out.size))
    clear hb3
    go_wp2_with fail
    go_ret
    exact ⟨rfl, HB3.out⟩
  have d2 : decide ((50 : Int) < (ks.length : Int)) = false := decide_eq_false (by omega)
  have HKK := Lib.hid (rKeeps9_any A2 c2 ks _ w2 (HKS.out.keep fun b hb => L2.below.block b hb) (by omega))
  cases hany : (ksOf ks).any fun k => badNm k.1
  · have HANY := Lib.hid hany
    rw [hany] at HKK
    clear hany
    go_wp2_with fail
    refine HKK.out.mono ?_
    rintro e w3 ⟨rfl, rfl⟩
    clear HKK
    go_wp2_with fail
    refine (stop_any L2.at_ sn st HSN.out.1 HSN.out.2).mono ?_
    rintro e w4 ⟨rfl, hd4, hg4⟩
    have HR4 : Hid (VoRun w d v 0 (-1) w4) := Lib.hid ⟨_, [], L2.gr hg4 hd4, stop_vote _ _ _ _ ⟨rfl, fun p hp => (by cases hp), by simp, .inl ⟨rfl, rfl⟩⟩, rfl⟩
    clear hd4 hg4 L2
    go_wp2_with fail
    go_loopw [12, 13, 14, 15, 16, 17] (fun v12 v13 v14 v15 v16 v17 wr => ∃ (k : Nat) (t n : Int), v16 = .int .i64 k ∧ k ≤ os.length ∧ v12 = .int .i64 t ∧ v13 = .int .i64 n ∧ v14 = .int .i64 t ∧ v15 = .int .i64 n ∧ Hid (VoRun w d v t n wr)) (fun _ _ _ _ v16 _ _ => os.length - (intOf v16).toNat)
    case atStart => exact ⟨0, 0, -1, rfl, Nat.zero_le _, rfl, rfl, rfl, rfl, HR4⟩
    case round =>
      obtain ⟨k, t0, n0, rfl, hk, rfl, rfl, rfl, rfl, HR⟩ := hrel
      by_cases hlt : k < os.length
      · have d3 : decide ((k : Int) < (os.length : Int)) = true := decide_eq_true (by omega)
        obtain ⟨p, off, rfl, hpl, hc⟩ := HOS.out (by omega)
        obtain ⟨hcell, hok⟩ := hc k hlt
        obtain ⟨o, ho⟩ : ∃ o, o = os[k] := ⟨_, rfl⟩
        rw [← ho] at hcell hok
        have HX : Hid (∀ W, Below w.heap.size w W → W.cell? ⟨p, off + k * 7 + 1, none⟩ = some (.int .i64 o.t) ∧ W.cell? ⟨p, off + k * 7 + 2, none⟩ = some (.int .i64 o.u)) := Lib.hid fun W hW => ⟨(World.cell?_of_block (a := ⟨p, off + k * 7 + 1, none⟩) (hW.block p hpl)).trans (hcell 1 _ rfl), (World.cell?_of_block (a := ⟨p, off + k * 7 + 2, none⟩) (hW.block p hpl)).trans (hcell 2 _ rfl)⟩
        have HPL := Lib.hid hpl
        have HBW : Hid (Below w.heap.size w wr) := Lib.hid HR.out.below
        have HS : Hid (Calls Tryz.prog 11 #[.pointer (some ⟨v, 0, none⟩), .int .i64 o.t, .int .i64 o.u] wr.drew fun e w' => ∃ r, e = .returned (.int .i64 r) ∧ SetOut w d v t0 n0 o.t o.u r w') := Lib.hid (set_all (by
          obtain ⟨M, L, ⟨hL⟩, hV, hl⟩ := HR.out
          exact ⟨M, L, hL.stay (Below.refl _ _).drew, hV, hl⟩) o.t o.u)
        obtain ⟨x1, x2⟩ := HX.out wr HBW.out
        have x1 : wr.drew.cell? ⟨p, off + k * 7 + 1, none⟩ = some (.int .i64 o.t) := x1
        have x2 : wr.drew.cell? ⟨p, off + k * 7 + 2, none⟩ = some (.int .i64 o.u) := x2
        have q1 := cell_r4 (a := p) (b := p) (c := p) (d := p) x1 (.inl rfl)
        have q2 := cell_r4 (a := p) (b := p) (c := p) (d := p) x2 (.inl rfl)
        have HBD : Hid (Below w.heap.size w wr.drew) := Lib.hid HBW.out.drew
        clear x1 x2 hcell hok ho hc hpl
        go_wp2_with fail
        refine wp_region_OT (R4 p p p p) (R4.refl _ _ _ _) (R4.trans _ _ _ _) [] (.pure [0, 1, 2, 3, 4, 5, 6, 7, 8, 9, 10] (.step 11 (.free [12] (.tail [])))) (by kernel_rfl) (by kernel_rfl) (fun _ d _ _ _ h => by cases d <;> exact h) ?_
        generalize hw4' : wr.drew = w4' at *
        refine ot_pure ?_
        simp only [atNats, List.filterMap_cons, List.filterMap_nil, List.getElem?_toArray, List.getElem?_cons_succ, List.getElem?_cons_zero]
        show wpQuiet _ _ _ _ [_, _, _, _, _, _, _, _, _, _, _] _
        try simp only [List.getElem_toArray, List.getElem_cons_succ, List.getElem_cons_zero, Act.put, List.setIfInBounds_toArray, List.set_cons_succ, List.set_cons_zero]
        repeat (go_big_quiet_step (fail))
        refine wpQuiet_nil ?_
        clear q1 q2
        refine ot_step rfl (fun K hK => ?_)
        go_simp
        refine HS.out.mono ?_
        rintro e w5 ⟨r, rfl, hso⟩
        have HB5 : Hid (Below w.heap.size w w5) := Lib.hid (by
          rcases hso with ⟨-, h⟩ | ⟨-, h⟩ | ⟨-, -, h⟩
          · exact h.below
          · exact h.below
          · exact h.below)
        refine hK _ _ (.inr fun kk hk => (HB5.out.block kk (by have := HPL.out; omega)).trans (HBD.out.block kk (by have := HPL.out; omega)).symm) ?_
        clear hK K HS
        have HSO := Lib.hid hso
        clear hso
        refine ot_free ?_
        simp only [atNats, List.filterMap_cons, List.filterMap_nil, List.getElem?_toArray, List.getElem?_cons_succ, List.getElem?_cons_zero]
        show wpQuiet _ _ _ _ [_] _
        try simp only [List.getElem_toArray, List.getElem_cons_succ, List.getElem_cons_zero, Act.put, List.setIfInBounds_toArray, List.set_cons_succ, List.set_cons_zero]
        repeat (go_big_quiet_step (fail))
        refine wpQuiet_nil ?_
        refine ot_end ?_
        rcases HSO.out with ⟨hr, hrun⟩ | ⟨hr, hend⟩ | ⟨hr0, hr9, hrun⟩
        · subst hr
          have HRN := Lib.hid hrun
          clear hrun HSO HR
          obtain ⟨x1, x2⟩ := HX.out w5 HB5.out
          have x1 : w5.drew.cell? ⟨p, off + k * 7 + 1, none⟩ = some (.int .i64 o.t) := x1
          have x2 : w5.drew.cell? ⟨p, off + k * 7 + 2, none⟩ = some (.int .i64 o.u) := x2
          have q1 := cell_r4 (a := p) (b := p) (c := p) (d := p) x1 (.inl rfl)
          have q2 := cell_r4 (a := p) (b := p) (c := p) (d := p) x2 (.inl rfl)
          clear x1 x2
          go_wp2_with fail
          refine wp_region_OT (R4 p p p p) (R4.refl _ _ _ _) (R4.trans _ _ _ _) [] (.pure [0, 1, 2, 3, 4, 5, 6, 7, 8, 9, 10, 11] (.tail [])) (by kernel_rfl) (by kernel_rfl) (fun _ d _ _ _ h => by cases d <;> exact h) ?_
          generalize hw6 : w5.drew = w6 at *
          refine ot_pure ?_
          simp only [atNats, List.filterMap_cons, List.filterMap_nil, List.getElem?_toArray, List.getElem?_cons_succ, List.getElem?_cons_zero]
          show wpQuiet _ _ _ _ [_, _, _, _, _, _, _, _, _, _, _, _] _
          try simp only [List.getElem_toArray, List.getElem_cons_succ, List.getElem_cons_zero, Act.put, List.setIfInBounds_toArray, List.set_cons_succ, List.set_cons_zero]
          repeat (go_big_quiet_step (fail))
          refine wpQuiet_nil ?_
          refine ot_end ?_
          clear q1 q2
          go_wp2_with fail
          have HRN6 : Hid (VoRun w d v o.t o.u w6) := Lib.hid (by
            rw [← hw6]
            obtain ⟨M, L, ⟨hL⟩, hV, hl⟩ := HRN.out
            exact ⟨M, L, hL.stay (Below.refl _ _).drew, hV, hl⟩)
          go_roundw
          case rel => exact ⟨k + 1, o.t, o.u, by go_num, by omega, rfl, rfl, rfl, rfl, HRN6⟩
          case measure => simp [intOf]; omega
        · subst hr
          have HEN := Lib.hid hend
          clear hend HSO HR
          obtain ⟨x1, x2⟩ := HX.out w5 HB5.out
          have x1 : w5.drew.cell? ⟨p, off + k * 7 + 1, none⟩ = some (.int .i64 o.t) := x1
          have x2 : w5.drew.cell? ⟨p, off + k * 7 + 2, none⟩ = some (.int .i64 o.u) := x2
          have q1 := cell_r4 (a := p) (b := p) (c := p) (d := p) x1 (.inl rfl)
          have q2 := cell_r4 (a := p) (b := p) (c := p) (d := p) x2 (.inl rfl)
          clear x1 x2
          go_wp2_with fail
          refine wp_region_OT (R4 p p p p) (R4.refl _ _ _ _) (R4.trans _ _ _ _) [] (.pure [0, 1, 2, 3, 4, 5, 6, 7, 8, 9, 10, 11] (.tail [])) (by kernel_rfl) (by kernel_rfl) (fun _ d _ _ _ h => by cases d <;> exact h) ?_
          generalize hw6 : w5.drew = w6 at *
          refine ot_pure ?_
          simp only [atNats, List.filterMap_cons, List.filterMap_nil, List.getElem?_toArray, List.getElem?_cons_succ, List.getElem?_cons_zero]
          show wpQuiet _ _ _ _ [_, _, _, _, _, _, _, _, _, _, _, _] _
          try simp only [List.getElem_toArray, List.getElem_cons_succ, List.getElem_cons_zero, Act.put, List.setIfInBounds_toArray, List.set_cons_succ, List.set_cons_zero]
          repeat (go_big_quiet_step (fail))
          refine wpQuiet_nil ?_
          refine ot_end ?_
          clear q1 q2
          have HE : Hid (VoEnd w d v t0 n0 (o.t, o.u) w6) := Lib.hid (by
            rw [← hw6]
            obtain ⟨M, L, ⟨hL⟩, hV, hl⟩ := HEN.out
            exact ⟨M, L, hL.stay (Below.refl _ _).drew, hV, hl⟩)
          clear HEN HB5 hw6
          obtain ⟨M, Ls, ⟨L⟩, hmid, hll⟩ := HE.out
          have HKS6 := Lib.hid (HKS.out.keep fun b hb => L.below.block b hb)
          have HLB := Lib.hid L.below
          have hcr := crash_any L.at_ A2 c2 ks _ HKS6.out (fun b hb => ⟨by have := HLB.out.size; omega, fun h => by have := L.base b h; omega⟩) (by omega)
          obtain ⟨h0, M3, h3, hfv⟩ := crash_vote M (ksOf ks) Ls (o.t, o.u) hmid HANY.out
          rw [hll] at hfv
          have HCR := Lib.hid hcr
          have HFV := Lib.hid (And.intro h3 hfv)
          have H0 := Lib.hid h0
          clear hcr h0 hmid hll h3 hfv HKS6 HE
          go_wp2_with fail
          refine HCR.out.mono ?_
          rintro e w7 ⟨he, Ft7, hg7, hd7⟩
          obtain ⟨L7⟩ := L.gr hg7 hd7
          have he : e = .returned (.int .i64 0) := by rw [he]; exact congrArg (fun x => Ending.returned (.int .i64 x)) H0.out
          subst he
          clear hg7 hd7
          obtain ⟨F7, hd7, hbase7, hbel7, -, -, -⟩ := L7
          have HOF := Lib.hid (open_found hd7 HFV.out.1 HFV.out.2)
          have HL7 := Lib.hid (And.intro hbel7 hbase7)
          clear hd7 hbase7 hbel7 L HCR H0
          go_wp2_with fail
          refine HOF.out.mono ?_
          rintro e w8 ⟨v8, Ft8, tn, rfl, hv8, hg8, htn⟩
          have HB8 := Lib.hid (HL7.out.1.trans (hg8.below HL7.out.1.size HL7.out.2))
          have HTN := Lib.hid htn
          have HV8 := Lib.hid hv8
          clear hg8 HOF htn hv8
          rcases HTN.out with htn | htn
          · subst htn
            have HV9 : Hid (VAt w8 v8 d t0 n0) := Lib.hid HV8.out
            clear HTN HV8
            go_wp2_with fail
            refine (term_any HV9.out).mono ?_
            rintro e w9 ⟨rfl, rfl⟩
            go_wp2_with fail
            refine (for_any HV9.out).mono ?_
            rintro e w9 ⟨rfl, rfl⟩
            go_wp2_with fail
            go_ret
            exact ⟨rfl, HB8.out⟩
          · subst htn
            have HV9 : Hid (VAt w8 v8 d o.t o.u) := Lib.hid HV8.out
            clear HTN HV8
            obtain ⟨z1, g1⟩ : ∃ z, (o.t == t0) = z := ⟨_, rfl⟩
            obtain ⟨z2, g2⟩ : ∃ z, (o.u == n0) = z := ⟨_, rfl⟩
            cases z1
            · go_wp2_with fail
              refine (term_any HV9.out).mono ?_
              rintro e w9 ⟨rfl, rfl⟩
              go_wp2_with fail
              refine (term_any HV9.out).mono ?_
              rintro e w9 ⟨rfl, rfl⟩
              go_wp2_with fail
              refine (for_any HV9.out).mono ?_
              rintro e w9 ⟨rfl, rfl⟩
              go_wp2_with fail
              go_ret
              exact ⟨rfl, HB8.out⟩
            · cases z2
              · go_wp2_with fail
                refine (term_any HV9.out).mono ?_
                rintro e w9 ⟨rfl, rfl⟩
                go_wp2_with fail
                refine (for_any HV9.out).mono ?_
                rintro e w9 ⟨rfl, rfl⟩
                go_wp2_with fail
                refine (term_any HV9.out).mono ?_
                rintro e w9 ⟨rfl, rfl⟩
                go_wp2_with fail
                refine (for_any HV9.out).mono ?_
                rintro e w9 ⟨rfl, rfl⟩
                go_wp2_with fail
                go_ret
                exact ⟨rfl, HB8.out⟩
              · go_wp2_with fail
                refine (term_any HV9.out).mono ?_
                rintro e w9 ⟨rfl, rfl⟩
                go_wp2_with fail
                refine (for_any HV9.out).mono ?_
                rintro e w9 ⟨rfl, rfl⟩
                go_wp2_with fail
                go_ret
                exact ⟨rfl, HB8.out⟩
        · have d4 : (r == 0) = false := by simpa using hr0
          have d5 : (r == 90) = false := by simpa using hr9
          have HRN := Lib.hid hrun
          clear hrun HSO HR hr0 hr9
          go_wp2_with fail
          go_roundw
          case rel => exact ⟨k + 1, t0, n0, by go_num, by omega, rfl, rfl, rfl, rfl, HRN⟩
          case measure => simp [intOf]; omega
      · obtain rfl : k = os.length := by omega
        have HE : Hid (VoEnd w d v t0 n0 (t0, n0) wr) := Lib.hid HR.out.ends
        clear HR
        obtain ⟨M, Ls, ⟨L⟩, hmid, hll⟩ := HE.out
        have HKS6 := Lib.hid (HKS.out.keep fun b hb => L.below.block b hb)
        have HLB := Lib.hid L.below
        have hcr := crash_any L.at_ A2 c2 ks _ HKS6.out (fun b hb => ⟨by have := HLB.out.size; omega, fun h => by have := L.base b h; omega⟩) (by omega)
        obtain ⟨h0, M3, h3, hfv⟩ := crash_vote M (ksOf ks) Ls (t0, n0) hmid HANY.out
        rw [hll] at hfv
        have HCR := Lib.hid hcr
        have HFV := Lib.hid (And.intro h3 hfv)
        have H0 := Lib.hid h0
        clear hcr h0 hmid hll h3 hfv HKS6 HE
        go_wp2_with fail
        refine HCR.out.mono ?_
        rintro e w7 ⟨he, Ft7, hg7, hd7⟩
        obtain ⟨L7⟩ := L.gr hg7 hd7
        have he : e = .returned (.int .i64 0) := by rw [he]; exact congrArg (fun x => Ending.returned (.int .i64 x)) H0.out
        subst he
        clear hg7 hd7
        obtain ⟨F7, hd7, hbase7, hbel7, -, -, -⟩ := L7
        have HOF := Lib.hid (open_found hd7 HFV.out.1 HFV.out.2)
        have HL7 := Lib.hid (And.intro hbel7 hbase7)
        clear hd7 hbase7 hbel7 L HCR H0
        go_wp2_with fail
        refine HOF.out.mono ?_
        rintro e w8 ⟨v8, Ft8, tn, rfl, hv8, hg8, htn⟩
        have HB8 := Lib.hid (HL7.out.1.trans (hg8.below HL7.out.1.size HL7.out.2))
        have HTN := Lib.hid htn
        have HV8 := Lib.hid hv8
        clear hg8 HOF htn hv8
        have HV9 : Hid (VAt w8 v8 d t0 n0) := Lib.hid (by
          rcases HTN.out with htn | htn
          · subst htn; exact HV8.out
          · subst htn; exact HV8.out)
        clear HTN HV8
        go_wp2_with fail
        refine (term_any HV9.out).mono ?_
        rintro e w9 ⟨rfl, rfl⟩
        go_wp2_with fail
        refine (for_any HV9.out).mono ?_
        rintro e w9 ⟨rfl, rfl⟩
        go_wp2_with fail
        go_ret
        exact ⟨rfl, HB8.out⟩
  · rw [hany] at HKK
    have HB2 := Lib.hid L2.below
    clear L2
    go_wp2_with fail
    refine HKK.out.mono ?_
    rintro e w3 ⟨rfl, rfl⟩
    clear HKK
    go_wp2_with fail
    refine (lives12_any _).mono ?_
    rintro e w4 ⟨rfl, hb3⟩
    have HB3 := Lib.hid (HB2.out.trans (hb3.mono HB2.out.size))
    clear hb3
    go_wp2_with fail
    go_ret
    exact ⟨rfl, HB3.out⟩

set_option maxRecDepth 100000 in
theorem lifted (os : Os) (started : os.Started) (H : Type) (enc : TypeId × Value → H) :
    ReturnsInHanded {} Tryz.checked os 3 .any (Rows.voteKeepsSpec.pre6 enc Tryz.prog Tryz.f3 Rows.voteKeepsRow.domain false) (Rows.voteKeepsSpec.post enc Tryz.prog Tryz.f3 false true false false) := by
  refine returnsInHanded_of_change_sized (C := Tryz.checked) own started (by kernel_rfl) Tryz.func3
    (ChangeSpec.witness6 (enc := enc) (C := Tryz.checked) false ⟨#[], #[.slice none 0 0, .int .i64 0, .int .i64 0, .slice none 0 0], []⟩ 8 (by kernel_rfl) (by kernel_rfl) (by kernel_rfl) (by kernel_rfl)) ?_
  intro W base args ds gs before hval0 hW hcnd hsz0 _
  have hval : ∀ (j : Nat) t v, Tryz.f3.params[j]? = some t → args[j]? = some v → Value.okWide Tryz.prog W .any base t v := hval0
  have hsz : (DataW.weightsEach Tryz.prog (Tryz.f3.params.toList ++ Rows.voteKeepsSpec.plain.varTypes Tryz.prog) (ds ++ gs)).all (· ≤ reachBytes) = true := hsz0
  have hW' := hW
  obtain ⟨p, q, hA0, hV, rfl, hfz, hnd⟩ := hW
  have hA : DataW.TrodAll enc Tryz.prog W 0 (fun _ => true) true Tryz.f3.params.toList args.toList ds p := hA0
  rw [Tryz.params3] at hA hval hsz
  obtain ⟨v0, vs0, d0, ds0, p0, q0, hargs, rfl, rfl, h0, r0⟩ := trodAll_cons hA
  obtain ⟨v1, vs1, d1, ds1, p1, q1, rfl, rfl, rfl, h1, r1⟩ := trodAll_cons r0
  obtain ⟨v2, vs2, d2, ds2, p2, q2, rfl, rfl, rfl, h2, r2⟩ := trodAll_cons r1
  obtain ⟨v3, vs3, d3, ds3, p3, q3, rfl, rfl, rfl, h3, r3⟩ := trodAll_cons r2
  obtain ⟨rfl, rfl, rfl⟩ := trodAll_nil r3
  obtain rfl : args = #[v0, v1, v2, v3] := by cases args; simp_all
  obtain ⟨rfl, rfl⟩ := trodVars_none hV
  obtain ⟨A0, n0, c0, rfl⟩ := okWide_slice Tryz.underlying22 (hval 0 22 v0 rfl rfl)
  have k0 := h0
  have lt0 : ∀ x ∈ p0, x.block < W.heap.size := by obtain ⟨m, hm⟩ := k0; exact DataW.trod_lt m _ _ _ hm
  have wt0 : ∀ n ∈ d0.weights Tryz.prog 22, n ≤ reachBytes := fun n hn => by have := List.all_eq_true.1 hsz n (DataW.weights_mem_each (j := 0) rfl rfl n hn); simpa using this
  obtain ⟨a1, rfl, rfl, rfl, wa1⟩ := open_int Tryz.underlying3 (hval 1 3 v1 rfl rfl) h1
  obtain ⟨a2, rfl, rfl, rfl, wa2⟩ := open_int Tryz.underlying3 (hval 2 3 v2 rfl rfl) h2
  obtain ⟨A3, n3, c3, rfl⟩ := okWide_slice Tryz.underlying23 (hval 3 23 v3 rfl rfl)
  have k3 := h3
  have lt3 : ∀ x ∈ p3, x.block < W.heap.size := by obtain ⟨m, hm⟩ := k3; exact DataW.trod_lt m _ _ _ hm
  have wt3 : ∀ n ∈ d3.weights Tryz.prog 23, n ≤ reachBytes := fun n hn => by have := List.all_eq_true.1 hsz n (DataW.weights_mem_each (j := 3) rfl rfl n hn); simpa using this
  clear hA0 hval0
  obtain ⟨os0, hn0, hos0⟩ : ∃ os : List OpW, n0 = os.length ∧ OpsWAt W A0 os := by
    obtain ⟨m, hm⟩ := k0
    obtain ⟨B, e, os, he, g1⟩ := open_ops12 hm wt0
    have he' : [Value.slice A0 n0 c0] = [Value.slice B os.length e] := he
    simp only [List.cons.injEq, Value.slice.injEq, and_true] at he'
    obtain ⟨rfl, rfl, rfl⟩ := he'
    exact ⟨os, rfl, g1⟩
  subst hn0
  have ha1 := in64_of_wf wa1
  have ha2 := in64_of_wf wa2
  obtain ⟨ks3, hn3, hl3, hks3⟩ : ∃ ls : List (ByteArray × Int), n3 = ls.length ∧ ls.length ≤ 5864062014805 ∧ KeepsAt W (fun b => b < W.heap.size) A3 ls := by
    obtain ⟨m, hm⟩ := k3
    obtain ⟨B, e, ls, he, g1, g2⟩ := open_keeps hm wt3
    have he' : [Value.slice A3 n3 c3] = [Value.slice B ls.length e] := he
    simp only [List.cons.injEq, Value.slice.injEq, and_true] at he'
    obtain ⟨rfl, rfl, rfl⟩ := he'
    exact ⟨ls, rfl, g1, g2⟩
  subst hn3
  refine (walk A0 c0 os0 a1 a2 A3 c3 ks3 W hos0 ha1 ha2 hks3 hl3).mono fun e W' ⟨he, bel⟩ => ?_
  subst he
  exact ⟨_, rfl, _, _, _, [], _, [], hW', trodAll_mk1 (shut_bool Tryz.underlying4 _), (trodAll_cons_mk (Below.trod laidOut (by kernel_rfl) (of_decide_eq_true (by kernel_rfl)) k0 bel lt0) (trodAll_cons_mk (shut_int Tryz.underlying3 wa1) (trodAll_cons_mk (shut_int Tryz.underlying3 wa2) (trodAll_cons_mk (Below.trod laidOut (by kernel_rfl) (of_decide_eq_true (by kernel_rfl)) k3 bel lt3) trodAll_mk0)))), rfl, bel.frame _, fun h => by cases h⟩

/-- The statement. -/
theorem proved : Rows.VoteKeepsSaid :=
  OpenClaim.holds_of_wide 3 Tryz.f3 rfl rfl rfl rfl rfl rfl rfl ⟨rfl, rfl, rfl, rfl, rfl⟩ rfl rfl rfl rfl rfl (by kernel_rfl) Tryz.func3 (by kernel_rfl)
    (of_decide_eq_true (by kernel_rfl)) (by unfold Func.isWrapper; first | (rw [if_pos (by decide +kernel)]; kernel_rfl) | (rw [if_neg (by decide +kernel)]; exact ⟨rfl, rfl⟩))
    (fun os started H enc _ => lifted os started H enc)

end Go.Proofs.YtflkaladkbkbgaaGreat.VKeeps
