/- What was made sure is there behind a crash, whatever is done besides. No conditions. -/
import Derived.Test.YtclgekmpldeedaaFlT
import Derived.SizedLaws
import Derived.ProofKit
import Derived.OpenShut
import Derived.ShutString
import Derived.ChangeOld
import Derived.Below
namespace Go.Proofs.Ytclgekmpldeedaa.FKeep
set_option linter.unusedVariables false
set_option linter.unusedSimpArgs false
open Go.ChangeShapes Go.WideShapes Go.ChangeAt Go.RowKit Go.Joins OpenB
set_option linter.unusedVariables false

theorem own : ownKnob Try.prog.godebug = none := by kernel_rfl
theorem laidOut : laidOutB Try.prog = true := by kernel_rfl

/-- A disk whose file begins so. -/
def Runs (W : World) (d : Nat) (lb : List UInt8) (w : World) : Prop := ∃ M, Nonempty (Live W w d M) ∧ Stays lb M
theorem Runs.below {W : World} {d : Nat} {lb : List UInt8} {w : World} (h : Runs W d lb w) : Below W.heap.size W w := by
  obtain ⟨M, ⟨L⟩, -⟩ := h
  exact L.below
theorem first_app (b : List UInt8) (hb : b.length ≤ 2000) : (DiskM.new.app [102] b).1 = 0 ∧ (DiskM.new.app [102] b).2.fs [102] = some ⟨b, 0⟩ ∧ (DiskM.new.app [102] b).2.gone = false ∧ (DiskM.new.app [102] b).2.left = -1 := by
  have h1 : DiskM.new.app [102] b = (0, (DiskM.new.put [102] ⟨b, 0⟩).spent) := by
    unfold DiskM.app
    rw [if_neg (by decide), if_neg (by decide), if_neg (by decide), if_neg (by show ¬ 1048576 < ([] : List UInt8).length + b.length; simp; omega), if_neg (by decide)]
    rfl
  rw [h1]
  exact ⟨rfl, rfl, rfl, rfl⟩
theorem then_snc (M : DiskM) (b : List UInt8) (h1 : M.fs [102] = some ⟨b, 0⟩) (h2 : M.gone = false) (h3 : M.left = -1) : (M.snc [102]).1 = 0 ∧ Stays b (M.snc [102]).2 := by
  have h : M.snc [102] = (0, (M.put [102] ⟨b, b.length⟩).spent) := by
    unfold DiskM.snc
    rw [h2, if_neg (by decide), if_neg (by decide), h1]
    show (if M.left = 0 then _ else _) = _
    rw [if_neg (by omega)]
  rw [h]
  exact ⟨rfl, ⟨b, b.length⟩, [], (show (M.put [102] ⟨b, b.length⟩).fs [102] = _ from put_fs_same _ _ _), by simp, Nat.le_refl _, Nat.le_refl _⟩
set_option maxHeartbeats 4000000 in
set_option maxRecDepth 100000 in
theorem walk (A : Option Addr) (c : Nat) (lb : List UInt8) (A1 : Option Addr) (c1 : Nat) (os : List OpV) (A2 : Option Addr) (c2 : Nat) (ks : List (ByteArray × Int)) (w : World) (hrd : Rd w w.heap.size (.slice A lb.length c) lb) (hos : OpsAt w A1 os) (hks : KeepsAt w (fun b => b < w.heap.size) A2 ks) (hlb : lb.length ≤ 140737488351232) (hkl : ks.length ≤ 5864062014805) :
    Calls Try.prog 3 #[.slice A lb.length c, .slice A1 os.length c1, .slice A2 ks.length c2] w fun e w' => e = .returned (.bool true) ∧ Below w.heap.size w w' := by
  have HRD := Lib.hid hrd
  have HOS := Lib.hid hos
  have HKS := Lib.hid hks
  obtain ⟨n, hn⟩ : ∃ n, n = lb.length := ⟨_, rfl⟩
  have HN := Lib.hid hn
  rw [← hn] at HRD hlb ⊢
  clear hrd hos hks hn
  go_enter Try.func3, Try.ntmps3
  go_wp2_with fail
  refine (new_any w).mono ?_
  rintro e w1 ⟨d, Ft, rfl, hd1, hb1, hF⟩
  obtain ⟨L1⟩ : Nonempty (Live w w1 d .new) := ⟨⟨Ft, hd1, hF, hb1⟩⟩
  have HB1 := Lib.hid hb1
  clear hd1 hb1 hF
  by_cases hbig : 2000 < n
  · have d1 : decide ((2000 : Int) < (n : Int)) = true := decide_eq_true (by omega)
    go_wp2_with fail
    refine (lives9_any _).mono ?_
    rintro e w2 ⟨rfl, hb2⟩
    have HB2 := Lib.hid (HB1.out.trans (hb2.mono HB1.out.size))
    clear hb2
    go_wp2_with fail
    go_ret
    exact ⟨rfl, HB2.out⟩
  · have d1 : decide ((2000 : Int) < (n : Int)) = false := decide_eq_false (by omega)
    have HFA := Lib.hid (first_app lb (by have := HN.out; omega))
    go_wp2_with fail
    refine (lives9_any _).mono ?_
    rintro e w2 ⟨rfl, hb2⟩
    obtain ⟨L2⟩ := L1.stay hb2
    clear hb2 L1 HB1
    go_wp2_with fail
    refine (append_any L2.at_ ⟨#[102]⟩ (by rw [sizeF1]; omega) _ lb ((HRD.out.keep L2.below).upY L2.below.size)).mono ?_
    rintro e w3 ha
    obtain ⟨he, ⟨L3⟩⟩ := L2.step (r := (DiskM.new.app [102] lb).1) (M' := (DiskM.new.app [102] lb).2) ha
    have he : e = .returned (.int .i64 0) := by rw [he]; exact congrArg (fun x => Ending.returned (.int .i64 x)) HFA.out.1
    subst he
    clear ha L2
    go_wp2_with fail
    refine (sync_any L3.at_ ⟨#[102]⟩ (by rw [sizeF1]; omega)).mono ?_
    rintro e w4 ha
    obtain ⟨h6, h7⟩ := then_snc _ lb HFA.out.2.1 HFA.out.2.2.1 HFA.out.2.2.2
    obtain ⟨he, ⟨L4⟩⟩ := L3.step (r := ((DiskM.new.app [102] lb).2.snc [102]).1) (M' := ((DiskM.new.app [102] lb).2.snc [102]).2) ha
    have HR4 : Hid (Runs w d lb w4) := Lib.hid ⟨_, ⟨L4⟩, h7⟩
    have he : e = .returned (.int .i64 0) := by rw [he]; exact congrArg (fun x => Ending.returned (.int .i64 x)) h6
    subst he
    clear ha L3 L4 h6 h7 HFA
    go_wp2_with fail
    go_loopw [8] (fun i wr => ∃ k : Nat, i = .int .i64 k ∧ k ≤ os.length ∧ Hid (Runs w d lb wr)) (fun i _ => os.length - (intOf i).toNat)
    case atStart => exact ⟨0, rfl, Nat.zero_le _, HR4⟩
    case round =>
      obtain ⟨k, rfl, hk, HR⟩ := hrel
      by_cases hlt : k < os.length ∧ k < 40
      · obtain ⟨hlt, h40⟩ := hlt
        have d2 : decide ((k : Int) < (os.length : Int)) = true := decide_eq_true (by omega)
        have d3 : decide ((k : Int) < 40) = true := decide_eq_true (by omega)
        obtain ⟨M, ⟨L⟩, hst⟩ := HR.out
        have hbw := L.below
        obtain ⟨p, off, rfl, hpl, hc⟩ := HOS.out (by omega)
        obtain ⟨hcell, hok⟩ := hc k hlt
        obtain ⟨o, ho⟩ : ∃ o, o = os[k] := ⟨_, rfl⟩
        rw [← ho] at hcell hok
        have hce : ∀ j v, o.cells[j]? = some v → wr.cell? ⟨p, off + k * 7 + j, none⟩ = some v := fun j v hv => (World.cell?_of_block (a := ⟨p, off + k * 7 + j, none⟩) (hbw.block p hpl)).trans (hcell j v hv)
        have e0 := hce 0 _ rfl
        rw [Nat.add_zero] at e0
        have e1 := hce 1 _ rfl
        have e2 := hce 2 _ rfl
        have e3 := hce 3 _ rfl
        have e4 := hce 4 _ rfl
        have e5 := hce 5 _ rfl
        have e6 := hce 6 _ rfl
        have HOK := Lib.hid hok
        have hpl' : p < wr.heap.size := by have := hbw.size; omega
        have HST := Lib.hid hst
        obtain ⟨u, hu⟩ : ∃ W, W = wr.alloc (.cells #[.int .i64 o.k, .string o.nm, .string o.to, .slice o.A o.l.length o.c, .int .i64 o.n, .int .i64 o.m, .slice o.KA o.kn o.kc] 32) := ⟨_, rfl⟩
        have hbo : u.heap[wr.heap.size]? = some (.cells #[.int .i64 o.k, .string o.nm, .string o.to, .slice o.A o.l.length o.c, .int .i64 o.n, .int .i64 o.m, .slice o.KA o.kn o.kc] 32 (0, 0)) := by rw [hu]; exact heap_alloc_new wr _
        obtain ⟨Lu⟩ := L.stay (w' := u) (by rw [hu]; exact two_below wr _)
        have HU := Lib.hid hu
        have z0 := Go.Joins.cell_of_block hbo 0
        have z1 := Go.Joins.cell_of_block hbo 1
        have z3 := Go.Joins.cell_of_block hbo 3
        have z4 := Go.Joins.cell_of_block hbo 4
        have z5 := Go.Joins.cell_of_block hbo 5
        have z6 := Go.Joins.cell_of_block hbo 6
        have z2 := Go.Joins.cell_of_block hbo 2
        have HBO := Lib.hid hbo
        clear hce hcell hc hok hu hbo hbw ho L hst
        go_wp2_with fail
        first | rw [← HU.out] | skip
        refine (small9_any o u).mono ?_
        rintro e w5 ⟨rfl, hb5⟩
        obtain ⟨L5⟩ := Lu.stay hb5
        have hbo5 := (hb5.block _ (Array.getElem?_eq_some_iff.1 HBO.out).1).trans HBO.out
        clear z0 z1 z2 z3 z4 z5 z6 e0 e1 e2 e3 e4 e5 e6
        have z0 := Go.Joins.cell_of_block hbo5 0
        have z1 := Go.Joins.cell_of_block hbo5 1
        have z3 := Go.Joins.cell_of_block hbo5 3
        have z4 := Go.Joins.cell_of_block hbo5 4
        have z5 := Go.Joins.cell_of_block hbo5 5
        have HRS : Hid (∀ w6, Runs w d lb w6 → ∃ k' : Nat, (Value.int IntKind.i64 ((k : Int) + 1)) = .int .i64 k' ∧ k' ≤ os.length ∧ Hid (Runs w d lb w6)) := Lib.hid fun w6 h => ⟨k + 1, by push_cast; rfl, by omega, h⟩
        clear hbo5 hb5 Lu
        cases hsm : (decide (o.l.length ≤ 2000) && decide (o.kn ≤ 50))
        · have HR5 : Hid (Runs w d lb w5) := Lib.hid ⟨M, ⟨L5⟩, HST.out⟩
          clear L5 hsm
          go_wp2_with fail
          go_roundw
          case rel => exact HRS.out _ HR5.out
          case measure => simp [intOf]; omega
        · by_cases hk1 : o.k = 1
          · have hk1' : (o.k == 1) = true := by rw [hk1]; rfl
            have hrd5 : Rd w5 w5.heap.size (.slice o.A o.l.length o.c) o.l := (HOK.out.rd.keep L5.below).upY L5.below.size
            have HC := Lib.hid (append_any L5.at_ o.nm HOK.out.nm _ _ hrd5)
            clear hsm hrd5
            go_wp2_with fail
            refine HC.out.mono ?_
            rintro e w6 ha
            obtain ⟨rfl, ⟨L6⟩⟩ := L5.step (r := (M.app o.nm.data.toList o.l).1) (M' := (M.app o.nm.data.toList o.l).2) ha
            have HR6 : Hid (Runs w d lb w6) := Lib.hid ⟨_, ⟨L6⟩, HST.out.app _ _⟩
            clear ha L6 HC
            go_wp2_with fail
            go_roundw
            case rel => exact HRS.out _ HR6.out
            case measure => simp [intOf]; omega
          · have hk1' : (o.k == 1) = false := by simpa using hk1
            by_cases hk2 : o.k = 2
            · have hk2' : (o.k == 2) = true := by rw [hk2]; rfl
              have HC := Lib.hid (sync_any L5.at_ o.nm HOK.out.nm)
              clear hsm
              go_wp2_with fail
              refine HC.out.mono ?_
              rintro e w6 ha
              obtain ⟨rfl, ⟨L6⟩⟩ := L5.step (r := (M.snc o.nm.data.toList).1) (M' := (M.snc o.nm.data.toList).2) ha
              have HR6 : Hid (Runs w d lb w6) := Lib.hid ⟨_, ⟨L6⟩, HST.out.snc _⟩
              clear ha L6 HC
              go_wp2_with fail
              go_roundw
              case rel => exact HRS.out _ HR6.out
              case measure => simp [intOf]; omega
            · have hk2' : (o.k == 2) = false := by simpa using hk2
              by_cases hk7 : o.k = 7
              · have hk7' : (o.k == 7) = true := by rw [hk7]; rfl
                have HC := Lib.hid (stop_any L5.at_ o.n o.m HOK.out.n HOK.out.m)
                clear hsm
                go_wp2_with fail
                refine HC.out.mono ?_
                rintro e w6 ha
                obtain ⟨rfl, ⟨L6⟩⟩ := L5.step (r := (M.stop o.n o.m).1) (M' := (M.stop o.n o.m).2) ⟨ha.1, L5.Ft, ha.2.2, ha.2.1⟩
                have HR6 : Hid (Runs w d lb w6) := Lib.hid ⟨_, ⟨L6⟩, HST.out.stop _ _⟩
                clear ha L6 HC
                go_wp2_with fail
                go_roundw
                case rel => exact HRS.out _ HR6.out
                case measure => simp [intOf]; omega
              · have hk7' : (o.k == 7) = false := by simpa using hk7
                have HR5 : Hid (Runs w d lb w5) := Lib.hid ⟨M, ⟨L5⟩, HST.out⟩
                clear L5 hsm
                go_wp2_with fail
                go_roundw
                case rel => exact HRS.out _ HR5.out
                case measure => simp [intOf]; omega
      · have hcut : (k < os.length ∧ ¬ k < 40) ∨ ¬ k < os.length := by omega
        obtain ⟨M, ⟨L⟩, hst⟩ := HR.out
        have HST := Lib.hid hst
        have HLB := Lib.hid L.below
        have hks6 := HKS.out.keep (w' := wr) fun b hb => L.below.block b hb
        have HKS6 := Lib.hid hks6
        clear hst HR hks6
        by_cases h50 : 50 < ks.length
        · have d4 : decide ((50 : Int) < (ks.length : Int)) = true := decide_eq_true (by omega)
          clear L
          rcases hcut with ⟨d2, d3⟩ | d2
          · go_wp2_with fail
            go_ret
            exact ⟨rfl, HLB.out⟩
          · go_wp2_with fail
            go_ret
            exact ⟨rfl, HLB.out⟩
        · have d4 : decide ((50 : Int) < (ks.length : Int)) = false := decide_eq_false (by omega)
          have hcr := crash_any L.at_ A2 c2 ks _ HKS6.out (fun b hb => ⟨by have := HLB.out.size; omega, fun h => by have := L.base b h; omega⟩) (by omega)
          have HCR := Lib.hid hcr
          clear hcr
          cases hany : (ksOf ks).any fun k => badNm k.1
          · have HSC := Lib.hid (HST.out.crash (ksOf ks) hany)
            rcases hcut with ⟨d2, d3⟩ | d2
            · go_wp2_with fail
              refine HCR.out.mono ?_
              rintro e w5 ha
              obtain ⟨he, ⟨L5⟩⟩ := L.step (r := (M.crash (ksOf ks)).1) (M' := (M.crash (ksOf ks)).2) ha
              obtain ⟨h0, x, hx⟩ := HSC.out
              have hx := hx
              have he : e = .returned (.int .i64 0) := by rw [he]; exact congrArg (fun x => Ending.returned (.int .i64 x)) h0
              subst he
              have hrd := read_any L5.at_ ⟨#[102]⟩ (by rw [sizeF1]; omega)
              rw [show (M.crash (ksOf ks)).2.read (⟨#[102]⟩ : ByteArray).data.toList = (lb ++ x, 0) from hx] at hrd
              have HRDD := Lib.hid hrd
              have HL5 := Lib.hid L5.below
              clear ha L L5 h0 hx hrd HCR
              go_wp2_with fail
              refine HRDD.out.mono ?_
              rintro e w7 ⟨hb7, v7, rfl, hv7⟩
              have HB7 := Lib.hid (HL5.out.trans (hb7.mono HL5.out.size))
              obtain ⟨A7, c7, rfl⟩ := hv7.rdY.shapeY
              obtain ⟨n7, hn7⟩ : ∃ y, y = (lb ++ x).length := ⟨_, rfl⟩
              have hnn : n ≤ n7 := by rw [hn7, List.length_append, HN.out]; omega
              have hown7 : OwnB w7 w5.heap.size (.slice A7 n c7) lb := by
                have h9 := hv7.cut lb.length (by rw [List.length_append]; omega)
                rw [List.take_append_of_le_length (Nat.le_refl _), List.take_length, ← HN.out] at h9
                exact h9
              have hcap : n ≤ c7 := by
                obtain ⟨A', cap', hv, h2, _⟩ := hown7.rdY
                injection hv with _ _ e3
                have := HN.out
                omega
              have hrd7 := HRD.out.keep HB7.out
              have qk : ∀ p : LaterR (RowR none) w7.drew, ∀ b, b < w7.heap.size → p.u.heap[b]? = w7.heap[b]? := fun p b hb => p.h.block b hb (by simp)
              have q1 : ∀ p : LaterR (RowR none) w7.drew, (Instr.slice 22 (.slice A7 n7 c7) none (some (.int .i64 (n : Int))) none).run Try.prog p.u = .ok (.slice A7 n c7) p.u := fun p => slice_to A7 n7 c7 n hcap p.u
              have q2 : ∀ p : LaterR (RowR none) w7.drew, (convert 22 9 (.slice A7 n c7)).run Try.prog p.u = .ok (.string ⟨lb.toArray⟩) p.u := fun p => (hown7.keepB (w' := p.u) fun k hk => qk p k (hown7.ltk hk)).conv
              have q3 : ∀ p : LaterR (RowR none) w7.drew, (convert 22 9 (.slice A n c)).run Try.prog p.u = .ok (.string ⟨lb.toArray⟩) p.u := fun p => (HRD.out.keep (w' := p.u) ⟨p.h.os.trans HB7.out.os, p.h.tape.trans HB7.out.tape, p.h.output.trans HB7.out.output, by have h1 := p.h.size; have h2 := HB7.out.size; have h3 : w7.drew.heap.size = w7.heap.size := rfl; omega, fun b hb => (qk p b (by have := HB7.out.size; omega)).trans (HB7.out.block b hb)⟩).strF
              have HBD : Hid (Below w.heap.size w w7.drew) := Lib.hid HB7.out.drew
              have hd7 : decide ((n : Int) ≤ (n7 : Int)) = true := decide_eq_true (by omega)
              rw [← hn7]
              clear hv7 hb7 hown7 hrd7 qk hn7
              go_wp2_with fail
              refine wp_region_OT (RowR none) (RowR.refl _) (RowR.trans _) [] (.pure [0, 1, 2, 3, 4, 5, 6, 7, 8, 9, 10, 11, 12, 13, 14, 15, 16, 17, 18, 19] (.tail [])) (by kernel_rfl) (by kernel_rfl) (fun _ d _ _ _ h => by cases d <;> exact h) ?_
              generalize w7.drew = w8 at *
              refine ot_pure ?_
              simp only [atNats, List.filterMap_cons, List.filterMap_nil, List.getElem?_toArray, List.getElem?_cons_succ, List.getElem?_cons_zero]
              show wpQuiet _ _ _ _ [_, _, _, _, _, _, _, _, _, _, _, _, _, _, _, _, _, _, _, _] _
              try simp only [List.getElem_toArray, List.getElem_cons_succ, List.getElem_cons_zero, Act.put, List.setIfInBounds_toArray, List.set_cons_succ, List.set_cons_zero] at *
              repeat (go_big_quiet_step (fail))
              refine wpQuiet_nil ?_
              clear q1 q2 q3
              refine ot_end ?_
              go_wp2_with fail
              go_ret
              exact ⟨by simp, HBD.out⟩
            · go_wp2_with fail
              refine HCR.out.mono ?_
              rintro e w5 ha
              obtain ⟨he, ⟨L5⟩⟩ := L.step (r := (M.crash (ksOf ks)).1) (M' := (M.crash (ksOf ks)).2) ha
              obtain ⟨h0, x, hx⟩ := HSC.out
              have hx := hx
              have he : e = .returned (.int .i64 0) := by rw [he]; exact congrArg (fun x => Ending.returned (.int .i64 x)) h0
              subst he
              have hrd := read_any L5.at_ ⟨#[102]⟩ (by rw [sizeF1]; omega)
              rw [show (M.crash (ksOf ks)).2.read (⟨#[102]⟩ : ByteArray).data.toList = (lb ++ x, 0) from hx] at hrd
              have HRDD := Lib.hid hrd
              have HL5 := Lib.hid L5.below
              clear ha L L5 h0 hx hrd HCR
              go_wp2_with fail
              refine HRDD.out.mono ?_
              rintro e w7 ⟨hb7, v7, rfl, hv7⟩
              have HB7 := Lib.hid (HL5.out.trans (hb7.mono HL5.out.size))
              obtain ⟨A7, c7, rfl⟩ := hv7.rdY.shapeY
              obtain ⟨n7, hn7⟩ : ∃ y, y = (lb ++ x).length := ⟨_, rfl⟩
              have hnn : n ≤ n7 := by rw [hn7, List.length_append, HN.out]; omega
              have hown7 : OwnB w7 w5.heap.size (.slice A7 n c7) lb := by
                have h9 := hv7.cut lb.length (by rw [List.length_append]; omega)
                rw [List.take_append_of_le_length (Nat.le_refl _), List.take_length, ← HN.out] at h9
                exact h9
              have hcap : n ≤ c7 := by
                obtain ⟨A', cap', hv, h2, _⟩ := hown7.rdY
                injection hv with _ _ e3
                have := HN.out
                omega
              have hrd7 := HRD.out.keep HB7.out
              have qk : ∀ p : LaterR (RowR none) w7.drew, ∀ b, b < w7.heap.size → p.u.heap[b]? = w7.heap[b]? := fun p b hb => p.h.block b hb (by simp)
              have q1 : ∀ p : LaterR (RowR none) w7.drew, (Instr.slice 22 (.slice A7 n7 c7) none (some (.int .i64 (n : Int))) none).run Try.prog p.u = .ok (.slice A7 n c7) p.u := fun p => slice_to A7 n7 c7 n hcap p.u
              have q2 : ∀ p : LaterR (RowR none) w7.drew, (convert 22 9 (.slice A7 n c7)).run Try.prog p.u = .ok (.string ⟨lb.toArray⟩) p.u := fun p => (hown7.keepB (w' := p.u) fun k hk => qk p k (hown7.ltk hk)).conv
              have q3 : ∀ p : LaterR (RowR none) w7.drew, (convert 22 9 (.slice A n c)).run Try.prog p.u = .ok (.string ⟨lb.toArray⟩) p.u := fun p => (HRD.out.keep (w' := p.u) ⟨p.h.os.trans HB7.out.os, p.h.tape.trans HB7.out.tape, p.h.output.trans HB7.out.output, by have h1 := p.h.size; have h2 := HB7.out.size; have h3 : w7.drew.heap.size = w7.heap.size := rfl; omega, fun b hb => (qk p b (by have := HB7.out.size; omega)).trans (HB7.out.block b hb)⟩).strF
              have HBD : Hid (Below w.heap.size w w7.drew) := Lib.hid HB7.out.drew
              have hd7 : decide ((n : Int) ≤ (n7 : Int)) = true := decide_eq_true (by omega)
              rw [← hn7]
              clear hv7 hb7 hown7 hrd7 qk hn7
              go_wp2_with fail
              refine wp_region_OT (RowR none) (RowR.refl _) (RowR.trans _) [] (.pure [0, 1, 2, 3, 4, 5, 6, 7, 8, 9, 10, 11, 12, 13, 14, 15, 16, 17, 18, 19] (.tail [])) (by kernel_rfl) (by kernel_rfl) (fun _ d _ _ _ h => by cases d <;> exact h) ?_
              generalize w7.drew = w8 at *
              refine ot_pure ?_
              simp only [atNats, List.filterMap_cons, List.filterMap_nil, List.getElem?_toArray, List.getElem?_cons_succ, List.getElem?_cons_zero]
              show wpQuiet _ _ _ _ [_, _, _, _, _, _, _, _, _, _, _, _, _, _, _, _, _, _, _, _] _
              try simp only [List.getElem_toArray, List.getElem_cons_succ, List.getElem_cons_zero, Act.put, List.setIfInBounds_toArray, List.set_cons_succ, List.set_cons_zero] at *
              repeat (go_big_quiet_step (fail))
              refine wpQuiet_nil ?_
              clear q1 q2 q3
              refine ot_end ?_
              go_wp2_with fail
              go_ret
              exact ⟨by simp, HBD.out⟩
          · have hc1 : M.crash (ksOf ks) = (1, M) := by unfold DiskM.crash; rw [if_pos hany]
            rw [hc1] at HCR
            have HRK := Lib.hid (fun W (h : KeepsAt W (fun b => b < w.heap.size) A2 ks) => rKeeps9_any A2 c2 ks _ W h (by omega))
            rcases hcut with ⟨d2, d3⟩ | d2
            · go_wp2_with fail
              refine HCR.out.mono ?_
              rintro e w5 ha
              obtain ⟨rfl, ⟨L5⟩⟩ := L.step (r := 1) (M' := M) ha
              have HL5 := Lib.hid L5.below
              have hkk := HRK.out w5 (HKS.out.keep fun b hb => HL5.out.block b hb)
              rw [hany] at hkk
              have HKK := Lib.hid hkk
              clear ha L L5 hkk HCR HRK
              go_wp2_with fail
              refine HKK.out.mono ?_
              rintro e w6 ⟨rfl, rfl⟩
              go_wp2_with fail
              go_ret
              exact ⟨rfl, HL5.out⟩
            · go_wp2_with fail
              refine HCR.out.mono ?_
              rintro e w5 ha
              obtain ⟨rfl, ⟨L5⟩⟩ := L.step (r := 1) (M' := M) ha
              have HL5 := Lib.hid L5.below
              have hkk := HRK.out w5 (HKS.out.keep fun b hb => HL5.out.block b hb)
              rw [hany] at hkk
              have HKK := Lib.hid hkk
              clear ha L L5 hkk HCR HRK
              go_wp2_with fail
              refine HKK.out.mono ?_
              rintro e w6 ⟨rfl, rfl⟩
              go_wp2_with fail
              go_ret
              exact ⟨rfl, HL5.out⟩

set_option maxRecDepth 100000 in
theorem lifted (os : Os) (started : os.Started) (H : Type) (enc : TypeId × Value → H) :
    ReturnsInHanded {} Try.checked os 3 .any (Rows.filesKeepSpec.pre6 enc Try.prog Try.f3 Rows.filesKeepRow.domain false) (Rows.filesKeepSpec.post enc Try.prog Try.f3 false true false false) := by
  refine returnsInHanded_of_change_sized (C := Try.checked) own started (by kernel_rfl) Try.func3
    (ChangeSpec.witness6 (enc := enc) (C := Try.checked) false ⟨#[], #[.slice none 0 0, .slice none 0 0, .slice none 0 0], []⟩ 8 (by kernel_rfl) (by kernel_rfl) (by kernel_rfl) (by kernel_rfl)) ?_
  intro W base args ds gs before hval0 hW hcnd hsz0 _
  have hval : ∀ (j : Nat) t v, Try.f3.params[j]? = some t → args[j]? = some v → Value.okWide Try.prog W .any base t v := hval0
  have hsz : (DataW.weightsEach Try.prog (Try.f3.params.toList ++ Rows.filesKeepSpec.plain.varTypes Try.prog) (ds ++ gs)).all (· ≤ reachBytes) = true := hsz0
  have hW' := hW
  obtain ⟨p, q, hA0, hV, rfl, hfz, hnd⟩ := hW
  have hA : DataW.TrodAll enc Try.prog W 0 (fun _ => true) true Try.f3.params.toList args.toList ds p := hA0
  rw [Try.params3] at hA hval hsz
  obtain ⟨v0, v1, v2, d0, d1, d2, p0, p1, p2, rfl, rfl, rfl, h0, h1, h2⟩ := trodAll_three hA
  obtain ⟨rfl, rfl⟩ := trodVars_none hV
  obtain ⟨A0, n0, c0, rfl⟩ := okWide_slice Try.underlying22 (hval 0 22 v0 rfl rfl)
  have k0 := h0
  have lt0 : ∀ x ∈ p0, x.block < W.heap.size := by obtain ⟨m, hm⟩ := k0; exact DataW.trod_lt m _ _ _ hm
  obtain ⟨A1, n1, c1, rfl⟩ := okWide_slice Try.underlying23 (hval 1 23 v1 rfl rfl)
  have k1 := h1
  have lt1 : ∀ x ∈ p1, x.block < W.heap.size := by obtain ⟨m, hm⟩ := k1; exact DataW.trod_lt m _ _ _ hm
  have wt1 : ∀ n ∈ d1.weights Try.prog 23, n ≤ reachBytes := fun n hn => by have := List.all_eq_true.1 hsz n (DataW.weights_mem_each (j := 1) rfl rfl n hn); simpa using this
  obtain ⟨A2, n2, c2, rfl⟩ := okWide_slice Try.underlying24 (hval 2 24 v2 rfl rfl)
  have k2 := h2
  have lt2 : ∀ x ∈ p2, x.block < W.heap.size := by obtain ⟨m, hm⟩ := k2; exact DataW.trod_lt m _ _ _ hm
  have wt2 : ∀ n ∈ d2.weights Try.prog 24, n ≤ reachBytes := fun n hn => by have := List.all_eq_true.1 hsz n (DataW.weights_mem_each (j := 2) rfl rfl n hn); simpa using this
  clear hA0 hval0
  obtain ⟨l0, hll0, hrd0, hln0⟩ : ∃ l : List UInt8, n0 = l.length ∧ Rd W W.heap.size (.slice A0 l.length c0) l ∧ n0 ≤ 140737488351232 := by
    obtain ⟨fuel, hf⟩ := k0
    obtain ⟨⟨l, hll, hrd⟩, hshape⟩ := open_bytes hf
    refine ⟨l, hll, hrd, ?_⟩
    rcases hshape with h0 | ⟨es, rs, hd, hes⟩
    · omega
    · simp only [] at hd
      subst hd
      have h3 := sized_slice hsz (j := 0) (t := 22) (e := 5) rfl rfl Try.underlying22
      have hb : Try.prog.bytesOf 5 = 1 := by kernel_rfl
      rw [hb] at h3
      simp only [reachBytes] at h3
      omega
  subst hll0
  obtain ⟨os1, hn1, hos1⟩ : ∃ os : List OpV, n1 = os.length ∧ OpsAt W A1 os := by
    obtain ⟨m, hm⟩ := k1
    obtain ⟨B, e, os, he, g1⟩ := open_ops9 hm wt1
    have he' : [Value.slice A1 n1 c1] = [Value.slice B os.length e] := he
    simp only [List.cons.injEq, Value.slice.injEq, and_true] at he'
    obtain ⟨rfl, rfl, rfl⟩ := he'
    exact ⟨os, rfl, g1⟩
  subst hn1
  obtain ⟨ks2, hn2, hl2, hks2⟩ : ∃ ls : List (ByteArray × Int), n2 = ls.length ∧ ls.length ≤ 5864062014805 ∧ KeepsAt W (fun b => b < W.heap.size) A2 ls := by
    obtain ⟨m, hm⟩ := k2
    obtain ⟨B, e, ls, he, g1, g2⟩ := open_keeps hm wt2
    have he' : [Value.slice A2 n2 c2] = [Value.slice B ls.length e] := he
    simp only [List.cons.injEq, Value.slice.injEq, and_true] at he'
    obtain ⟨rfl, rfl, rfl⟩ := he'
    exact ⟨ls, rfl, g1, g2⟩
  subst hn2
  refine (walk A0 c0 l0 A1 c1 os1 A2 c2 ks2 W hrd0 hos1 hks2 hln0 hl2).mono fun e W' ⟨he, bel⟩ => ?_
  subst he
  exact ⟨_, rfl, _, _, _, [], _, [], hW', trodAll_mk1 (shut_bool Try.underlying4 _), (trodAll_cons_mk (Below.trod laidOut (by kernel_rfl) (of_decide_eq_true (by kernel_rfl)) k0 bel lt0) (trodAll_cons_mk (Below.trod laidOut (by kernel_rfl) (of_decide_eq_true (by kernel_rfl)) k1 bel lt1) (trodAll_cons_mk (Below.trod laidOut (by kernel_rfl) (of_decide_eq_true (by kernel_rfl)) k2 bel lt2) trodAll_mk0))), rfl, bel.frame _, fun h => by cases h⟩

/-- The statement. -/
theorem proved : Rows.FilesKeepSaid :=
  OpenClaim.holds_of_wide 3 Try.f3 rfl rfl rfl rfl rfl rfl rfl ⟨rfl, rfl, rfl, rfl, rfl⟩ rfl rfl rfl rfl rfl (by kernel_rfl) Try.func3 (by kernel_rfl)
    (of_decide_eq_true (by kernel_rfl)) (by unfold Func.isWrapper; first | (rw [if_pos (by decide +kernel)]; kernel_rfl) | (rw [if_neg (by decide +kernel)]; exact ⟨rfl, rfl⟩))
    (fun os started H enc _ => lifted os started H enc)

end Go.Proofs.Ytclgekmpldeedaa.FKeep
