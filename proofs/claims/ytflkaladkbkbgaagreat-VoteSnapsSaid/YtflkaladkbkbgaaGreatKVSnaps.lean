/- Behind a crash a snapshot is the one that was saved last, or the one in the middle of being saved. No conditions. -/
import Derived.Test.YtflkaladkbkbgaaGreatKVoL
import Derived.Test.YtflkaladkbkbgaaGreatKOpenL
import Derived.Test.YtflkaladkbkbgaaGreatKOpenB
import Derived.SizedLaws
import Derived.ProofKit
import Derived.OpenShut
import Derived.ShutString
import Derived.ChangeOld
import Derived.Below
namespace Go.Proofs.YtflkaladkbkbgaaGreat.VSnaps
set_option linter.unusedVariables false
set_option linter.unusedSimpArgs false
open Go.ChangeShapes Go.WideShapes Go.ChangeAt Go.RowKit Go.Joins OpenB
set_option linter.unusedVariables false

theorem own : ownKnob Tryz.prog.godebug = none := by kernel_rfl
theorem laidOut : laidOutB Tryz.prog = true := by kernel_rfl

/-- What the law's variables hold. -/
def lastS : Option (List UInt8) → ByteArray
  | none => ⟨#[]⟩
  | some b => ⟨b.toArray⟩
def SnapRun (W : World) (d : Nat) (o : Option (List UInt8)) (w : World) : Prop := ∃ M, Nonempty (Live W w d M) ∧ SnapIs M o ∧ ∀ b, o = some b → b.length ≤ 2000
set_option maxHeartbeats 8000000 in
set_option maxRecDepth 100000 in
theorem walk (A : Option Addr) (c : Nat) (ls : List (List UInt8)) (sn st : Int) (A2 : Option Addr) (c2 : Nat) (ks : List (ByteArray × Int)) (w : World) (hbs : BssAt w w.heap.size A ls) (hlc : ls.length ≤ maxLen) (hsn : -9223372036854775808 ≤ sn ∧ sn ≤ 9223372036854775807) (hst : -9223372036854775808 ≤ st ∧ st ≤ 9223372036854775807) (hks : KeepsAt w (fun b => b < w.heap.size) A2 ks) (hkl : ks.length ≤ 5864062014805) :
    Calls Tryz.prog 4 #[.slice A ls.length c, .int .i64 sn, .int .i64 st, .slice A2 ks.length c2] w fun e w' => e = .returned (.bool true) ∧ Below w.heap.size w w' := by
  have HBS := Lib.hid hbs
  have HKS := Lib.hid hks
  have HSN := Lib.hid (And.intro hsn hst)
  have HLC := Lib.hid hlc
  clear hbs hks hsn hst hlc
  go_enter Tryz.func4, Tryz.ntmps4
  go_wp2_with fail
  refine (new_any w).mono ?_
  rintro e w1 ⟨d, Ft, rfl, hd1, hb1, hF⟩
  obtain ⟨L1⟩ : Nonempty (Live w w1 d .new) := ⟨⟨Ft, hd1, hF, hb1⟩⟩
  clear hd1 hb1 hF
  go_wp2_with fail
  refine (lives12_any _).mono ?_
  rintro e w2 ⟨rfl, hb2⟩
  obtain ⟨L2⟩ := L1.stay hb2
  clear hb2 L1
  by_cases h30 : 30 < ls.length
  · have d1 : decide ((30 : Int) < (ls.length : Int)) = true := decide_eq_true (by omega)
    have HB2 := Lib.hid L2.below
    clear L2
    go_wp2_with fail
    refine (lives12_any _).mono ?_
    rintro e w3 ⟨rfl, hb3⟩
    have HB3 := Lib.hid (HB2.out.trans (hb3.mono HB2.out.size))
    clear hb3
    go_wp2_with fail
    go_ret
    exact ⟨rfl, HB3.out⟩
  have d1 : decide ((30 : Int) < (ls.length : Int)) = false := decide_eq_false (by omega)
  by_cases h50 : 50 < ks.length
  · have d2 : decide ((50 : Int) < (ks.length : Int)) = true := decide_eq_true (by omega)
    have HB2 := Lib.hid L2.below
    clear L2
    go_wp2_with fail
    refine (lives12_any _).mono ?_
    rintro e w3 ⟨rfl, hb3⟩
    have HB3 := Lib.hid (HB2.out.trans (hb3.mono HB2.out.size))
    clear hb3
    go_wp2_with fail
    go_ret
    exact ⟨rfl, HB3.out⟩
  have d2 : decide ((50 : Int) < (ks.length : Int)) = false := decide_eq_false (by omega)
  have HKK := Lib.hid (rKeeps9_any A2 c2 ks _ w2 (HKS.out.keep fun b hb => L2.below.block b hb) (by omega))
  cases hany : (ksOf ks).any fun k => badNm k.1
  · have HANY := Lib.hid hany
    rw [hany] at HKK
    clear hany
    go_wp2_with fail
    refine HKK.out.mono ?_
    rintro e w3 ⟨rfl, rfl⟩
    clear HKK
    go_wp2_with fail
    refine (stop_any L2.at_ sn st HSN.out.1 HSN.out.2).mono ?_
    rintro e w4 ⟨rfl, hd4, hg4⟩
    have HR4 : Hid (SnapRun w d none w4) := Lib.hid ⟨_, ⟨⟨L2.Ft, hd4, L2.base, L2.below.trans (hg4.below L2.below.size L2.base)⟩⟩, stop_snap _ _ _ _ rfl, fun b h => by cases h⟩
    clear hd4 hg4 L2
    go_wp2_with fail
    go_loopw [10, 11, 12, 13, 14] (fun v10 v11 v12 v13 v14 wr => ∃ (k : Nat) (o : Option (List UInt8)), v13 = .int .i64 k ∧ k ≤ ls.length ∧ v10 = .string (lastS o) ∧ v11 = .string (lastS o) ∧ v12 = .bool o.isSome ∧ Hid (SnapRun w d o wr)) (fun _ _ _ v13 _ _ => ls.length - (intOf v13).toNat)
    case atStart => exact ⟨0, none, rfl, Nat.zero_le _, rfl, rfl, rfl, HR4⟩
    case round =>
      obtain ⟨k, o, rfl, hk, rfl, rfl, rfl, HR⟩ := hrel
      obtain ⟨M, ⟨L⟩, hsn, hob⟩ := HR.out
      clear HR
      by_cases hlt : k < ls.length
      · obtain ⟨p, off, rfl, hpl, hc⟩ := HBS.out (by omega)
        obtain ⟨vk, hck, hrk⟩ := hc k hlt
        obtain ⟨b, hb⟩ : ∃ b, b = ls[k] := ⟨_, rfl⟩
        rw [← hb] at hrk
        obtain ⟨Ak, ck, rfl⟩ := hrk.shapeY
        have HRK := Lib.hid hrk
        obtain ⟨n, hn⟩ : ∃ n, n = b.length := ⟨_, rfl⟩
        have HN := Lib.hid hn
        rw [← hn] at HRK hck
        have HCK : Hid (∀ W, Below w.heap.size w W → W.cell? ⟨p, off + k, none⟩ = some (.slice Ak n ck)) := Lib.hid fun W hW => (World.cell?_of_block (a := ⟨p, off + k, none⟩) (hW.block p hpl)).trans hck
        have x0 := HCK.out wr L.below
        clear hc hck hrk hb hn
        by_cases hbig : 2000 < n
        · have d3 : decide ((2000 : Int) < (n : Int)) = true := decide_eq_true (by omega)
          have HB2 := Lib.hid L.below
          clear L hsn hob
          go_wp2_with fail
          refine (lives12_any _).mono ?_
          rintro e w3 ⟨rfl, hb3⟩
          have HB3 := Lib.hid (HB2.out.trans (hb3.mono HB2.out.size))
          clear hb3
          go_wp2_with fail
          go_ret
          exact ⟨rfl, HB3.out⟩
        · have d3 : decide ((2000 : Int) < (n : Int)) = false := decide_eq_false (by omega)
          have HSV := Lib.hid (save_any L.at_ (.slice Ak n ck) b ((HRK.out.keep L.below).upY L.below.size) (by have := HN.out; omega))
          have HRS := Lib.hid (rep_snap b M o hsn)
          obtain ⟨r, hr⟩ : ∃ r, r = (repM snapN (frameF b) M).1 := ⟨_, rfl⟩
          obtain ⟨M', hM'⟩ : ∃ M', M' = (repM snapN (frameF b) M).2 := ⟨_, rfl⟩
          have hrp : repM snapN (frameF b) M = (r, M') := by rw [hr, hM']
          rw [hrp] at HSV HRS
          have HOB := Lib.hid hob
          clear hsn hob hr hM' hrp
          go_wp2_with fail
          refine HSV.out.mono ?_
          rintro e w5 ha
          obtain ⟨rfl, ⟨L5⟩⟩ := L.step (r := r) (M' := M') ha
          clear ha L HSV x0
          have x0 := HCK.out w5 L5.below
          have hsk := ((HRK.out.keep L5.below).upY L5.below.size).strF
          by_cases hr0 : r = 0
          · subst hr0
            have hsn := HRS.out.1 rfl
            have HRN : Hid (SnapRun w d (some b) w5) := Lib.hid ⟨M', ⟨L5⟩, hsn, fun c hc => by injection hc with hc; rw [← hc]; have := HN.out; omega⟩
            clear hsn L5 HRS HOB
            go_wp2_with fail
            go_roundw
            case rel => exact ⟨k + 1, some b, by go_num, by omega, rfl, rfl, rfl, HRN⟩
            case measure => simp [intOf]; omega
          · have d4 : (r == 0) = false := by simpa using hr0
            have hsn := HRS.out.2 hr0
            have hob := HOB.out
            obtain ⟨L, hL⟩ : ∃ L : Live w w5 d M', L = L5 := ⟨_, rfl⟩
            clear hL L5 HRS HOB
            obtain ⟨M, rfl⟩ : ∃ M, M = M' := ⟨_, rfl⟩
            have HKS6 := Lib.hid (HKS.out.keep fun b hb => L.below.block b hb)
            have HLB := Lib.hid L.below
            have hcr := crash_any L.at_ A2 c2 ks _ HKS6.out (fun b hb => ⟨by have := HLB.out.size; omega, fun h => by have := L.base b h; omega⟩) (by omega)
            obtain ⟨h0, hrd⟩ := crash_snap M (ksOf ks) o hsn HANY.out
            have HCR := Lib.hid hcr
            have HRD := Lib.hid hrd
            have H0 := Lib.hid h0
            clear hcr hrd h0 hsn HKS6
            cases o with
            | none =>
              go_wp2_with fail
              refine HCR.out.mono ?_
              rintro e w5 ha
              obtain ⟨he, ⟨L5⟩⟩ := L.step (r := (M.crash (ksOf ks)).1) (M' := (M.crash (ksOf ks)).2) ha
              have he : e = .returned (.int .i64 0) := by rw [he]; exact congrArg (fun x => Ending.returned (.int .i64 x)) H0.out
              subst he
              have HLD := Lib.hid (load_none L5.at_ HRD.out)
              have HL5 := Lib.hid L5.below
              clear ha L L5 HCR HRD H0
              go_wp2_with fail
              refine HLD.out.mono ?_
              rintro e w6 ⟨hb6, rfl⟩
              have HB6 := Lib.hid (HL5.out.trans (hb6.mono HL5.out.size))
              clear hb6 HLD
              go_wp2_with fail
              go_ret
              exact ⟨rfl, HB6.out⟩
            | some bb =>
              have hbl := hob bb rfl
              go_wp2_with fail
              refine HCR.out.mono ?_
              rintro e w5 ha
              obtain ⟨he, ⟨L5⟩⟩ := L.step (r := (M.crash (ksOf ks)).1) (M' := (M.crash (ksOf ks)).2) ha
              have he : e = .returned (.int .i64 0) := by rw [he]; exact congrArg (fun x => Ending.returned (.int .i64 x)) H0.out
              subst he
              have HLD := Lib.hid (load_frame L5.at_ bb (by omega) HRD.out)
              have HL5 := Lib.hid L5.below
              clear ha L L5 HCR HRD H0
              go_wp2_with fail
              refine HLD.out.mono ?_
              rintro e w6 ⟨hb6, v6, rfl, hv6⟩
              have HB6 := Lib.hid (HL5.out.trans (hb6.mono HL5.out.size))
              have hst := hv6.strF
              obtain ⟨A6, c6, rfl⟩ := hv6.shapeY
              obtain ⟨n6, hn6⟩ : ∃ y, y = bb.length := ⟨_, rfl⟩
              rw [← hn6] at hst ⊢
              rw [show (⟨bb.toArray⟩ : ByteArray) = lastS (some bb) from rfl] at hst
              obtain ⟨S6, hS6⟩ : ∃ S, S = lastS (some bb) := ⟨_, rfl⟩
              rw [← hS6] at hst ⊢
              clear hb6 HLD hv6 hn6 hS6
              go_wp2_with fail
              go_ret
              exact ⟨rfl, HB6.out⟩
      · obtain rfl : k = ls.length := by omega
        have HKS6 := Lib.hid (HKS.out.keep fun b hb => L.below.block b hb)
        have HLB := Lib.hid L.below
        have hcr := crash_any L.at_ A2 c2 ks _ HKS6.out (fun b hb => ⟨by have := HLB.out.size; omega, fun h => by have := L.base b h; omega⟩) (by omega)
        obtain ⟨h0, hrd⟩ := crash_snap M (ksOf ks) o hsn HANY.out
        have HCR := Lib.hid hcr
        have HRD := Lib.hid hrd
        have H0 := Lib.hid h0
        clear hcr hrd h0 hsn HKS6
        cases o with
        | none =>
          go_wp2_with fail
          refine HCR.out.mono ?_
          rintro e w5 ha
          obtain ⟨he, ⟨L5⟩⟩ := L.step (r := (M.crash (ksOf ks)).1) (M' := (M.crash (ksOf ks)).2) ha
          have he : e = .returned (.int .i64 0) := by rw [he]; exact congrArg (fun x => Ending.returned (.int .i64 x)) H0.out
          subst he
          have HLD := Lib.hid (load_none L5.at_ HRD.out)
          have HL5 := Lib.hid L5.below
          clear ha L L5 HCR HRD H0
          go_wp2_with fail
          refine HLD.out.mono ?_
          rintro e w6 ⟨hb6, rfl⟩
          have HB6 := Lib.hid (HL5.out.trans (hb6.mono HL5.out.size))
          clear hb6 HLD
          go_wp2_with fail
          go_ret
          exact ⟨rfl, HB6.out⟩
        | some bb =>
          have hbl := hob bb rfl
          go_wp2_with fail
          refine HCR.out.mono ?_
          rintro e w5 ha
          obtain ⟨he, ⟨L5⟩⟩ := L.step (r := (M.crash (ksOf ks)).1) (M' := (M.crash (ksOf ks)).2) ha
          have he : e = .returned (.int .i64 0) := by rw [he]; exact congrArg (fun x => Ending.returned (.int .i64 x)) H0.out
          subst he
          have HLD := Lib.hid (load_frame L5.at_ bb (by omega) HRD.out)
          have HL5 := Lib.hid L5.below
          clear ha L L5 HCR HRD H0
          go_wp2_with fail
          refine HLD.out.mono ?_
          rintro e w6 ⟨hb6, v6, rfl, hv6⟩
          have HB6 := Lib.hid (HL5.out.trans (hb6.mono HL5.out.size))
          have hst := hv6.strF
          obtain ⟨A6, c6, rfl⟩ := hv6.shapeY
          obtain ⟨n6, hn6⟩ : ∃ y, y = bb.length := ⟨_, rfl⟩
          rw [← hn6] at hst ⊢
          rw [show (⟨bb.toArray⟩ : ByteArray) = lastS (some bb) from rfl] at hst
          obtain ⟨S6, hS6⟩ : ∃ S, S = lastS (some bb) := ⟨_, rfl⟩
          rw [← hS6] at hst ⊢
          clear hb6 HLD hv6 hn6 hS6
          go_wp2_with fail
          go_ret
          exact ⟨rfl, HB6.out⟩
  · rw [hany] at HKK
    have HB2 := Lib.hid L2.below
    clear L2
    go_wp2_with fail
    refine HKK.out.mono ?_
    rintro e w3 ⟨rfl, rfl⟩
    clear HKK
    go_wp2_with fail
    refine (lives12_any _).mono ?_
    rintro e w4 ⟨rfl, hb3⟩
    have HB3 := Lib.hid (HB2.out.trans (hb3.mono HB2.out.size))
    clear hb3
    go_wp2_with fail
    go_ret
    exact ⟨rfl, HB3.out⟩

set_option maxRecDepth 100000 in
theorem lifted (os : Os) (started : os.Started) (H : Type) (enc : TypeId × Value → H) :
    ReturnsInHanded {} Tryz.checked os 4 .any (Rows.voteSnapsSpec.pre6 enc Tryz.prog Tryz.f4 Rows.voteSnapsRow.domain false) (Rows.voteSnapsSpec.post enc Tryz.prog Tryz.f4 false true false false) := by
  refine returnsInHanded_of_change_sized (C := Tryz.checked) own started (by kernel_rfl) Tryz.func4
    (ChangeSpec.witness6 (enc := enc) (C := Tryz.checked) false ⟨#[], #[.slice none 0 0, .int .i64 0, .int .i64 0, .slice none 0 0], []⟩ 8 (by kernel_rfl) (by kernel_rfl) (by kernel_rfl) (by kernel_rfl)) ?_
  intro W base args ds gs before hval0 hW hcnd hsz0 _
  have hval : ∀ (j : Nat) t v, Tryz.f4.params[j]? = some t → args[j]? = some v → Value.okWide Tryz.prog W .any base t v := hval0
  have hsz : (DataW.weightsEach Tryz.prog (Tryz.f4.params.toList ++ Rows.voteSnapsSpec.plain.varTypes Tryz.prog) (ds ++ gs)).all (· ≤ reachBytes) = true := hsz0
  have hW' := hW
  obtain ⟨p, q, hA0, hV, rfl, hfz, hnd⟩ := hW
  have hA : DataW.TrodAll enc Tryz.prog W 0 (fun _ => true) true Tryz.f4.params.toList args.toList ds p := hA0
  rw [Tryz.params4] at hA hval hsz
  obtain ⟨v0, vs0, d0, ds0, p0, q0, hargs, rfl, rfl, h0, r0⟩ := trodAll_cons hA
  obtain ⟨v1, vs1, d1, ds1, p1, q1, rfl, rfl, rfl, h1, r1⟩ := trodAll_cons r0
  obtain ⟨v2, vs2, d2, ds2, p2, q2, rfl, rfl, rfl, h2, r2⟩ := trodAll_cons r1
  obtain ⟨v3, vs3, d3, ds3, p3, q3, rfl, rfl, rfl, h3, r3⟩ := trodAll_cons r2
  obtain ⟨rfl, rfl, rfl⟩ := trodAll_nil r3
  obtain rfl : args = #[v0, v1, v2, v3] := by cases args; simp_all
  obtain ⟨rfl, rfl⟩ := trodVars_none hV
  obtain ⟨A0, n0, c0, rfl⟩ := okWide_slice Tryz.underlying39 (hval 0 39 v0 rfl rfl)
  have k0 := h0
  have lt0 : ∀ x ∈ p0, x.block < W.heap.size := by obtain ⟨m, hm⟩ := k0; exact DataW.trod_lt m _ _ _ hm
  have wt0 : ∀ n ∈ d0.weights Tryz.prog 39, n ≤ reachBytes := fun n hn => by have := List.all_eq_true.1 hsz n (DataW.weights_mem_each (j := 0) rfl rfl n hn); simpa using this
  obtain ⟨a1, rfl, rfl, rfl, wa1⟩ := open_int Tryz.underlying3 (hval 1 3 v1 rfl rfl) h1
  obtain ⟨a2, rfl, rfl, rfl, wa2⟩ := open_int Tryz.underlying3 (hval 2 3 v2 rfl rfl) h2
  obtain ⟨A3, n3, c3, rfl⟩ := okWide_slice Tryz.underlying23 (hval 3 23 v3 rfl rfl)
  have k3 := h3
  have lt3 : ∀ x ∈ p3, x.block < W.heap.size := by obtain ⟨m, hm⟩ := k3; exact DataW.trod_lt m _ _ _ hm
  have wt3 : ∀ n ∈ d3.weights Tryz.prog 23, n ≤ reachBytes := fun n hn => by have := List.all_eq_true.1 hsz n (DataW.weights_mem_each (j := 3) rfl rfl n hn); simpa using this
  clear hA0 hval0
  obtain ⟨bs0, hn0, hlc0, hbs0⟩ : ∃ ls : List (List UInt8), n0 = ls.length ∧ ls.length ≤ maxLen ∧ BssAt W W.heap.size A0 ls := by
    obtain ⟨m, hm⟩ := k0
    obtain ⟨B, e, ls, he, g0, g1, g2, g3⟩ := OpenB.open_bss hm
    have he' : [Value.slice A0 n0 c0] = [Value.slice B ls.length e] := he
    simp only [List.cons.injEq, Value.slice.injEq, and_true] at he'
    obtain ⟨rfl, rfl, rfl⟩ := he'
    exact ⟨ls, rfl, by omega, g3⟩
  subst hn0
  have ha1 := in64_of_wf wa1
  have ha2 := in64_of_wf wa2
  obtain ⟨ks3, hn3, hl3, hks3⟩ : ∃ ls : List (ByteArray × Int), n3 = ls.length ∧ ls.length ≤ 5864062014805 ∧ KeepsAt W (fun b => b < W.heap.size) A3 ls := by
    obtain ⟨m, hm⟩ := k3
    obtain ⟨B, e, ls, he, g1, g2⟩ := open_keeps hm wt3
    have he' : [Value.slice A3 n3 c3] = [Value.slice B ls.length e] := he
    simp only [List.cons.injEq, Value.slice.injEq, and_true] at he'
    obtain ⟨rfl, rfl, rfl⟩ := he'
    exact ⟨ls, rfl, g1, g2⟩
  subst hn3
  refine (walk A0 c0 bs0 a1 a2 A3 c3 ks3 W hbs0 hlc0 ha1 ha2 hks3 hl3).mono fun e W' ⟨he, bel⟩ => ?_
  subst he
  exact ⟨_, rfl, _, _, _, [], _, [], hW', trodAll_mk1 (shut_bool Tryz.underlying4 _), (trodAll_cons_mk (Below.trod laidOut (by kernel_rfl) (of_decide_eq_true (by kernel_rfl)) k0 bel lt0) (trodAll_cons_mk (shut_int Tryz.underlying3 wa1) (trodAll_cons_mk (shut_int Tryz.underlying3 wa2) (trodAll_cons_mk (Below.trod laidOut (by kernel_rfl) (of_decide_eq_true (by kernel_rfl)) k3 bel lt3) trodAll_mk0)))), rfl, bel.frame _, fun h => by cases h⟩

/-- The statement. -/
theorem proved : Rows.VoteSnapsSaid :=
  OpenClaim.holds_of_wide 4 Tryz.f4 rfl rfl rfl rfl rfl rfl rfl ⟨rfl, rfl, rfl, rfl, rfl⟩ rfl rfl rfl rfl rfl (by kernel_rfl) Tryz.func4 (by kernel_rfl)
    (of_decide_eq_true (by kernel_rfl)) (by unfold Func.isWrapper; first | (rw [if_pos (by decide +kernel)]; kernel_rfl) | (rw [if_neg (by decide +kernel)]; exact ⟨rfl, rfl⟩))
    (fun os started H enc _ => lifted os started H enc)

end Go.Proofs.YtflkaladkbkbgaaGreat.VSnaps
