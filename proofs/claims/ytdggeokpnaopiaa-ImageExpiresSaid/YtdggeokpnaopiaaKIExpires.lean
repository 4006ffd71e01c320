/- What was noted is got until as many others as are kept were noted behind it; then it is expired. No conditions. -/
import Derived.Test.YtdggeokpnaopiaaKImK
import Derived.Test.YtdggeokpnaopiaaKOpenI
import Derived.SizedLaws
import Derived.ProofKit
import Derived.OpenShut
import Derived.ShutString
import Derived.ChangeOld
import Derived.Below
namespace Go.Proofs.Ytdggeokpnaopiaa.IExpires
set_option linter.unusedVariables false
set_option linter.unusedSimpArgs false
open Go.ChangeShapes Go.WideShapes Go.ChangeAt Go.RowKit Go.Joins
set_option linter.unusedVariables false

theorem own : ownKnob Try.prog.godebug = none := by kernel_rfl
theorem laidOut : laidOutB Try.prog = true := by kernel_rfl

set_option maxHeartbeats 16000000 in
set_option maxRecDepth 100000 in
theorem walk (keep : Int) (t : VT) (v : Value) (n : Int) (w : World) (hv : LV w (fun b => b < w.heap.size) t v) (hn : n ≤ 9223372036854775807) : Calls Try.prog 6 #[.int .i64 keep, v, .int .i64 n] w fun e w' => e = .returned (.bool true) ∧ Below w.heap.size w w' := by
  obtain ⟨A0, c0, A0', c0', rfl, -, -, -, v1, hb0⟩ := one_var (fun _ h => h) hv
  obtain ⟨u, hu⟩ : ∃ W, W = w.alloc (.cells #[.int .i64 t.kind, .int .i64 t.num, .string t.text, .slice A0 t.items.length c0, .slice A0' t.names.length c0'] 36) := ⟨_, rfl⟩
  rw [← hu] at v1 hb0
  have HU := Lib.hid hu
  have HBU := Lib.hid hb0
  have HV := Lib.hid v1
  have HSZ : Hid (largeT t = false → sizeT t ≤ 9223372036854775807) := Lib.hid (size_small hv)
  clear hu hv hb0 v1
  go_enter Try.func6, Try.ntmps6
  by_cases hm : mayI keep 0 = true
  · have hk0 : 0 ≤ keep := by have h := (new_fine hm).k0; exact h
    have hk64 : keep ≤ 64 := by have h := (new_fine hm).k1; exact h
    have HM := Lib.hid hm
    clear hm
    go_wp2_with fail
    rw [← HU.out]
    refine (inew_any keep 0 u HM.out).mono ?_
    rintro e w1 h1
    obtain ⟨rfl, l1⟩ := ImL.made (W := u) (Below.refl _ _) h1 (new_fine HM.out) (new_good _ _)
    have L1 := Lib.hid l1
    obtain ⟨G, hG⟩ : ∃ G, G = u.heap.size := ⟨_, rfl⟩
    rw [← hG] at L1 ⊢
    clear h1 l1 hG
    go_wp2_with fail
    refine (lives16_any w1).mono ?_
    rintro e w2 ⟨rfl, hb2⟩
    have L2 := Lib.hid (L1.out.stay hb2)
    clear hb2 L1
    go_wp2_with fail
    refine (rmay16_any keep 0 w2).mono ?_
    rintro e w3 ⟨rfl, rfl⟩
    rw [HM.out]
    by_cases hn0 : n < 0
    · go_wp2_with fail
      refine (lives16_any _).mono ?_
      rintro e wz ⟨rfl, hbz⟩
      have HBZ := Lib.hid (L2.out.below.trans (hbz.mono L2.out.below.size))
      clear hbz
      go_wp2_with fail
      go_ret
      exact ⟨rfl, HBU.out.trans (HBZ.out.mono HBU.out.size)⟩
    by_cases hn1 : 100 < n
    · go_wp2_with fail
      refine (lives16_any _).mono ?_
      rintro e wz ⟨rfl, hbz⟩
      have HBZ := Lib.hid (L2.out.below.trans (hbz.mono L2.out.below.size))
      clear hbz
      go_wp2_with fail
      go_ret
      exact ⟨rfl, HBU.out.trans (HBZ.out.mono HBU.out.size)⟩
    have hv2 := HV.out.call L2.out.below
    have q0 := hv2.x.c0
    have q1 := hv2.x.c1
    have q2 := hv2.x.c2
    have q3 := hv2.x.c3
    have q4 := hv2.x.c4
    have HV2 := Lib.hid hv2
    clear hv2
    cases hl : largeT t with
    | true =>
      have HL := Lib.hid hl
      clear hl
      go_wp2_with fail
      refine (large_any _ t _ _ HV2.out.s HV2.out.v).mono ?_
      rintro e w3 ⟨rfl, hb3⟩
      rw [HL.out]
      have L3 := Lib.hid (L2.out.stay hb3)
      clear q0 q1 q2 q3 q4 HV2 hb3 L2
      go_wp2_with fail
      refine (lives16_any w3).mono ?_
      rintro e wz ⟨rfl, hbz⟩
      have HBZ := Lib.hid (L3.out.below.trans (hbz.mono L3.out.below.size))
      clear hbz
      go_wp2_with fail
      go_ret
      exact ⟨rfl, HBU.out.trans (HBZ.out.mono HBU.out.size)⟩
    | false =>
      have HL := Lib.hid hl
      clear hl
      go_wp2_with fail
      refine (large_any _ t _ _ HV2.out.s HV2.out.v).mono ?_
      rintro e w3 ⟨rfl, hb3⟩
      rw [HL.out]
      have L3 := Lib.hid (L2.out.stay hb3)
      have hv3 := HV2.out.call hb3
      clear q0 q1 q2 q3 q4 HV2 hb3 L2
      have q0 := hv3.x.c0
      have q1 := hv3.x.c1
      have q2 := hv3.x.c2
      have q3 := hv3.x.c3
      have q4 := hv3.x.c4
      have HV3 := Lib.hid hv3
      clear hv3
      go_wp2_with fail
      refine (rcheck_any _ t _ _ (Nat.le_trans (depth_small HL.out) (by decide)) HV3.out.s HV3.out.v).mono ?_
      rintro e w4 ⟨rfl, hb4⟩
      have L4 := Lib.hid (L3.out.stay hb4)
      have hv4 := HV3.out.call hb4
      clear q0 q1 q2 q3 q4 HV3 hb4 L3
      by_cases hc : checkT t = 0
      · rw [hc]
        have HC := Lib.hid hc
        have q0 := hv4.x.c0
        have q1 := hv4.x.c1
        have q2 := hv4.x.c2
        have q3 := hv4.x.c3
        have q4 := hv4.x.c4
        have HV4 := Lib.hid hv4
        clear hv4 hc
        have HSG : Hid (∀ b, b < w.heap.size → b ≠ G) := Lib.hid fun b hb => by have := L4.out.new; have := HBU.out.size; omega
        have HN := Lib.hid (inote_any true L4.out.at_ L4.out.fine NearS.lt NearS.self HV4.out.s (fun h => HSG.out G h rfl) HV4.out.v (dep_ok HL.out) (fun _ => HC.out))
        go_wp2_with fail
        refine HN.out.mono ?_
        rintro e w5 hn5
        obtain ⟨rfl, l5⟩ := L4.out.noted hn5 (by show (0 : Int) < _; omega) (fun x hx => by injection hx with hx; subst hx; exact ⟨HC.out, HSZ.out HL.out⟩)
        have L5 := Lib.hid l5
        have HE5 := Lib.hid (exp_first hk0 t)
        clear hn5 l5 HN L4 HV4 q0 q1 q2 q3 q4
        simp only [if_true] at L5
        obtain ⟨n, rfl⟩ : ∃ k : Nat, n = (k : Int) := ⟨n.toNat, by omega⟩
        go_wp2_with fail
        go_loopw [9] (fun i wr => ∃ (k : Nat) (m : ImT), i = .int .i64 k ∧ k ≤ n ∧ Hid (ImL u wr G m) ∧ Hid (Exp keep t k m)) (fun i _ => n - (intOf i).toNat)
        case atStart => exact ⟨0, _, rfl, by omega, L5, HE5⟩
        case round =>
          clear L5 HE5
          obtain ⟨k, m, rfl, hk, L, E⟩ := hrel
          by_cases hlt : k < n
          · have htop : m.top < 4611686018427387904 := by rw [E.out.2.2.1]; omega
            have HN := Lib.hid (inote_any false (v := .agg #[.int .i64 0, .int .i64 0, .string eS, .slice none 0 0, .slice none 0 0]) L.out.at_ L.out.fine NearS.lt NearS.self (S' := fun _ => False) (fun _ h => h.elim) (fun h => h) (zero_lv wr _) (by decide) (fun h => by cases h))
            have HT := Lib.hid htop
            clear htop
            go_wp2_with fail
            refine HN.out.mono ?_
            rintro e w6 hn6
            obtain ⟨rfl, l6⟩ := L.out.noted (o := none) hn6 HT.out (fun x hx => by cases hx)
            have L6 := Lib.hid l6
            have E6 := Lib.hid (exp_next hk0 E.out)
            clear hn6 l6 HN
            go_wp2_with fail
            go_roundw
            case rel => exact ⟨k + 1, _, by go_num, by omega, L6, E6⟩
            case measure => simp [intOf]; omega
          · obtain rfl : k = n := by omega
            have HG := Lib.hid (iget_any L.out.at_ L.out.fine NearS.lt 1)
            by_cases hkn : keep ≤ (k : Int)
            · have hg := exp_gone E.out hkn
              have HGG : Hid (Calls Try.prog 27 #[.pointer (some ⟨G, 0, none⟩), .int .i64 1] wr fun e w' => ∃ v, e = .returned (.tuple #[v, .int .i64 3, .int .i64 0]) ∧ LV w' (New wr.heap.size w') zeroT v ∧ Below wr.heap.size wr w') := Lib.hid (HG.out.mono fun e w' ⟨v, h1, h2, h3⟩ => by rw [hg] at h1 h2; exact ⟨v, h1, h2, h3⟩)
              clear hg HG
              go_wp2_with fail
              refine HGG.out.mono ?_
              rintro e w7 ⟨v7, rfl, hv7, hb7⟩
              obtain ⟨A, c, A', c', hs7, -⟩ := hv7.shape
              have hs7 : v7 = .agg #[.int .i64 0, .int .i64 0, .string eS, .slice A 0 c, .slice A' 0 c'] := hs7
              subst hs7
              have hb8 := below_box (w := w7) (.cells #[.int .i64 0, .int .i64 0, .string eS, .slice A 0 c, .slice A' 0 c'] 36)
              have hx8 : Box (w7.alloc (.cells #[.int .i64 0, .int .i64 0, .string eS, .slice A 0 c, .slice A' 0 c'] 36)) w7.heap.size _ _ _ _ _ := Box.new _ _ _ _ _
              have L8 := Lib.hid ((L.out.stay hb7).stay hb8).below
              have y0 := hx8.c0
              clear hv7 hb7 hb8 hx8 HGG L
              go_wp2_with fail
              go_ret
              exact ⟨rfl, HBU.out.trans (L8.out.mono HBU.out.size)⟩
            · have hg := exp_here E.out (by omega)
              have HGG : Hid (Calls Try.prog 27 #[.pointer (some ⟨G, 0, none⟩), .int .i64 1] wr fun e w' => ∃ v, e = .returned (.tuple #[v, .int .i64 2, .int .i64 0]) ∧ LV w' (New wr.heap.size w') t v ∧ Below wr.heap.size wr w') := Lib.hid (HG.out.mono fun e w' ⟨v, h1, h2, h3⟩ => by rw [hg] at h1 h2; exact ⟨v, h1, h2, h3⟩)
              clear hg HG
              go_wp2_with fail
              refine HGG.out.mono ?_
              rintro e w7 ⟨v7, rfl, hv7, hb7⟩
              obtain ⟨A, c, A', c', rfl, -⟩ := hv7.shape
              have hv8 := Vr.new (fun b hb => hb.2) hv7
              have hb8 := below_box (w := w7) (.cells #[.int .i64 t.kind, .int .i64 t.num, .string t.text, .slice A t.items.length c, .slice A' t.names.length c'] 36)
              have L8 := Lib.hid ((L.out.stay hb7).stay hb8).below
              have hx8 := HV.out.call L8.out
              have y0 := hv8.x.c0
              have y1 := hv8.x.c1
              have y2 := hv8.x.c2
              have y3 := hv8.x.c3
              have y4 := hv8.x.c4
              have z0 := hx8.x.c0
              have z1 := hx8.x.c1
              have z2 := hx8.x.c2
              have z3 := hx8.x.c3
              have z4 := hx8.x.c4
              have HS := Lib.hid (rsame_any (fun b => b < (w7.alloc (.cells #[.int .i64 t.kind, .int .i64 t.num, .string t.text, .slice A t.items.length c, .slice A' t.names.length c'] 36)).heap.size) (depthT t) t t _ _ _ (Nat.le_refl _) (fun _ h => h) (hv8.v.imp hv8.s) (hx8.v.imp hx8.s))
              clear hv7 hb7 hb8 hv8 hx8 HGG L
              go_wp2_with fail
              refine HS.out.mono ?_
              rintro e w9 ⟨⟨r, rfl, hr⟩, hb9⟩
              obtain rfl : r = true := by simpa using hr
              have L9 := Lib.hid (L8.out.trans (hb9.mono L8.out.size))
              clear hr hb9 HS y0 y1 y2 y3 y4 z0 z1 z2 z3 z4
              go_wp2_with fail
              go_ret
              exact ⟨rfl, HBU.out.trans (L9.out.mono HBU.out.size)⟩
      · obtain ⟨x, hx⟩ : ∃ x, x = checkT t := ⟨_, rfl⟩
        rw [← hx] at hc ⊢
        have h2 : (x != 0) = true := by simp [hc]
        have h1 : (x == 0) = false := beq_false_of_ne hc
        clear hv4 hx
        go_wp2_with fail
        refine (lives16_any w4).mono ?_
        rintro e wz ⟨rfl, hbz⟩
        have HBZ := Lib.hid (L4.out.below.trans (hbz.mono L4.out.below.size))
        clear hbz
        go_wp2_with fail
        go_ret
        exact ⟨rfl, HBU.out.trans (HBZ.out.mono HBU.out.size)⟩
  · have HM : Hid (mayI keep 0 = false) := Lib.hid (by simpa using hm)
    clear hm
    go_wp2_with fail
    rw [← HU.out]
    refine (inew_bad keep 0 u HM.out).mono ?_
    rintro e w1 ⟨rfl, hb1⟩
    have HB1 := Lib.hid hb1
    clear hb1
    go_wp2_with fail
    refine (lives16_any w1).mono ?_
    rintro e w2 ⟨rfl, hb2⟩
    have HB2 := Lib.hid (HB1.out.trans (hb2.mono HB1.out.size))
    clear hb2 HB1
    go_wp2_with fail
    refine (rmay16_any keep 0 w2).mono ?_
    rintro e w3 ⟨rfl, rfl⟩
    rw [HM.out]
    go_wp2_with fail
    refine (lives16_any _).mono ?_
    rintro e wz ⟨rfl, hbz⟩
    have HBZ := Lib.hid (HB2.out.trans (hbz.mono HB2.out.size))
    clear hbz
    go_wp2_with fail
    go_ret
    exact ⟨rfl, HBU.out.trans (HBZ.out.mono HBU.out.size)⟩

set_option maxRecDepth 100000 in
theorem lifted (os : Os) (started : os.Started) (H : Type) (enc : TypeId × Value → H) :
    ReturnsInHanded {} Try.checked os 6 .any (Rows.imageExpiresSpec.pre6 enc Try.prog Try.f6 Rows.imageExpiresRow.domain false) (Rows.imageExpiresSpec.post enc Try.prog Try.f6 false true false false) := by
  refine returnsInHanded_of_change_sized (C := Try.checked) own started (by kernel_rfl) Try.func6
    (ChangeSpec.witness6 (enc := enc) (C := Try.checked) false ⟨#[], #[.int .i64 0, .agg #[.int .i64 0, .int .i64 0, .string ByteArray.empty, .slice none 0 0, .slice none 0 0], .int .i64 0], []⟩ 8 (by kernel_rfl) (by kernel_rfl) (by kernel_rfl) (by kernel_rfl)) ?_
  intro W base args ds gs before hval0 hW hcnd hsz0 _
  have hval : ∀ (j : Nat) t v, Try.f6.params[j]? = some t → args[j]? = some v → Value.okWide Try.prog W .any base t v := hval0
  have hsz : (DataW.weightsEach Try.prog (Try.f6.params.toList ++ Rows.imageExpiresSpec.plain.varTypes Try.prog) (ds ++ gs)).all (· ≤ reachBytes) = true := hsz0
  have hW' := hW
  obtain ⟨p, q, hA0, hV, rfl, hfz, hnd⟩ := hW
  have hA : DataW.TrodAll enc Try.prog W 0 (fun _ => true) true Try.f6.params.toList args.toList ds p := hA0
  rw [Try.params6] at hA hval hsz
  obtain ⟨v0, v1, v2, d0, d1, d2, p0, p1, p2, rfl, rfl, rfl, h0, h1, h2⟩ := trodAll_three hA
  obtain ⟨rfl, rfl⟩ := trodVars_none hV
  obtain ⟨a0, rfl, rfl, rfl, wa0⟩ := open_int Try.underlying3 (hval 0 3 v0 rfl rfl) h0
  obtain ⟨a1, rfl, -⟩ := okWide_struct Try.underlying36 (hval 1 36 v1 rfl rfl)
  have k1 := h1
  have lt1 : ∀ x ∈ p1, x.block < W.heap.size := by obtain ⟨m, hm⟩ := k1; exact DataW.trod_lt m _ _ _ hm
  have wt1 : ∀ n ∈ d1.weights Try.prog 36, n ≤ reachBytes := fun n hn => by have := List.all_eq_true.1 hsz n (DataW.weights_mem_each (j := 1) rfl rfl n hn); simpa using this
  obtain ⟨a2, rfl, rfl, rfl, wa2⟩ := open_int Try.underlying3 (hval 2 3 v2 rfl rfl) h2
  clear hA0 hval0
  have ha0 := in64_of_wf wa0
  obtain ⟨t1, ht1⟩ : ∃ t, LV W (fun b => b < W.heap.size) t (.agg a1) := by
    obtain ⟨m, hm⟩ := k1
    have h3 := open_val m _ _ hm wt1
    simpa [Value.cells] using h3
  have ha2 := in64_of_wf wa2
  refine (walk a0 t1 _ a2 W ht1 ha2.2).mono fun e W' ⟨he, bel⟩ => ?_
  subst he
  exact ⟨_, rfl, _, _, _, [], _, [], hW', trodAll_mk1 (shut_bool Try.underlying4 _), (trodAll_cons_mk (shut_int Try.underlying3 wa0) (trodAll_cons_mk (Below.trod laidOut (by kernel_rfl) (of_decide_eq_true (by kernel_rfl)) k1 bel lt1) (trodAll_cons_mk (shut_int Try.underlying3 wa2) trodAll_mk0))), rfl, bel.frame _, fun h => by cases h⟩

/-- The statement. -/
theorem proved : Rows.ImageExpiresSaid :=
  OpenClaim.holds_of_wide 6 Try.f6 rfl rfl rfl rfl rfl rfl rfl ⟨rfl, rfl, rfl, rfl, rfl⟩ rfl rfl rfl rfl rfl (by kernel_rfl) Try.func6 (by kernel_rfl)
    (of_decide_eq_true (by kernel_rfl)) (by unfold Func.isWrapper; first | (rw [if_pos (by decide +kernel)]; kernel_rfl) | (rw [if_neg (by decide +kernel)]; exact ⟨rfl, rfl⟩))
    (fun os started H enc _ => lifted os started H enc)

end Go.Proofs.Ytdggeokpnaopiaa.IExpires
