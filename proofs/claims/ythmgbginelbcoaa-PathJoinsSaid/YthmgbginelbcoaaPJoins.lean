/- Whichever steps are put behind others, the answer is the document's. No conditions. -/
import Derived.Test.YthmgbginelbcoaaPathL
import Derived.Test.YthmgbginelbcoaaOpenS
import Derived.SizedLaws
import Derived.ProofKit
import Derived.OpenShut
import Derived.ShutString
import Derived.ChangeOld
import Derived.Below
import Derived.Deep.Slices
namespace Go.Proofs.Ythmgbginelbcoaa.PJoins
set_option linter.unusedVariables false
set_option linter.unusedSimpArgs false
open Go.ChangeShapes Go.WideShapes Go.ChangeAt Go.RowKit Go.Joins Go.Deep
open Go.ChangeMaps (open_string shut_string)
set_option linter.unusedVariables false

theorem own : ownKnob Try.prog.godebug = none := by kernel_rfl
theorem laidOut : laidOutB Try.prog = true := by kernel_rfl

set_option maxHeartbeats 4000000 in
theorem walk (A B : Option Addr) (c d : Nat) (a b : List ByteArray) (w : World) (h : Kp w A a) (k : Kp w B b) (hc : a.length ≤ c) (hd : b.length ≤ d) (hA : A = none → c = 0) (hB : B = none → d = 0) (hn : a.length ≤ 8796093021952) (hm : b.length ≤ 8796093021952) :
    Calls Try.prog 7 #[.slice A a.length c, .slice B b.length d] w fun e w' => e = .returned (.bool true) ∧ Below w.heap.size w w' := by
  obtain ⟨i0, hi, hz0, hz1, hz2⟩ := info_parts Try.infoStrP
  have K0 := Lib.hid h
  have L0 := Lib.hid k
  have HC := Lib.hid hc
  have HD := Lib.hid hd
  have HA := Lib.hid hA
  have HB := Lib.hid hB
  clear h k hc hd hA hB
  by_cases h1 : 50 < a.length
  · have h1' : (50 : Int) < (a.length : Int) := by omega
    clear h1
    go_enter Try.func7, Try.ntmps7
    go_wp2_with fail
    refine (lives4_any _).mono ?_
    rintro e w9 ⟨rfl, hb⟩
    have HB9 := Lib.hid hb
    clear hb
    go_wp2_with fail
    go_ret
    exact ⟨rfl, HB9.out⟩
  · have h1' : (a.length : Int) ≤ 50 := by omega
    by_cases h2 : 50 < b.length
    · have h2' : (50 : Int) < (b.length : Int) := by omega
      clear h1 h2
      go_enter Try.func7, Try.ntmps7
      go_wp2_with fail
      refine (lives4_any _).mono ?_
      rintro e w9 ⟨rfl, hb⟩
      have HB9 := Lib.hid hb
      clear hb
      go_wp2_with fail
      go_ret
      exact ⟨rfl, HB9.out⟩
    · have h2' : (b.length : Int) ≤ 50 := by omega
      have HL : Hid (a.length ≤ 50 ∧ b.length ≤ 50) := ⟨by omega, by omega⟩
      clear h1 h2
      obtain ⟨ns, hns⟩ : ∃ ns, ns = a ++ b := ⟨_, rfl⟩
      have hbeg : begP a ns = true := by subst hns; unfold begP; simp
      have hsz : ∀ s ∈ ns, s.size ≤ 140737488351232 := fun s hs => by
        rw [hns] at hs
        rcases List.mem_append.1 hs with h | h
        · exact K0.out.sizes s h
        · exact L0.out.sizes s h
      have hnl : ns.length = a.length + b.length := by rw [hns]; simp
      have HN := Lib.hid hns
      have HG := Lib.hid hbeg
      have HSZ := Lib.hid hsz
      have HNL : Hid (ns.length ≤ 140737488351232) := by show ns.length ≤ 140737488351232; omega
      have HAL : Hid (a.length ≤ 140737488351232) := by show a.length ≤ 140737488351232; omega
      clear hns hbeg hsz hnl
      cases hp : mayP ns with
      | false =>
        have HP := Lib.hid hp
        clear hp
        go_enter Try.func7, Try.ntmps7
        go_wp2_with (at_make; go_must (refine wpList_make_own _ rfl _ _ 23 rfl w.heap.size 9 i0 (.string ByteArray.empty) 1 Try.underlying23 hi hz0 hz1 _ _ _ (a.length + 9) rfl rfl ?b0 ?b1 ?b2 ?b3 ?_))
        case b0 => omega
        case b1 => rw [hz2]; omega
        case b2 => unfold maxLen; omega
        case b3 => exact Nat.le_refl _
        intro w1 hown hg
        have HO1 : Hid (OwnS w1 w.heap.size (.slice (some ⟨w.heap.size, 0, none⟩) 0 (a.length + 9)) []) := hown
        have HB1 := Lib.hid ((Below.refl w.heap.size w).grown hg (Nat.le_refl _) (fun g hgo => by cases hgo))
        have hsz1 := HB1.out.size
        clear hown hg
        go_wp2_with (at_builtin; go_must (refine wpList_append_strs rfl _ _ rfl w.heap.size _ [] rfl HO1.out A c a _ rfl HA.out (StrsAt.later K0.out HB1.out) hsz1 (by simp; omega) ?_))
        intro v2 w2 hv hg
        try rw [List.nil_append] at hv
        have HB2 := Lib.hid (HB1.out.grown hg hsz1 (fun g hgo => by simp [Value.ownBlock] at hgo; omega))
        obtain ⟨A2, c2, rfl, hc2, hA2, hj2⟩ := hv.opens2 K0.out.sizes
        have J2 := Lib.hid hj2
        have HA2 := Lib.hid hA2
        clear hj2 hA2 hc2 hv hg HO1 HB1
        go_wp2_with fail
        refine (join_any ns A2 B c2 d a b HN.out _ _ _ J2.out (StrsAt.later L0.out HB2.out) (fun _ h => h) (fun _ h => Nat.lt_of_lt_of_le h HB2.out.size) (by have := HL.out; omega) (by have := HL.out; omega) HA2.out HB.out HSZ.out).mono ?_
        rintro e w3 ⟨hy, hno⟩
        obtain ⟨rfl, hb⟩ := hno HP.out
        have HB3 := Lib.hid (grow_trans HB2.out hb)
        have J3 := Lib.hid (J2.out.later hb)
        clear hy hno hb J2 HB2
        go_wp2_with (at_builtin; go_must (refine wpList_append_strs rfl _ _ rfl w3.heap.size _ [] rfl (own_none w3 _ rfl) A c a _ rfl HA.out ((StrsAt.later K0.out HB3.out).later ((below_one w3 _).mono HB3.out.size)) (by simp) (by simp; omega) ?_))
        intro v4 w4 hv hg
        try rw [List.nil_append] at hv
        have HX4 := Lib.hid ((below_one w3 (.cells #[] 9)).grown hg (by simp) (fun g hgo => by simp [Value.ownBlock] at hgo; omega))
        have HO4 := Lib.hid hv
        have hz4 := HX4.out.size
        clear hv hg
        go_wp2_with (at_builtin; go_must (refine wpList_append_strs rfl _ _ rfl w3.heap.size _ a rfl HO4.out B d b _ rfl HB.out (StrsAt.later L0.out (grow_trans HB3.out HX4.out)) hz4 (by have := HL.out; omega) ?_))
        intro v5 w5 hv hg
        rw [← HN.out] at hv
        have HX5 := Lib.hid (HX4.out.grown hg hz4 (fun g hgo => (World.ownsRow.lt HO4.out g hgo).1))
        obtain ⟨A5, c5, rfl, hc5, hA5, hm5⟩ := hv.opens2 HSZ.out
        have HB5 := Lib.hid (grow_trans HB3.out HX5.out)
        have M5 := Lib.hid hm5
        have K5 : Hid (Kp w5 A a) := StrsAt.imp (StrsAt.later K0.out HB5.out) fun b h => Nat.lt_of_lt_of_le h HB5.out.size
        have J5 := Lib.hid (J3.out.later HX5.out)
        clear hv hg hm5 hA5 hc5 HO4 J3 HB3 HX4 HX5
        go_wp2_with fail
        refine (lives4_any _).mono ?_
        rintro e w6 ⟨rfl, hb⟩
        have HBw6 := Lib.hid (grow_trans HB5.out hb)
        have M6 := Lib.hid (M5.out.later hb)
        have K6 := Lib.hid (K5.out.later hb)
        have J6 := Lib.hid (J5.out.later hb)
        clear hb M5 K5 J5
        go_wp2_with fail
        refine (rsame_any A2 A c2 c a a _ _ _ J6.out K6.out (fun _ h => h) (fun _ h => h) HAL.out HAL.out).mono ?_
        rintro e w7 ⟨rfl, hb⟩
        rw [decide_eq_true (rfl : a = a)]
        have HBw7 := Lib.hid (grow_trans HBw6.out hb)
        have M7 := Lib.hid (M6.out.later hb)
        have K7 := Lib.hid (K6.out.later hb)
        clear hb M6 K6
        go_wp2_with fail
        refine (rmay_any A5 c5 ns _ _ M7.out HNL.out).mono ?_
        rintro e u ⟨rfl, rfl⟩
        rw [HP.out]
        go_wp2_with fail
        go_ret
        exact ⟨by simp, HBw7.out⟩
      | true =>
        have HP := Lib.hid hp
        clear hp
        go_enter Try.func7, Try.ntmps7
        go_wp2_with (at_make; go_must (refine wpList_make_own _ rfl _ _ 23 rfl w.heap.size 9 i0 (.string ByteArray.empty) 1 Try.underlying23 hi hz0 hz1 _ _ _ (a.length + 9) rfl rfl ?b0 ?b1 ?b2 ?b3 ?_))
        case b0 => omega
        case b1 => rw [hz2]; omega
        case b2 => unfold maxLen; omega
        case b3 => exact Nat.le_refl _
        intro w1 hown hg
        have HO1 : Hid (OwnS w1 w.heap.size (.slice (some ⟨w.heap.size, 0, none⟩) 0 (a.length + 9)) []) := hown
        have HB1 := Lib.hid ((Below.refl w.heap.size w).grown hg (Nat.le_refl _) (fun g hgo => by cases hgo))
        have hsz1 := HB1.out.size
        clear hown hg
        go_wp2_with (at_builtin; go_must (refine wpList_append_strs rfl _ _ rfl w.heap.size _ [] rfl HO1.out A c a _ rfl HA.out (StrsAt.later K0.out HB1.out) hsz1 (by simp; omega) ?_))
        intro v2 w2 hv hg
        try rw [List.nil_append] at hv
        have HB2 := Lib.hid (HB1.out.grown hg hsz1 (fun g hgo => by simp [Value.ownBlock] at hgo; omega))
        obtain ⟨A2, c2, rfl, hc2, hA2, hj2⟩ := hv.opens2 K0.out.sizes
        have J2 := Lib.hid hj2
        have HA2 := Lib.hid hA2
        clear hj2 hA2 hc2 hv hg HO1 HB1
        go_wp2_with fail
        refine (join_any ns A2 B c2 d a b HN.out _ _ _ J2.out (StrsAt.later L0.out HB2.out) (fun _ h => h) (fun _ h => Nat.lt_of_lt_of_le h HB2.out.size) (by have := HL.out; omega) (by have := HL.out; omega) HA2.out HB.out HSZ.out).mono ?_
        rintro e w3 ⟨hy, hno⟩
        obtain ⟨Q3, q3, rfl, hq3, hst, hb⟩ := hy HP.out
        have Q3k : Hid (Kp w3 Q3 ns) := hst.imp fun b h => h.2
        have HQ3 := Lib.hid hq3
        clear hst hq3
        have HB3 := Lib.hid (grow_trans HB2.out hb)
        have J3 := Lib.hid (J2.out.later hb)
        clear hy hno hb J2 HB2
        go_wp2_with (at_builtin; go_must (refine wpList_append_strs rfl _ _ rfl w3.heap.size _ [] rfl (own_none w3 _ rfl) A c a _ rfl HA.out ((StrsAt.later K0.out HB3.out).later ((below_one w3 _).mono HB3.out.size)) (by simp) (by simp; omega) ?_))
        intro v4 w4 hv hg
        try rw [List.nil_append] at hv
        have HX4 := Lib.hid ((below_one w3 (.cells #[] 9)).grown hg (by simp) (fun g hgo => by simp [Value.ownBlock] at hgo; omega))
        have HO4 := Lib.hid hv
        have hz4 := HX4.out.size
        clear hv hg
        go_wp2_with (at_builtin; go_must (refine wpList_append_strs rfl _ _ rfl w3.heap.size _ a rfl HO4.out B d b _ rfl HB.out (StrsAt.later L0.out (grow_trans HB3.out HX4.out)) hz4 (by have := HL.out; omega) ?_))
        intro v5 w5 hv hg
        rw [← HN.out] at hv
        have HX5 := Lib.hid (HX4.out.grown hg hz4 (fun g hgo => (World.ownsRow.lt HO4.out g hgo).1))
        obtain ⟨A5, c5, rfl, hc5, hA5, hm5⟩ := hv.opens2 HSZ.out
        have HB5 := Lib.hid (grow_trans HB3.out HX5.out)
        have M5 := Lib.hid hm5
        have K5 : Hid (Kp w5 A a) := StrsAt.imp (StrsAt.later K0.out HB5.out) fun b h => Nat.lt_of_lt_of_le h HB5.out.size
        have J5 := Lib.hid (J3.out.later HX5.out)
        have Q5 := Lib.hid (Q3k.out.later HX5.out)
        clear Q3k
        clear hv hg hm5 hA5 hc5 HO4 J3 HB3 HX4 HX5
        go_wp2_with fail
        refine (lives4_any _).mono ?_
        rintro e w6 ⟨rfl, hb⟩
        have HBw6 := Lib.hid (grow_trans HB5.out hb)
        have M6 := Lib.hid (M5.out.later hb)
        have K6 := Lib.hid (K5.out.later hb)
        have J6 := Lib.hid (J5.out.later hb)
        have Q6 := Lib.hid (Q5.out.later hb)
        clear hb M5 K5 J5 Q5
        go_wp2_with fail
        refine (rsame_any A2 A c2 c a a _ _ _ J6.out K6.out (fun _ h => h) (fun _ h => h) HAL.out HAL.out).mono ?_
        rintro e w7 ⟨rfl, hb⟩
        rw [decide_eq_true (rfl : a = a)]
        have HBw7 := Lib.hid (grow_trans HBw6.out hb)
        have M7 := Lib.hid (M6.out.later hb)
        have K7 := Lib.hid (K6.out.later hb)
        have Q7 := Lib.hid (Q6.out.later hb)
        clear hb M6 K6 Q6
        go_wp2_with fail
        refine (rmay_any A5 c5 ns _ _ M7.out HNL.out).mono ?_
        rintro e u ⟨rfl, rfl⟩
        rw [HP.out]
        go_wp2_with fail
        refine (rsame_any Q3 A5 q3 c5 ns ns _ _ _ Q7.out M7.out (fun _ h => h) (fun _ h => h) HNL.out HNL.out).mono ?_
        rintro e w8 ⟨rfl, hb⟩
        rw [decide_eq_true (rfl : ns = ns)]
        have HBw8 := Lib.hid (grow_trans HBw7.out hb)
        have K8 := Lib.hid (K7.out.later hb)
        have Q8 := Lib.hid (Q7.out.later hb)
        clear hb K7 Q7
        go_wp2_with fail
        refine (begins_any A Q3 c q3 a ns _ _ _ K8.out Q8.out (fun _ h => h) (fun _ h => h) HAL.out HNL.out HQ3.out).mono ?_
        rintro e w9 ⟨rfl, hb⟩
        rw [HG.out]
        have HBw9 := Lib.hid (grow_trans HBw8.out hb)
        clear hb 
        go_wp2_with fail
        go_ret
        exact ⟨by simp, HBw9.out⟩

set_option maxRecDepth 100000 in
theorem lifted (os : Os) (started : os.Started) (H : Type) (enc : TypeId × Value → H) :
    ReturnsInHanded {} Try.checked os 7 .any (Rows.pathJoinsSpec.pre6 enc Try.prog Try.f7 Rows.pathJoinsRow.domain false) (Rows.pathJoinsSpec.post enc Try.prog Try.f7 false true false false) := by
  refine returnsInHanded_of_change_sized (C := Try.checked) own started (by kernel_rfl) Try.func7
    (ChangeSpec.witness6 (enc := enc) (C := Try.checked) false ⟨#[], #[.slice none 0 0, .slice none 0 0], []⟩ 8 (by kernel_rfl) (by kernel_rfl) (by kernel_rfl) (by kernel_rfl)) ?_
  intro W base args ds gs before hval0 hW hcnd hsz0 _
  have hval : ∀ (j : Nat) t v, Try.f7.params[j]? = some t → args[j]? = some v → Value.okWide Try.prog W .any base t v := hval0
  have hsz : (DataW.weightsEach Try.prog (Try.f7.params.toList ++ Rows.pathJoinsSpec.plain.varTypes Try.prog) (ds ++ gs)).all (· ≤ reachBytes) = true := hsz0
  have hW' := hW
  obtain ⟨p, q, hA0, hV, rfl, hfz, hnd⟩ := hW
  have hA : DataW.TrodAll enc Try.prog W 0 (fun _ => true) true Try.f7.params.toList args.toList ds p := hA0
  rw [Try.params7] at hA hval hsz
  obtain ⟨v0, v1, d0, d1, p0, p1, rfl, rfl, rfl, h0, h1⟩ := trodAll_two hA
  obtain ⟨rfl, rfl⟩ := trodVars_none hV
  obtain ⟨A0, n0, c0, rfl⟩ := okWide_slice Try.underlying23 (hval 0 23 v0 rfl rfl)
  have k0 := h0
  have lt0 : ∀ x ∈ p0, x.block < W.heap.size := by obtain ⟨m, hm⟩ := k0; exact DataW.trod_lt m _ _ _ hm
  have wt0 : ∀ n ∈ d0.weights Try.prog 23, n ≤ reachBytes := fun n hn => by have := List.all_eq_true.1 hsz n (DataW.weights_mem_each (j := 0) rfl rfl n hn); simpa using this
  obtain ⟨A1, n1, c1, rfl⟩ := okWide_slice Try.underlying23 (hval 1 23 v1 rfl rfl)
  have k1 := h1
  have lt1 : ∀ x ∈ p1, x.block < W.heap.size := by obtain ⟨m, hm⟩ := k1; exact DataW.trod_lt m _ _ _ hm
  have wt1 : ∀ n ∈ d1.weights Try.prog 23, n ≤ reachBytes := fun n hn => by have := List.all_eq_true.1 hsz n (DataW.weights_mem_each (j := 1) rfl rfl n hn); simpa using this
  clear hA0 hval0
  obtain ⟨ys0, hn0, hc0, ho0, hy0, hz0⟩ : ∃ ys : List ByteArray, n0 = ys.length ∧ ys.length ≤ c0 ∧ (A0 = none → c0 = 0) ∧ ys.length ≤ 8796093021952 ∧ StrsAt W (fun b => b < W.heap.size) A0 ys := by
    obtain ⟨m, hm⟩ := k0
    obtain ⟨B, e, ys, he, g0, g00, g1, g2⟩ := open_names2 hm wt0
    have he' : [Value.slice A0 n0 c0] = [Value.slice B ys.length e] := he
    simp only [List.cons.injEq, Value.slice.injEq, and_true] at he'
    obtain ⟨rfl, rfl, rfl⟩ := he'
    exact ⟨ys, rfl, g0, g00, g1, g2⟩
  subst hn0
  obtain ⟨ys1, hn1, hc1, ho1, hy1, hz1⟩ : ∃ ys : List ByteArray, n1 = ys.length ∧ ys.length ≤ c1 ∧ (A1 = none → c1 = 0) ∧ ys.length ≤ 8796093021952 ∧ StrsAt W (fun b => b < W.heap.size) A1 ys := by
    obtain ⟨m, hm⟩ := k1
    obtain ⟨B, e, ys, he, g0, g00, g1, g2⟩ := open_names2 hm wt1
    have he' : [Value.slice A1 n1 c1] = [Value.slice B ys.length e] := he
    simp only [List.cons.injEq, Value.slice.injEq, and_true] at he'
    obtain ⟨rfl, rfl, rfl⟩ := he'
    exact ⟨ys, rfl, g0, g00, g1, g2⟩
  subst hn1
  refine (walk A0 A1 c0 c1 ys0 ys1 W hz0 hz1 hc0 hc1 ho0 ho1 hy0 hy1).mono fun e W' ⟨he, bel⟩ => ?_
  subst he
  exact ⟨_, rfl, _, _, _, [], _, [], hW', trodAll_mk1 (shut_bool Try.underlying4 _), trodAll_mk2 (Below.trod laidOut (by kernel_rfl) (of_decide_eq_true (by kernel_rfl)) k0 bel lt0) (Below.trod laidOut (by kernel_rfl) (of_decide_eq_true (by kernel_rfl)) k1 bel lt1), rfl, bel.frame _, fun h => by cases h⟩

/-- The statement. -/
theorem proved : Rows.PathJoinsSaid :=
  OpenClaim.holds_of_wide 7 Try.f7 rfl rfl rfl rfl rfl rfl rfl ⟨rfl, rfl, rfl, rfl, rfl⟩ rfl rfl rfl rfl rfl (by kernel_rfl) Try.func7 (by kernel_rfl)
    (of_decide_eq_true (by kernel_rfl)) (by unfold Func.isWrapper; first | (rw [if_pos (by decide +kernel)]; kernel_rfl) | (rw [if_neg (by decide +kernel)]; exact ⟨rfl, rfl⟩))
    (fun os started H enc _ => lifted os started H enc)
end Go.Proofs.Ythmgbginelbcoaa.PJoins
