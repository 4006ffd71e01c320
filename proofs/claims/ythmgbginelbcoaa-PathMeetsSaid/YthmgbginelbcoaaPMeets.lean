/- Whichever two lists of steps are asked about, whether one begins the other and whether they meet is answered as the document says. No conditions. -/
import Derived.Test.YthmgbginelbcoaaPathL
import Derived.Test.YthmgbginelbcoaaOpenS
import Derived.SizedLaws
import Derived.ProofKit
import Derived.OpenShut
import Derived.ShutString
import Derived.ChangeOld
import Derived.Below
import Derived.Deep.Slices
namespace Go.Proofs.Ythmgbginelbcoaa.PMeets
set_option linter.unusedVariables false
set_option linter.unusedSimpArgs false
open Go.ChangeShapes Go.WideShapes Go.ChangeAt Go.RowKit Go.Joins Go.Deep
open Go.ChangeMaps (open_string shut_string)
set_option linter.unusedVariables false

theorem own : ownKnob Try.prog.godebug = none := by kernel_rfl
theorem laidOut : laidOutB Try.prog = true := by kernel_rfl

set_option maxHeartbeats 4000000 in
theorem walk (A B : Option Addr) (c d : Nat) (a b : List ByteArray) (w : World) (h : Kp w A a) (k : Kp w B b) (hc : a.length ≤ c) (hd : b.length ≤ d) (hn : a.length ≤ 8796093021952) (hm : b.length ≤ 8796093021952) :
    Calls Try.prog 6 #[.slice A a.length c, .slice B b.length d] w fun e w' => e = .returned (.bool true) ∧ Below w.heap.size w w' := by
  have K0 := Lib.hid h
  have L0 := Lib.hid k
  have HC := Lib.hid hc
  have HD := Lib.hid hd
  clear h k hc hd
  by_cases h1 : 100 < a.length
  · have h1' : (100 : Int) < (a.length : Int) := by omega
    clear h1
    go_enter Try.func6, Try.ntmps6
    go_wp2_with fail
    refine (lives4_any _).mono ?_
    rintro e w9 ⟨rfl, hb⟩
    have HB9 := Lib.hid hb
    clear hb
    go_wp2_with fail
    go_ret
    exact ⟨rfl, HB9.out⟩
  · have h1' : (a.length : Int) ≤ 100 := by omega
    by_cases h2 : 100 < b.length
    · have h2' : (100 : Int) < (b.length : Int) := by omega
      clear h1 h2
      go_enter Try.func6, Try.ntmps6
      go_wp2_with fail
      refine (lives4_any _).mono ?_
      rintro e w9 ⟨rfl, hb⟩
      have HB9 := Lib.hid hb
      clear hb
      go_wp2_with fail
      go_ret
      exact ⟨rfl, HB9.out⟩
    · have h2' : (b.length : Int) ≤ 100 := by omega
      clear h1 h2
      have ha : a.length ≤ 140737488351232 := by omega
      have hb' : b.length ≤ 140737488351232 := by omega
      have HA := Lib.hid ha
      have HB := Lib.hid hb'
      clear ha hb'
      obtain ⟨x, hx⟩ : ∃ x, x = begP a b := ⟨_, rfl⟩
      obtain ⟨y, hy⟩ : ∃ y, y = begP b a := ⟨_, rfl⟩
      have HX := Lib.hid hx
      have HY := Lib.hid hy
      clear hx hy
      cases x <;> cases y
      all_goals
        go_enter Try.func6, Try.ntmps6
        go_wp2_with fail
        refine (rbegins_any A B c d a b _ _ _ K0.out L0.out (fun _ h => h) (fun _ h => h) HA.out HB.out).mono ?_
        rintro e w1 ⟨rfl, hb⟩
        rw [← HX.out]
        have HBw1 := Lib.hid (grow_trans (Below.refl _ _) hb)
        have K1 := Lib.hid (K0.out.later hb)
        have L1 := Lib.hid (L0.out.later hb)
        clear hb K0 L0
        go_wp2_with fail
        refine (rbegins_any B A d c b a _ _ _ L1.out K1.out (fun _ h => h) (fun _ h => h) HB.out HA.out).mono ?_
        rintro e w2 ⟨rfl, hb⟩
        rw [← HY.out]
        have HBw2 := Lib.hid (grow_trans HBw1.out hb)
        have K2 := Lib.hid (K1.out.later hb)
        have L2 := Lib.hid (L1.out.later hb)
        clear hb K1 L1
        go_wp2_with fail
        refine (lives4_any _).mono ?_
        rintro e w3 ⟨rfl, hb⟩
        have HBw3 := Lib.hid (grow_trans HBw2.out hb)
        have K3 := Lib.hid (K2.out.later hb)
        have L3 := Lib.hid (L2.out.later hb)
        clear hb K2 L2
        go_wp2_with fail
        refine (begins_any A B c d a b _ _ _ K3.out L3.out (fun _ h => h) (fun _ h => h) HA.out HB.out HD.out).mono ?_
        rintro e w4 ⟨rfl, hb⟩
        rw [← HX.out]
        have HBw4 := Lib.hid (grow_trans HBw3.out hb)
        have K4 := Lib.hid (K3.out.later hb)
        have L4 := Lib.hid (L3.out.later hb)
        clear hb K3 L3
        go_wp2_with fail
        refine (begins_any B A d c b a _ _ _ L4.out K4.out (fun _ h => h) (fun _ h => h) HB.out HA.out HC.out).mono ?_
        rintro e w5 ⟨rfl, hb⟩
        rw [← HY.out]
        have HBw5 := Lib.hid (grow_trans HBw4.out hb)
        have K5 := Lib.hid (K4.out.later hb)
        have L5 := Lib.hid (L4.out.later hb)
        clear hb K4 L4
        go_wp2_with fail
        refine (meet_any A B c d a b _ _ _ K5.out L5.out (fun _ h => h) (fun _ h => h) HA.out HB.out HC.out HD.out).mono ?_
        rintro e w6 ⟨rfl, hb⟩
        rw [← HX.out, ← HY.out]
        have HBw6 := Lib.hid (grow_trans HBw5.out hb)
        have K6 := Lib.hid (K5.out.later hb)
        have L6 := Lib.hid (L5.out.later hb)
        clear hb K5 L5
        go_wp2_with fail
        refine (meet_any B A d c b a _ _ _ L6.out K6.out (fun _ h => h) (fun _ h => h) HB.out HA.out HD.out HC.out).mono ?_
        rintro e w7 ⟨rfl, hb⟩
        rw [← HX.out, ← HY.out]
        have HBw7 := Lib.hid (grow_trans HBw6.out hb)
        have K7 := Lib.hid (K6.out.later hb)
        have L7 := Lib.hid (L6.out.later hb)
        clear hb K6 L6
        go_wp2_with fail
        go_ret
        exact ⟨rfl, HBw7.out⟩

set_option maxRecDepth 100000 in
theorem lifted (os : Os) (started : os.Started) (H : Type) (enc : TypeId × Value → H) :
    ReturnsInHanded {} Try.checked os 6 .any (Rows.pathMeetsSpec.pre6 enc Try.prog Try.f6 Rows.pathMeetsRow.domain false) (Rows.pathMeetsSpec.post enc Try.prog Try.f6 false true false false) := by
  refine returnsInHanded_of_change_sized (C := Try.checked) own started (by kernel_rfl) Try.func6
    (ChangeSpec.witness6 (enc := enc) (C := Try.checked) false ⟨#[], #[.slice none 0 0, .slice none 0 0], []⟩ 8 (by kernel_rfl) (by kernel_rfl) (by kernel_rfl) (by kernel_rfl)) ?_
  intro W base args ds gs before hval0 hW hcnd hsz0 _
  have hval : ∀ (j : Nat) t v, Try.f6.params[j]? = some t → args[j]? = some v → Value.okWide Try.prog W .any base t v := hval0
  have hsz : (DataW.weightsEach Try.prog (Try.f6.params.toList ++ Rows.pathMeetsSpec.plain.varTypes Try.prog) (ds ++ gs)).all (· ≤ reachBytes) = true := hsz0
  have hW' := hW
  obtain ⟨p, q, hA0, hV, rfl, hfz, hnd⟩ := hW
  have hA : DataW.TrodAll enc Try.prog W 0 (fun _ => true) true Try.f6.params.toList args.toList ds p := hA0
  rw [Try.params6] at hA hval hsz
  obtain ⟨v0, v1, d0, d1, p0, p1, rfl, rfl, rfl, h0, h1⟩ := trodAll_two hA
  obtain ⟨rfl, rfl⟩ := trodVars_none hV
  obtain ⟨A0, n0, c0, rfl⟩ := okWide_slice Try.underlying23 (hval 0 23 v0 rfl rfl)
  have k0 := h0
  have lt0 : ∀ x ∈ p0, x.block < W.heap.size := by obtain ⟨m, hm⟩ := k0; exact DataW.trod_lt m _ _ _ hm
  have wt0 : ∀ n ∈ d0.weights Try.prog 23, n ≤ reachBytes := fun n hn => by have := List.all_eq_true.1 hsz n (DataW.weights_mem_each (j := 0) rfl rfl n hn); simpa using this
  obtain ⟨A1, n1, c1, rfl⟩ := okWide_slice Try.underlying23 (hval 1 23 v1 rfl rfl)
  have k1 := h1
  have lt1 : ∀ x ∈ p1, x.block < W.heap.size := by obtain ⟨m, hm⟩ := k1; exact DataW.trod_lt m _ _ _ hm
  have wt1 : ∀ n ∈ d1.weights Try.prog 23, n ≤ reachBytes := fun n hn => by have := List.all_eq_true.1 hsz n (DataW.weights_mem_each (j := 1) rfl rfl n hn); simpa using this
  clear hA0 hval0
  obtain ⟨ys0, hn0, hc0, ho0, hy0, hz0⟩ : ∃ ys : List ByteArray, n0 = ys.length ∧ ys.length ≤ c0 ∧ (A0 = none → c0 = 0) ∧ ys.length ≤ 8796093021952 ∧ StrsAt W (fun b => b < W.heap.size) A0 ys := by
    obtain ⟨m, hm⟩ := k0
    obtain ⟨B, e, ys, he, g0, g00, g1, g2⟩ := open_names2 hm wt0
    have he' : [Value.slice A0 n0 c0] = [Value.slice B ys.length e] := he
    simp only [List.cons.injEq, Value.slice.injEq, and_true] at he'
    obtain ⟨rfl, rfl, rfl⟩ := he'
    exact ⟨ys, rfl, g0, g00, g1, g2⟩
  subst hn0
  obtain ⟨ys1, hn1, hc1, ho1, hy1, hz1⟩ : ∃ ys : List ByteArray, n1 = ys.length ∧ ys.length ≤ c1 ∧ (A1 = none → c1 = 0) ∧ ys.length ≤ 8796093021952 ∧ StrsAt W (fun b => b < W.heap.size) A1 ys := by
    obtain ⟨m, hm⟩ := k1
    obtain ⟨B, e, ys, he, g0, g00, g1, g2⟩ := open_names2 hm wt1
    have he' : [Value.slice A1 n1 c1] = [Value.slice B ys.length e] := he
    simp only [List.cons.injEq, Value.slice.injEq, and_true] at he'
    obtain ⟨rfl, rfl, rfl⟩ := he'
    exact ⟨ys, rfl, g0, g00, g1, g2⟩
  subst hn1
  refine (walk A0 A1 c0 c1 ys0 ys1 W hz0 hz1 hc0 hc1 hy0 hy1).mono fun e W' ⟨he, bel⟩ => ?_
  subst he
  exact ⟨_, rfl, _, _, _, [], _, [], hW', trodAll_mk1 (shut_bool Try.underlying4 _), trodAll_mk2 (Below.trod laidOut (by kernel_rfl) (of_decide_eq_true (by kernel_rfl)) k0 bel lt0) (Below.trod laidOut (by kernel_rfl) (of_decide_eq_true (by kernel_rfl)) k1 bel lt1), rfl, bel.frame _, fun h => by cases h⟩

/-- The statement. -/
theorem proved : Rows.PathMeetsSaid :=
  OpenClaim.holds_of_wide 6 Try.f6 rfl rfl rfl rfl rfl rfl rfl ⟨rfl, rfl, rfl, rfl, rfl⟩ rfl rfl rfl rfl rfl (by kernel_rfl) Try.func6 (by kernel_rfl)
    (of_decide_eq_true (by kernel_rfl)) (by unfold Func.isWrapper; first | (rw [if_pos (by decide +kernel)]; kernel_rfl) | (rw [if_neg (by decide +kernel)]; exact ⟨rfl, rfl⟩))
    (fun os started H enc _ => lifted os started H enc)
end Go.Proofs.Ythmgbginelbcoaa.PMeets
