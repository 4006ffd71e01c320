/- Whichever steps are told as a text, the answer is the document's, and the text is read as those steps again. No conditions. -/
import Derived.Test.YthmgbginelbcoaaPathL
import Derived.Test.YthmgbginelbcoaaOpenS
import Derived.SizedLaws
import Derived.ProofKit
import Derived.OpenShut
import Derived.ShutString
import Derived.ChangeOld
import Derived.Below
import Derived.Deep.Slices
namespace Go.Proofs.Ythmgbginelbcoaa.PTexts
set_option linter.unusedVariables false
set_option linter.unusedSimpArgs false
open Go.ChangeShapes Go.WideShapes Go.ChangeAt Go.RowKit Go.Joins Go.Deep
open Go.ChangeMaps (open_string shut_string)
set_option linter.unusedVariables false

theorem own : ownKnob Try.prog.godebug = none := by kernel_rfl
theorem laidOut : laidOutB Try.prog = true := by kernel_rfl

set_option maxHeartbeats 2000000 in
theorem walk (A : Option Addr) (c : Nat) (p : List ByteArray) (w : World) (h : Kp w A p) (hc : p.length ≤ c) (hA : A = none → c = 0) (hn : p.length ≤ 8796093021952) :
    Calls Try.prog 4 #[.slice A p.length c] w fun e w' => e = .returned (.bool true) ∧ Below w.heap.size w w' := by
  have K0 := Lib.hid h
  have HC := Lib.hid hc
  have HA := Lib.hid hA
  clear h hc hA
  by_cases h1 : 50 < p.length
  · have h1' : (50 : Int) < (p.length : Int) := by omega
    clear h1
    go_enter Try.func4, Try.ntmps4
    go_wp2_with fail
    refine (lives4_any _).mono ?_
    rintro e w9 ⟨rfl, hb⟩
    have HB9 := Lib.hid hb
    clear hb
    go_wp2_with fail
    go_ret
    exact ⟨rfl, HB9.out⟩
  · have h1' : (p.length : Int) ≤ 50 := by omega
    have HZ : Hid (p.length ≤ 140737488351232) := by show p.length ≤ 140737488351232; omega
    clear h1
    cases hp : mayP p with
    | false =>
      have HP := Lib.hid hp
      clear hp
      go_enter Try.func4, Try.ntmps4
      go_wp2_with (at_builtin; go_must (refine wpList_append_strs rfl _ _ rfl w.heap.size _ [] rfl (own_none w _ rfl) A c p (fun b => b < (w.alloc (.cells #[] 9)).heap.size) rfl HA.out (K0.out.later (below_one w _)) (by simp) (by simp; omega) ?_))
      intro v1 w1 hv hg
      try rw [List.nil_append] at hv
      have hb := (below_one w (.cells #[] 9)).grown hg (by simp) (fun g hgo => by simp [Value.ownBlock] at hgo; omega)
      obtain ⟨A1, c1, rfl, hc1, hA1, hk1⟩ := hv.opens2 K0.out.sizes
      have HB1 := Lib.hid hb
      have J1 := Lib.hid hk1
      have HC1 := Lib.hid hc1
      have K1 := Lib.hid (K0.out.later hb)
      clear hb hk1 hc1 hA1 hv hg K0
      go_wp2_with fail
      refine (text_no A1 c1 p _ _ J1.out HZ.out HP.out).mono ?_
      rintro e w2 ⟨rfl, hb⟩
      have HBw2 := Lib.hid (grow_trans HB1.out hb)
      have K2 := Lib.hid (K1.out.later hb)
      clear hb K1
      go_wp2_with fail
      refine (lives4_any _).mono ?_
      rintro e w3 ⟨rfl, hb⟩
      have HBw3 := Lib.hid (grow_trans HBw2.out hb)
      have K3 := Lib.hid (K2.out.later hb)
      clear hb K2
      go_wp2_with fail
      refine (may_any A c p _ _ K3.out HZ.out).mono ?_
      rintro e u ⟨rfl, rfl⟩
      rw [HP.out]
      go_wp2_with fail
      refine (rmay_any A c p _ _ K3.out HZ.out).mono ?_
      rintro e u ⟨rfl, rfl⟩
      rw [HP.out]
      go_wp2_with fail
      refine (rmay_any A c p _ _ K3.out HZ.out).mono ?_
      rintro e u ⟨rfl, rfl⟩
      rw [HP.out]
      go_wp2_with fail
      go_ret
      exact ⟨rfl, HBw3.out⟩
    | true =>
      have HP := Lib.hid hp
      have HJ : Hid (splitS (bsOf (joinL p)).data.toList = p) := split_join hp
      have HL : Hid ((bsOf (joinL p)).size ≤ 140737488351232) := by have := join_le hp; show (joinL p).length ≤ 140737488351232; omega
      obtain ⟨t, ht⟩ : ∃ t, t = bsOf (joinL p) := ⟨_, rfl⟩
      rw [← ht] at HJ HL
      have HT := Lib.hid ht
      clear hp ht
      go_enter Try.func4, Try.ntmps4
      go_wp2_with (at_builtin; go_must (refine wpList_append_strs rfl _ _ rfl w.heap.size _ [] rfl (own_none w _ rfl) A c p (fun b => b < (w.alloc (.cells #[] 9)).heap.size) rfl HA.out (K0.out.later (below_one w _)) (by simp) (by simp; omega) ?_))
      intro v1 w1 hv hg
      try rw [List.nil_append] at hv
      have hb := (below_one w (.cells #[] 9)).grown hg (by simp) (fun g hgo => by simp [Value.ownBlock] at hgo; omega)
      obtain ⟨A1, c1, rfl, hc1, hA1, hk1⟩ := hv.opens2 K0.out.sizes
      have HB1 := Lib.hid hb
      have J1 := Lib.hid hk1
      have HC1 := Lib.hid hc1
      have K1 := Lib.hid (K0.out.later hb)
      clear hb hk1 hc1 hA1 hv hg K0
      go_wp2_with fail
      refine (text_yes A1 c1 p _ _ J1.out (fun _ h => h) HC1.out HP.out).mono ?_
      rintro e w2 ⟨rfl, hb⟩
      rw [← HT.out]
      have HBw2 := Lib.hid (grow_trans HB1.out hb)
      have K2 := Lib.hid (K1.out.later hb)
      clear hb K1
      go_wp2_with fail
      refine (lives4_any _).mono ?_
      rintro e w3 ⟨rfl, hb⟩
      have HBw3 := Lib.hid (grow_trans HBw2.out hb)
      have K3 := Lib.hid (K2.out.later hb)
      clear hb K2
      go_wp2_with fail
      refine (may_any A c p _ _ K3.out HZ.out).mono ?_
      rintro e u ⟨rfl, rfl⟩
      rw [HP.out]
      go_wp2_with fail
      refine (rmay_any A c p _ _ K3.out HZ.out).mono ?_
      rintro e u ⟨rfl, rfl⟩
      rw [HP.out]
      go_wp2_with fail
      refine (rmay_any A c p _ _ K3.out HZ.out).mono ?_
      rintro e u ⟨rfl, rfl⟩
      rw [HP.out]
      go_wp2_with fail
      refine (parse_yes t _ HL.out (by rw [HJ.out]; exact HP.out)).mono ?_
      rintro e w4 ⟨A2, c2, rfl, hc2, hst, hb⟩
      rw [HJ.out] at hc2 hst ⊢
      have HB4 := Lib.hid (grow_trans HBw3.out hb)
      have J4 : Hid (Kp w4 A2 p) := hst.imp fun b h => h.2
      have K4 := Lib.hid (K3.out.later hb)
      clear hb hst hc2 K3
      go_wp2_with fail
      refine (rtext_any A c p _ _ K4.out HP.out).mono ?_
      rintro e u ⟨rfl, rfl⟩
      rw [← HT.out]
      go_wp2_with fail
      refine (rsame_any A2 A c2 c p p _ _ _ J4.out K4.out (fun _ h => h) (fun _ h => h) HZ.out HZ.out).mono ?_
      rintro e w5 ⟨rfl, hb⟩
      rw [decide_eq_true (rfl : p = p)]
      have HBw5 := Lib.hid (grow_trans HB4.out hb)
      have J5 := Lib.hid (J4.out.later hb)
      clear hb J4
      go_wp2_with fail
      go_ret
      exact ⟨by simp, HBw5.out⟩

set_option maxRecDepth 100000 in
theorem lifted (os : Os) (started : os.Started) (H : Type) (enc : TypeId × Value → H) :
    ReturnsInHanded {} Try.checked os 4 .any (Rows.pathTextsSpec.pre6 enc Try.prog Try.f4 Rows.pathTextsRow.domain false) (Rows.pathTextsSpec.post enc Try.prog Try.f4 false true false false) := by
  refine returnsInHanded_of_change_sized (C := Try.checked) own started (by kernel_rfl) Try.func4
    (ChangeSpec.witness6 (enc := enc) (C := Try.checked) false ⟨#[], #[.slice none 0 0], []⟩ 8 (by kernel_rfl) (by kernel_rfl) (by kernel_rfl) (by kernel_rfl)) ?_
  intro W base args ds gs before hval0 hW hcnd hsz0 _
  have hval : ∀ (j : Nat) t v, Try.f4.params[j]? = some t → args[j]? = some v → Value.okWide Try.prog W .any base t v := hval0
  have hsz : (DataW.weightsEach Try.prog (Try.f4.params.toList ++ Rows.pathTextsSpec.plain.varTypes Try.prog) (ds ++ gs)).all (· ≤ reachBytes) = true := hsz0
  have hW' := hW
  obtain ⟨p, q, hA0, hV, rfl, hfz, hnd⟩ := hW
  have hA : DataW.TrodAll enc Try.prog W 0 (fun _ => true) true Try.f4.params.toList args.toList ds p := hA0
  rw [Try.params4] at hA hval hsz
  obtain ⟨v0, d0, rfl, rfl, h0⟩ := trodAll_one hA
  obtain ⟨rfl, rfl⟩ := trodVars_none hV
  obtain ⟨A0, n0, c0, rfl⟩ := okWide_slice Try.underlying23 (hval 0 23 v0 rfl rfl)
  have k0 := h0
  have lt0 : ∀ x ∈ p, x.block < W.heap.size := by obtain ⟨m, hm⟩ := k0; exact DataW.trod_lt m _ _ _ hm
  have wt0 : ∀ n ∈ d0.weights Try.prog 23, n ≤ reachBytes := fun n hn => by have := List.all_eq_true.1 hsz n (DataW.weights_mem_each (j := 0) rfl rfl n hn); simpa using this
  clear hA0 hval0
  obtain ⟨ys0, hn0, hc0, ho0, hy0, hz0⟩ : ∃ ys : List ByteArray, n0 = ys.length ∧ ys.length ≤ c0 ∧ (A0 = none → c0 = 0) ∧ ys.length ≤ 8796093021952 ∧ StrsAt W (fun b => b < W.heap.size) A0 ys := by
    obtain ⟨m, hm⟩ := k0
    obtain ⟨B, e, ys, he, g0, g00, g1, g2⟩ := open_names2 hm wt0
    have he' : [Value.slice A0 n0 c0] = [Value.slice B ys.length e] := he
    simp only [List.cons.injEq, Value.slice.injEq, and_true] at he'
    obtain ⟨rfl, rfl, rfl⟩ := he'
    exact ⟨ys, rfl, g0, g00, g1, g2⟩
  subst hn0
  refine (walk A0 c0 ys0 W hz0 hc0 ho0 hy0).mono fun e W' ⟨he, bel⟩ => ?_
  subst he
  exact ⟨_, rfl, _, _, _, [], _, [], hW', trodAll_mk1 (shut_bool Try.underlying4 _), trodAll_mk1 (Below.trod laidOut (by kernel_rfl) (of_decide_eq_true (by kernel_rfl)) k0 bel lt0), rfl, bel.frame _, fun h => by cases h⟩

/-- The statement. -/
theorem proved : Rows.PathTextsSaid :=
  OpenClaim.holds_of_wide 4 Try.f4 rfl rfl rfl rfl rfl rfl rfl ⟨rfl, rfl, rfl, rfl, rfl⟩ rfl rfl rfl rfl rfl (by kernel_rfl) Try.func4 (by kernel_rfl)
    (of_decide_eq_true (by kernel_rfl)) (by unfold Func.isWrapper; first | (rw [if_pos (by decide +kernel)]; kernel_rfl) | (rw [if_neg (by decide +kernel)]; exact ⟨rfl, rfl⟩))
    (fun os started H enc _ => lifted os started H enc)
end Go.Proofs.Ythmgbginelbcoaa.PTexts
