/- Whichever text is read as a path, the answer is the document's, and the path's text is that text again. No conditions. -/
import Derived.Test.YthmgbginelbcoaaPathL
import Derived.Test.YthmgbginelbcoaaOpenS
import Derived.SizedLaws
import Derived.ProofKit
import Derived.OpenShut
import Derived.ShutString
import Derived.ChangeOld
import Derived.Below
import Derived.Deep.Slices
namespace Go.Proofs.Ythmgbginelbcoaa.PParses
set_option linter.unusedVariables false
set_option linter.unusedSimpArgs false
open Go.ChangeShapes Go.WideShapes Go.ChangeAt Go.RowKit Go.Joins Go.Deep
open Go.ChangeMaps (open_string shut_string)
set_option linter.unusedVariables false

theorem own : ownKnob Try.prog.godebug = none := by kernel_rfl
theorem laidOut : laidOutB Try.prog = true := by kernel_rfl

set_option maxHeartbeats 2000000 in
theorem walk (s : ByteArray) (w : World) (hs : s.size ≤ 140737488351232) :
    Calls Try.prog 3 #[.string s] w fun e w' => e = .returned (.bool true) ∧ Below w.heap.size w w' := by
  have HS := Lib.hid hs
  clear hs
  by_cases h1 : 2000 < s.size
  · have h1' : (2000 : Int) < (s.size : Int) := by omega
    clear h1
    go_enter Try.func3, Try.ntmps3
    go_wp2_with fail
    refine (lives4_any _).mono ?_
    rintro e w9 ⟨rfl, hb⟩
    have HB9 := Lib.hid hb
    clear hb
    go_wp2_with fail
    go_ret
    exact ⟨rfl, HB9.out⟩
  · have h1' : (s.size : Int) ≤ 2000 := by omega
    have H1 : Hid (s.size ≤ 2000) := by show s.size ≤ 2000; omega
    clear h1
    have hln := splitS_length s.data.toList
    have hlen : s.data.toList.length = s.size := rfl
    have hz : (splitS s.data.toList).length ≤ 140737488351232 := by have := H1.out; omega
    have hm := splitS_mem s.data.toList
    have HM : Hid (∀ t ∈ splitS s.data.toList, t.size ≤ 140737488351232) := fun t ht => by have := hm t ht; have := H1.out; omega
    have hj : bsOf (joinL (splitS s.data.toList)) = s := by rw [join_split, bsOf_of]
    obtain ⟨ns, hns⟩ : ∃ ns, ns = splitS s.data.toList := ⟨_, rfl⟩
    rw [← hns] at hz HM hj
    have HN := Lib.hid hns
    have HZ := Lib.hid hz
    have HJ := Lib.hid hj
    clear hns hm hln hlen hz hj
    cases hp : mayP ns with
    | false =>
      have HP := Lib.hid hp
      clear hp
      go_enter Try.func3, Try.ntmps3
      go_wp2_with fail
      refine (parse_no s _ HS.out (by rw [← HN.out]; exact HP.out)).mono ?_
      rintro e w1 ⟨rfl, hb⟩
      have HB1 := Lib.hid hb
      clear hb
      go_wp2_with fail
      refine (rsplit_any s _ (by have := H1.out; omega)).mono ?_
      rintro e w2 ⟨v, rfl, hv, hb⟩
      rw [← HN.out] at hv
      obtain ⟨A, c, rfl, hc, hst⟩ := hv.opens HM.out
      have HB2 := Lib.hid (grow_trans HB1.out hb)
      have K2 : Hid (Kp w2 A ns) := hst.imp fun b h => h.2
      clear hv hst hb hc HB1
      go_wp2_with fail
      refine (lives4_any _).mono ?_
      rintro e w3 ⟨rfl, hb⟩
      have HBw3 := Lib.hid (grow_trans HB2.out hb)
      have K3 := Lib.hid (K2.out.later hb)
      clear hb K2
      go_wp2_with fail
      refine (rmay_any A c ns _ _ K3.out HZ.out).mono ?_
      rintro e u ⟨rfl, rfl⟩
      rw [HP.out]
      go_wp2_with fail
      go_ret
      exact ⟨rfl, HBw3.out⟩
    | true =>
      have HP := Lib.hid hp
      clear hp
      go_enter Try.func3, Try.ntmps3
      go_wp2_with fail
      refine (parse_yes s _ HS.out (by rw [← HN.out]; exact HP.out)).mono ?_
      rintro e w1 ⟨A1, c1, rfl, hc1, hst, hb⟩
      rw [← HN.out] at hc1 hst ⊢
      have HB1 := Lib.hid hb
      have J1 : Hid (Kp w1 A1 ns) := hst.imp fun b h => h.2
      have HC1 := Lib.hid hc1
      clear hb hst hc1
      go_wp2_with fail
      refine (rsplit_any s _ (by have := H1.out; omega)).mono ?_
      rintro e w2 ⟨v, rfl, hv, hb⟩
      rw [← HN.out] at hv
      obtain ⟨A, c, rfl, hc, hst⟩ := hv.opens HM.out
      have HB2 := Lib.hid (grow_trans HB1.out hb)
      have J2 := Lib.hid (J1.out.later hb)
      have K2 : Hid (Kp w2 A ns) := hst.imp fun b h => h.2
      clear hv hst hb hc HB1 J1
      go_wp2_with fail
      refine (lives4_any _).mono ?_
      rintro e w3 ⟨rfl, hb⟩
      have HBw3 := Lib.hid (grow_trans HB2.out hb)
      have K3 := Lib.hid (K2.out.later hb)
      have J3 := Lib.hid (J2.out.later hb)
      clear hb K2 J2
      go_wp2_with fail
      refine (rmay_any A c ns _ _ K3.out HZ.out).mono ?_
      rintro e u ⟨rfl, rfl⟩
      rw [HP.out]
      go_wp2_with fail
      refine (text_yes A1 c1 ns _ _ J3.out (fun _ h => h) HC1.out HP.out).mono ?_
      rintro e w4 ⟨rfl, hb⟩
      rw [HJ.out]
      have HBw4 := Lib.hid (grow_trans HBw3.out hb)
      have K4 := Lib.hid (K3.out.later hb)
      have J4 := Lib.hid (J3.out.later hb)
      clear hb K3 J3
      go_wp2_with fail
      refine (rsame_any A1 A c1 c ns ns _ _ _ J4.out K4.out (fun _ h => h) (fun _ h => h) HZ.out HZ.out).mono ?_
      rintro e w5 ⟨rfl, hb⟩
      rw [decide_eq_true (rfl : ns = ns)]
      have HBw5 := Lib.hid (grow_trans HBw4.out hb)
      have J5 := Lib.hid (J4.out.later hb)
      clear hb J4
      go_wp2_with fail
      refine (may_any A1 c1 ns _ _ J5.out HZ.out).mono ?_
      rintro e u ⟨rfl, rfl⟩
      rw [HP.out]
      go_wp2_with fail
      go_ret
      exact ⟨by simp, HBw5.out⟩

set_option maxRecDepth 100000 in
theorem lifted (os : Os) (started : os.Started) (H : Type) (enc : TypeId × Value → H) :
    ReturnsInHanded {} Try.checked os 3 .any (Rows.pathParsesSpec.pre6 enc Try.prog Try.f3 Rows.pathParsesRow.domain false) (Rows.pathParsesSpec.post enc Try.prog Try.f3 false true false false) := by
  refine returnsInHanded_of_change_sized (C := Try.checked) own started (by kernel_rfl) Try.func3
    (ChangeSpec.witness6 (enc := enc) (C := Try.checked) false ⟨#[], #[.string ByteArray.empty], []⟩ 8 (by kernel_rfl) (by kernel_rfl) (by kernel_rfl) (by kernel_rfl)) ?_
  intro W base args ds gs before hval0 hW hcnd hsz0 _
  have hval : ∀ (j : Nat) t v, Try.f3.params[j]? = some t → args[j]? = some v → Value.okWide Try.prog W .any base t v := hval0
  have hsz : (DataW.weightsEach Try.prog (Try.f3.params.toList ++ Rows.pathParsesSpec.plain.varTypes Try.prog) (ds ++ gs)).all (· ≤ reachBytes) = true := hsz0
  have hW' := hW
  obtain ⟨p, q, hA0, hV, rfl, hfz, hnd⟩ := hW
  have hA : DataW.TrodAll enc Try.prog W 0 (fun _ => true) true Try.f3.params.toList args.toList ds p := hA0
  rw [Try.params3] at hA hval hsz
  obtain ⟨v0, d0, rfl, rfl, h0⟩ := trodAll_one hA
  obtain ⟨rfl, rfl⟩ := trodVars_none hV
  obtain ⟨a0, rfl, rfl, rfl, wa0⟩ := open_string Try.underlying9 (hval 0 9 v0 rfl rfl) h0
  clear hA0 hval0
  have hs0 : a0.size ≤ 140737488351232 := by
    have h3 := sized_string hsz (j := 0) (t := 9) rfl rfl
    simpa [reachBytes] using h3
  refine (walk a0 W hs0).mono fun e W' ⟨he, bel⟩ => ?_
  subst he
  exact ⟨_, rfl, _, _, _, [], _, [], hW', trodAll_mk1 (shut_bool Try.underlying4 _), trodAll_mk1 (shut_string Try.underlying9 wa0), rfl, bel.frame _, fun h => by cases h⟩

/-- The statement. -/
theorem proved : Rows.PathParsesSaid :=
  OpenClaim.holds_of_wide 3 Try.f3 rfl rfl rfl rfl rfl rfl rfl ⟨rfl, rfl, rfl, rfl, rfl⟩ rfl rfl rfl rfl rfl (by kernel_rfl) Try.func3 (by kernel_rfl)
    (of_decide_eq_true (by kernel_rfl)) (by unfold Func.isWrapper; first | (rw [if_pos (by decide +kernel)]; kernel_rfl) | (rw [if_neg (by decide +kernel)]; exact ⟨rfl, rfl⟩))
    (fun os started H enc _ => lifted os started H enc)
end Go.Proofs.Ythmgbginelbcoaa.PParses
