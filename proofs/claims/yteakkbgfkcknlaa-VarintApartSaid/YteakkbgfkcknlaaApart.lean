/- No number's code is the beginning of another one's; for any two numbers. No conditions. -/
import Derived.Test.YteakkbgfkcknlaaVarL
import Derived.Test.YteakkbgfkcknlaaReg
import Derived.Laws.Slices
import Derived.ProofKit
import Derived.OpenShut
import Derived.ShutString
import Derived.ChangeOld
import Derived.Below
namespace Go.Proofs.Yteakkbgfkcknlaa.Apart
open Go.ChangeShapes Go.WideShapes Go.ChangeAt Go.RowKit Go.Joins
set_option linter.unusedVariables false

theorem own : ownKnob Try.prog.godebug = none := by kernel_rfl
theorem laidOut : laidOutB Try.prog = true := by kernel_rfl

theorem convTake {w : World} {B g cap k : Nat} {l : List UInt8} (h : OwnB w B (.slice (some ⟨g, 0, none⟩) l.length cap) l) (hk : k ≤ l.length) :
    (convert 22 9 (.slice (some ⟨g, 0, none⟩) k cap)).run Try.prog w = .ok (.string ⟨(l.take k).toArray⟩) w := by
  have h' : w.ownsRow B 5 1 (.slice (some ⟨g, 0, none⟩) l.length cap) l.length (bcells l) := h
  rw [run_convert_bytes_arg w 22 5 Try.underlying22 Try.underlying5 g 0 k cap ((l.take k).map fun b => (b.toNat : Int)) (by simp; omega) ?_ 9 Try.underlying9, strOfNums_bytes]
  intro i hi
  rw [Nat.zero_add, h'.cellAt i (by omega)]
  have hi2 : i < l.length := by omega
  simp [bcells, List.getElem?_map, List.getElem?_eq_getElem hi2, List.getD, List.getElem?_take, hi]
theorem apart_list {x y : Int} (hx1 : -9223372036854775808 ≤ x) (hx2 : x ≤ 9223372036854775807) (hy1 : -9223372036854775808 ≤ y) (hy2 : y ≤ 9223372036854775807) (hne : x ≠ y) (k : Nat) :
    ((grp (zig y)).take k == grp (zig x)) = false := by
  apply beq_eq_false_iff_ne.2
  intro h
  have h2 : grp (zig x) ++ (grp (zig y)).drop k = grp (zig y) ++ [] := by rw [← h, List.take_append_drop, List.append_nil]
  exact hne (zig_inj (grp_apart (zig_lt x hx1 hx2) (zig_lt y hy1 hy2) h2))

/-- A slice of bytes of the call's own, written out. -/
structure Row (w : World) (B g cap : Nat) (l : List UInt8) : Prop where
  own : OwnB w B (.slice (some ⟨g, 0, none⟩) l.length cap) l
  fits : l.length ≤ cap
theorem Row.of {w : World} {B : Nat} {v : Value} {l : List UInt8} (h : OwnB w B v l) (hl : 1 ≤ l.length) : ∃ g cap, v = .slice (some ⟨g, 0, none⟩) l.length cap ∧ Row w B g cap l := by
  obtain ⟨g, cap, rfl, _, _, hc⟩ := h.shape hl
  exact ⟨g, cap, rfl, h, hc⟩

set_option maxHeartbeats 1000000 in
theorem walk (x y : Int) (w : World) (hx1 : -9223372036854775808 ≤ x) (hx2 : x ≤ 9223372036854775807) (hy1 : -9223372036854775808 ≤ y) (hy2 : y ≤ 9223372036854775807) :
    Calls Try.prog 6 #[.int .i64 x, .int .i64 y] w fun e w' => e = .returned (.bool true) ∧ Below w.heap.size w w' := by
  have HE := fun hne => Lib.hid (apart_list hx1 hx2 hy1 hy2 hne)
  have HE' := fun hne => Lib.hid (apart_list hy1 hy2 hx1 hx2 hne)
  have X1 := Lib.hid hx1
  have X2 := Lib.hid hx2
  have Y1 := Lib.hid hy1
  have Y2 := Lib.hid hy2
  clear hx1 hx2 hy1 hy2
  go_enter Try.func6, Try.ntmps6
  go_wp2_with fail
  refine (int_any x _ X1.out X2.out).mono ?_
  rintro e w1 ⟨va, rfl, ha, hb1⟩
  obtain ⟨ga, ca, rfl, hra⟩ := Row.of ha (grp_length _).2
  go_wp2_with fail
  refine (int_any y _ Y1.out Y2.out).mono ?_
  rintro e w2 ⟨vb, rfl, hbb, hb2⟩
  obtain ⟨gb, cb, rfl, hrb⟩ := Row.of hbb (grp_length _).2
  have hra2 : Row w2 w.heap.size ga ca (grp (zig x)) := ⟨ha.below hb2, hra.fits⟩
  have HB := Lib.hid (below_toStart hb1 hb2)
  have HA := Lib.hid hra2
  have HR := Lib.hid hrb
  clear ha hb1 hra hbb hb2 hrb hra2
  by_cases hxy : x = y
  · have hb : (x == y) = true := by simp [hxy]
    have hlt : ¬ (grp (zig y)).length < (grp (zig x)).length := by rw [hxy]; omega
    have hle : (grp (zig x)).length ≤ (grp (zig y)).length := by omega
    have HS := HA
    have HL := HR
    have hcap := HL.out.fits
    clear hxy HE
    generalize grp (zig x) = la at *
    generalize grp (zig y) = lb at *
    go_wp2
    refine wp_region_mix [0, 1, 2, 3, 4, 5, 6, 7, 8, 9, 10, 11, 12, 13, 14, 15, 16] (by kernel_rfl) (by kernel_rfl) (fun _ d _ _ _ h => by cases d <;> exact h) ?_
    simp only [atNats, List.filterMap_cons, List.filterMap_nil, List.getElem?_toArray, List.getElem?_cons_succ, List.getElem?_cons_zero]
    refine mix_call rfl (fun K hK => ?_)
    go_simp
    refine (lives1_any _).mono ?_
    rintro e w3 ⟨rfl, hb3'⟩
    refine hK _ _ hb3' ?_
    clear hK K
    have hb3 : Below w2.heap.size w2 w3 := below_undrew hb3'
    have hS := HS.out.own.below (w := w2) hb3
    have hL := HL.out.own.below (w := w2) hb3
    have hcS := run_later (fun u hu => OwnB.conv (OwnB.below hS hu))
    have hcL := run_later (fun u hu => convTake (OwnB.below hL hu) hle)
    have HF := Lib.hid (below_toStart HB.out hb3)
    clear hS hL hb3 hb3'
    try simp only [Act.put]
    refine mix_pure ?_
    simp only [List.takeWhile, List.dropWhile, isPure]
    repeat (go_big_quiet_step (fail))
    refine wpQuiet_nil ?_
    unfold wpMix
    go_wp2
    go_ret
    exact ⟨rfl, HF.out⟩
  · have hb : (x == y) = false := by simp [hxy]
    by_cases hlt : (grp (zig y)).length < (grp (zig x)).length
    · have hE := (HE' (Ne.symm hxy) (grp (zig y)).length)
      have hle : (grp (zig y)).length ≤ (grp (zig x)).length := by omega
      have hEo := hE
      have HS := HR
      have HL := HA
      have hcap := HL.out.fits
      clear HE HE' hE
      generalize grp (zig x) = la at *
      generalize grp (zig y) = lb at *
      go_wp2
      refine wp_region_mix [0, 1, 2, 3, 4, 5, 6, 7, 8, 9, 10, 11, 12, 13, 14, 15, 16] (by kernel_rfl) (by kernel_rfl) (fun _ d _ _ _ h => by cases d <;> exact h) ?_
      simp only [atNats, List.filterMap_cons, List.filterMap_nil, List.getElem?_toArray, List.getElem?_cons_succ, List.getElem?_cons_zero]
      refine mix_call rfl (fun K hK => ?_)
      go_simp
      refine (lives1_any _).mono ?_
      rintro e w3 ⟨rfl, hb3'⟩
      refine hK _ _ hb3' ?_
      clear hK K
      have hb3 : Below w2.heap.size w2 w3 := below_undrew hb3'
      have hS := HS.out.own.below (w := w2) hb3
      have hL := HL.out.own.below (w := w2) hb3
      have hcS := run_later (fun u hu => OwnB.conv (OwnB.below hS hu))
      have hcL := run_later (fun u hu => convTake (OwnB.below hL hu) hle)
      have HF := Lib.hid (below_toStart HB.out hb3)
      clear hS hL hb3 hb3'
      try simp only [Act.put]
      refine mix_pure ?_
      simp only [List.takeWhile, List.dropWhile, isPure]
      repeat (go_big_quiet_step (fail))
      refine wpQuiet_nil ?_
      unfold wpMix
      go_wp2
      go_ret
      exact ⟨rfl, HF.out⟩
    · have hE := (HE hxy (grp (zig x)).length)
      have hle : (grp (zig x)).length ≤ (grp (zig y)).length := by omega
      have hEo := hE
      have HS := HA
      have HL := HR
      have hcap := HL.out.fits
      clear HE HE' hE
      generalize grp (zig x) = la at *
      generalize grp (zig y) = lb at *
      go_wp2
      refine wp_region_mix [0, 1, 2, 3, 4, 5, 6, 7, 8, 9, 10, 11, 12, 13, 14, 15, 16] (by kernel_rfl) (by kernel_rfl) (fun _ d _ _ _ h => by cases d <;> exact h) ?_
      simp only [atNats, List.filterMap_cons, List.filterMap_nil, List.getElem?_toArray, List.getElem?_cons_succ, List.getElem?_cons_zero]
      refine mix_call rfl (fun K hK => ?_)
      go_simp
      refine (lives1_any _).mono ?_
      rintro e w3 ⟨rfl, hb3'⟩
      refine hK _ _ hb3' ?_
      clear hK K
      have hb3 : Below w2.heap.size w2 w3 := below_undrew hb3'
      have hS := HS.out.own.below (w := w2) hb3
      have hL := HL.out.own.below (w := w2) hb3
      have hcS := run_later (fun u hu => OwnB.conv (OwnB.below hS hu))
      have hcL := run_later (fun u hu => convTake (OwnB.below hL hu) hle)
      have HF := Lib.hid (below_toStart HB.out hb3)
      clear hS hL hb3 hb3'
      try simp only [Act.put]
      refine mix_pure ?_
      simp only [List.takeWhile, List.dropWhile, isPure]
      repeat (go_big_quiet_step (fail))
      refine wpQuiet_nil ?_
      unfold wpMix
      go_wp2
      go_ret
      exact ⟨rfl, HF.out⟩

set_option maxRecDepth 100000 in
theorem lifted (os : Os) (started : os.Started) (H : Type) (enc : TypeId × Value → H) :
    ReturnsInHanded {} Try.checked os 6 .any (Rows.varintApartSpec.pre6 enc Try.prog Try.f6 Rows.varintApartRow.domain false) (Rows.varintApartSpec.post enc Try.prog Try.f6 false true false false) := by
  refine returnsInHanded_of_change (C := Try.checked) own started (by kernel_rfl) Try.func6
    (ChangeSpec.witness6 (enc := enc) (C := Try.checked) false ⟨#[], #[.int .i64 0, .int .i64 0], []⟩ 8 (by kernel_rfl) (by kernel_rfl) (by kernel_rfl) (by kernel_rfl)) ?_
  intro W base args ds gs before hval0 hW hcnd _
  have hval : ∀ (j : Nat) t v, Try.f6.params[j]? = some t → args[j]? = some v → Value.okWide Try.prog W .any base t v := hval0
  have hW' := hW
  obtain ⟨p, q, hA0, hV, rfl, hfz, hnd⟩ := hW
  have hA : DataW.TrodAll enc Try.prog W 0 (fun _ => true) true Try.f6.params.toList args.toList ds p := hA0
  rw [Try.params6] at hA hval
  obtain ⟨v0, v1, d0, d1, p0, p1, rfl, rfl, rfl, h0, h1⟩ := trodAll_two hA
  obtain ⟨rfl, rfl⟩ := trodVars_none hV
  obtain ⟨a, rfl, rfl, rfl, wa⟩ := open_int Try.underlying3 (hval 0 3 v0 rfl rfl) h0
  obtain ⟨b, rfl, rfl, rfl, wb⟩ := open_int Try.underlying3 (hval 1 3 v1 rfl rfl) h1
  clear hA0 hval0
  have ha := in64_of_wf wa
  have hb := in64_of_wf wb
  refine (walk a b W ha.1 ha.2 hb.1 hb.2).mono fun e W' ⟨he, bel⟩ => ?_
  subst he
  exact ⟨_, rfl, _, _, _, [], _, [], hW', trodAll_mk1 (shut_bool Try.underlying4 _), trodAll_mk2 (shut_int Try.underlying3 wa) (shut_int Try.underlying3 wb), rfl, bel.frame _, fun h => by cases h⟩

/-- The statement. -/
theorem proved : Rows.VarintApartSaid :=
  OpenClaim.holds_of_wide 6 Try.f6 rfl rfl rfl rfl rfl rfl rfl ⟨rfl, rfl, rfl, rfl, rfl⟩ rfl rfl rfl rfl rfl (by kernel_rfl) Try.func6 (by kernel_rfl)
    (of_decide_eq_true (by kernel_rfl)) (by unfold Func.isWrapper; first | (rw [if_pos (by decide +kernel)]; kernel_rfl) | (rw [if_neg (by decide +kernel)]; exact ⟨rfl, rfl⟩))
    (fun os started H enc _ => lifted os started H enc)
end Go.Proofs.Yteakkbgfkcknlaa.Apart
