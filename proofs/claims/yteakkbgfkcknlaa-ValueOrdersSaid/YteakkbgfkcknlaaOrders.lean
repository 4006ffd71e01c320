/- What comes ahead of a second value comes ahead of what comes behind that, whichever the values. No conditions. -/
import Derived.Test.YteakkbgfkcknlaaLive2
import Derived.Test.YteakkbgfkcknlaaVr
import Derived.Test.YteakkbgfkcknlaaOpen
import Derived.SizedLaws
import Derived.ProofKit
import Derived.OpenShut
import Derived.ShutString
import Derived.ChangeOld
import Derived.Below
namespace Go.Proofs.Yteakkbgfkcknlaa.Orders
open Go.ChangeShapes Go.WideShapes Go.ChangeAt Go.RowKit Go.Joins
set_option linter.unusedVariables false

theorem own : ownKnob Try.prog.godebug = none := by kernel_rfl
theorem laidOut : laidOutB Try.prog = true := by kernel_rfl

set_option maxHeartbeats 4000000 in
set_option maxRecDepth 100000 in
theorem walk (a b c : VT) (va vb vc : Value) (w : World) (S : Nat → Prop) (hS : ∀ b, S b → b < w.heap.size) (ha : LV w S a va) (hb : LV w S b vb) (hc : LV w S c vc) :
    Calls Try.prog 11 #[va, vb, vc] w fun e w' => e = .returned (.bool true) ∧ Below w.heap.size w w' := by
  obtain ⟨A1, e1, B1, f1, rfl, -, -, -, -, -, -, -⟩ := ha.shape
  obtain ⟨A2, e2, B2, f2, rfl, -, -, -, -, -, -, -⟩ := hb.shape
  obtain ⟨A3, e3, B3, f3, rfl, -, -, -, -, -, -, -⟩ := hc.shape
  obtain ⟨u1, hu1⟩ : ∃ u1 : World, u1 = w.alloc (.cells #[.int .i64 a.kind, .int .i64 a.num, .string a.text, .slice A1 a.items.length e1, .slice B1 a.names.length f1] 49) := ⟨_, rfl⟩
  have b1 : Below w.heap.size w u1 := by rw [hu1]; exact below_box _
  have z1 : u1.heap.size = w.heap.size + 1 := by rw [hu1]; simp
  obtain ⟨u2, hu2⟩ : ∃ u2 : World, u2 = u1.alloc (.cells #[.int .i64 b.kind, .int .i64 b.num, .string b.text, .slice A2 b.items.length e2, .slice B2 b.names.length f2] 49) := ⟨_, rfl⟩
  have b2 : Below u1.heap.size u1 u2 := by rw [hu2]; exact below_box _
  have z2 : u2.heap.size = w.heap.size + 2 := by rw [hu2]; simp; omega
  have s1 : ∀ b, S b → b < u1.heap.size := sub_below hS b1
  have s2 : ∀ b, S b → b < u2.heap.size := sub_below s1 b2
  have V1 : Vr u1 S w.heap.size a A1 e1 B1 f1 := by rw [hu1]; exact Vr.new hS ha
  have V2 : Vr u2 S (w.heap.size + 1) b A2 e2 B2 f2 := by rw [hu2, ← z1]; exact Vr.new s1 (hb.below hS b1)
  obtain ⟨u3, hu3⟩ : ∃ u3 : World, u3 = u2.alloc (.cells #[.int .i64 c.kind, .int .i64 c.num, .string c.text, .slice A3 c.items.length e3, .slice B3 c.names.length f3] 49) := ⟨_, rfl⟩
  have b3 : Below u2.heap.size u2 u3 := by rw [hu3]; exact below_box _
  have V3 : Vr u3 S (w.heap.size + 1 + 1) c A3 e3 B3 f3 := by
    have e : w.heap.size + 1 + 1 = u2.heap.size := by omega
    rw [hu3, e]; exact Vr.new s2 ((hc.below hS b1).below s1 b2)
  have P1 := Lib.hid ((V1.call b2).call b3)
  have P2 := Lib.hid (V2.call b3)
  have P3 := Lib.hid V3
  have HB := Lib.hid (toStart (toStart b1 b2) b3)
  clear b1 b2 b3 z1 z2 s1 s2 V1 V2 V3 ha hb hc hS
  rw [hu2, hu1] at hu3
  clear hu1 hu2 u1 u2
  obtain ⟨la, hla⟩ : ∃ x, x = largeT a := ⟨_, rfl⟩
  obtain ⟨lb, hlb⟩ : ∃ x, x = largeT b := ⟨_, rfl⟩
  obtain ⟨lc, hlc⟩ : ∃ x, x = largeT c := ⟨_, rfl⟩
  have HLA := Lib.hid hla
  have HLB := Lib.hid hlb
  have HLC := Lib.hid hlc
  clear hla hlb hlc
  obtain ⟨x, hx⟩ : ∃ x, x = cmpV a b := ⟨_, rfl⟩
  obtain ⟨y, hy⟩ : ∃ x, x = cmpV b c := ⟨_, rfl⟩
  obtain ⟨z, hz⟩ : ∃ x, x = cmpV a c := ⟨_, rfl⟩
  have HT : Hid (Tri x y z) := Lib.hid (by rw [hx, hy, hz]; exact cmpV_tri a b c)
  have HX := Lib.hid hx
  have HY := Lib.hid hy
  have HZ := Lib.hid hz
  clear hx hy hz
  go_enter Try.func11, Try.ntmps11
  go_wp2_with fail
  rw [← hu3]
  clear hu3
  generalize w.heap.size + 1 + 1 = g3 at *
  generalize w.heap.size + 1 = g2 at *
  refine (P1.out.large HLA.out).mono ?_
  rintro e v1 ⟨rfl, hb⟩
  have P1 := Lib.hid (P1.out.call hb)
  have P2 := Lib.hid (P2.out.call hb)
  have P3 := Lib.hid (P3.out.call hb)
  have HB := Lib.hid (toStart HB.out hb)
  clear hb
  cases la
  · have k0 := P2.out.x.c0
    have k1 := P2.out.x.c1
    have k2 := P2.out.x.c2
    have k3 := P2.out.x.c3
    have k4 := P2.out.x.c4
    go_wp2_with fail
    clear k0 k1 k2 k3 k4
    refine (P2.out.large HLB.out).mono ?_
    rintro e v2 ⟨rfl, hb⟩
    have P1 := Lib.hid (P1.out.call hb)
    have P2 := Lib.hid (P2.out.call hb)
    have P3 := Lib.hid (P3.out.call hb)
    have HB := Lib.hid (toStart HB.out hb)
    clear hb
    cases lb
    · have k0 := P3.out.x.c0
      have k1 := P3.out.x.c1
      have k2 := P3.out.x.c2
      have k3 := P3.out.x.c3
      have k4 := P3.out.x.c4
      go_wp2_with fail
      clear k0 k1 k2 k3 k4
      refine (P3.out.large HLC.out).mono ?_
      rintro e v3 ⟨rfl, hb⟩
      have P1 := Lib.hid (P1.out.call hb)
      have P2 := Lib.hid (P2.out.call hb)
      have P3 := Lib.hid (P3.out.call hb)
      have HB := Lib.hid (toStart HB.out hb)
      clear hb
      cases lc
      · go_wp2_with fail
        refine wp_region_mix [0, 1, 3, 4, 6, 7, 2, 5, 8, 9, 10, 11] (by kernel_rfl) (by kernel_rfl) (fun _ d _ _ _ h => by cases d <;> exact h) ?_
        simp only [atNats, List.filterMap_cons, List.filterMap_nil, List.getElem?_toArray, List.getElem?_cons_succ, List.getElem?_cons_zero]
        have P1 := Lib.hid P1.out.drew
        have P2 := Lib.hid P2.out.drew
        have P3 := Lib.hid P3.out.drew
        have HB := Lib.hid HB.out.drew
        generalize v3.drew = v4 at *
        have k0 := cell_later (B := v4.heap.size) (w := v4) P1.out.x.c0 P1.out.x.lt
        have k1 := cell_later (B := v4.heap.size) (w := v4) P1.out.x.c1 P1.out.x.lt
        have k2 := cell_later (B := v4.heap.size) (w := v4) P1.out.x.c2 P1.out.x.lt
        have k3 := cell_later (B := v4.heap.size) (w := v4) P1.out.x.c3 P1.out.x.lt
        have k4 := cell_later (B := v4.heap.size) (w := v4) P1.out.x.c4 P1.out.x.lt
        have l0 := cell_later (B := v4.heap.size) (w := v4) P2.out.x.c0 P2.out.x.lt
        have l1 := cell_later (B := v4.heap.size) (w := v4) P2.out.x.c1 P2.out.x.lt
        have l2 := cell_later (B := v4.heap.size) (w := v4) P2.out.x.c2 P2.out.x.lt
        have l3 := cell_later (B := v4.heap.size) (w := v4) P2.out.x.c3 P2.out.x.lt
        have l4 := cell_later (B := v4.heap.size) (w := v4) P2.out.x.c4 P2.out.x.lt
        have m0 := cell_later (B := v4.heap.size) (w := v4) P3.out.x.c0 P3.out.x.lt
        have m1 := cell_later (B := v4.heap.size) (w := v4) P3.out.x.c1 P3.out.x.lt
        have m2 := cell_later (B := v4.heap.size) (w := v4) P3.out.x.c2 P3.out.x.lt
        have m3 := cell_later (B := v4.heap.size) (w := v4) P3.out.x.c3 P3.out.x.lt
        have m4 := cell_later (B := v4.heap.size) (w := v4) P3.out.x.c4 P3.out.x.lt
        first | refine mix_pure ?_ | refine mix_pureB ?_
        simp only [List.takeWhile, List.dropWhile, isPure]
        repeat (go_big_quiet_step (fail))
        refine wpQuiet_nil ?_
        clear k0 k1 k2 k3 k4 l0 l1 l2 l3 l4 m0 m1 m2 m3 m4
        first | refine mix_call rfl (fun K hK => ?_) | refine mix_callB rfl (fun K hK => ?_)
        go_simp
        refine (P1.out.compare P2.out HX.out HLA.out HLB.out).mono ?_
        rintro e v5 ⟨rfl, hb⟩
        refine hK _ _ hb ?_
        clear hK K
        try simp only [Act.put]
        have P1 := Lib.hid (P1.out.call hb)
        have P2 := Lib.hid (P2.out.call hb)
        have P3 := Lib.hid (P3.out.call hb)
        have HB := Lib.hid (toStart HB.out hb)
        clear hb
        first | refine mix_pure ?_ | refine mix_pureB ?_
        simp only [List.takeWhile, List.dropWhile, isPure]
        repeat (go_big_quiet_step (fail))
        refine wpQuiet_nil ?_
        first | refine mix_call rfl (fun K hK => ?_) | refine mix_callB rfl (fun K hK => ?_)
        go_simp
        refine (P2.out.compare P3.out HY.out HLB.out HLC.out).mono ?_
        rintro e v6 ⟨rfl, hb⟩
        refine hK _ _ hb ?_
        clear hK K
        try simp only [Act.put]
        have P1 := Lib.hid (P1.out.call hb)
        have P2 := Lib.hid (P2.out.call hb)
        have P3 := Lib.hid (P3.out.call hb)
        have HB := Lib.hid (toStart HB.out hb)
        clear hb
        first | refine mix_pure ?_ | refine mix_pureB ?_
        simp only [List.takeWhile, List.dropWhile, isPure]
        repeat (go_big_quiet_step (fail))
        refine wpQuiet_nil ?_
        first | refine mix_call rfl (fun K hK => ?_) | refine mix_callB rfl (fun K hK => ?_)
        go_simp
        refine (P1.out.compare P3.out HZ.out HLA.out HLC.out).mono ?_
        rintro e v7 ⟨rfl, hb⟩
        refine hK _ _ hb ?_
        clear hK K
        try simp only [Act.put]
        have P1 := Lib.hid (P1.out.call hb)
        have P2 := Lib.hid (P2.out.call hb)
        have P3 := Lib.hid (P3.out.call hb)
        have HB := Lib.hid (toStart HB.out hb)
        clear hb
        first | refine mix_pure ?_ | refine mix_pureB ?_
        simp only [List.takeWhile, List.dropWhile, isPure]
        repeat (go_big_quiet_step (fail))
        refine wpQuiet_nil ?_
        unfold wpMix
        clear P1 P2 P3 HX HY HZ HLA HLB HLC
        go_wp2_with fail
        refine (lives2_any _).mono ?_
        rintro e v8 ⟨rfl, hb⟩
        have HB := Lib.hid (toStart HB.out hb)
        clear hb
        by_cases hx : x > 0
        · go_wp2_with fail
          refine (lives2_any _).mono ?_
          rintro e v9 ⟨rfl, hb⟩
          have HF := Lib.hid (toStart HB.out hb)
          clear hb
          go_wp2_with fail
          go_ret
          exact ⟨rfl, HF.out⟩
        by_cases hy : y > 0
        · go_wp2_with fail
          refine (lives2_any _).mono ?_
          rintro e v9 ⟨rfl, hb⟩
          have HF := Lib.hid (toStart HB.out hb)
          clear hb
          go_wp2_with fail
          go_ret
          exact ⟨rfl, HF.out⟩
        have hz := (HT.out (by omega) (by omega)).1
        have hi := (HT.out (by omega) (by omega)).2
        by_cases hx2 : x < 0
        · have hz2 : z < 0 := by omega
          clear hi
          go_wp2_with fail
          go_ret
          exact ⟨by simp [hz, hz2], HB.out⟩
        by_cases hy2 : y < 0
        · have hz2 : z < 0 := by omega
          clear hi
          go_wp2_with fail
          go_ret
          exact ⟨by simp [hz, hz2], HB.out⟩
        · have d1 : decide (z < 0) = false := decide_eq_false (by omega)
          have d2 : decide (x < 0) = false := decide_eq_false (by omega)
          have d3 : decide (y < 0) = false := decide_eq_false (by omega)
          have hz2 : ¬ z < 0 := by omega
          clear hi
          go_wp2_with fail
          go_ret
          exact ⟨by simp [hz, d1, d2, d3], HB.out⟩
      · go_wp2_with fail
        refine (lives2_any _).mono ?_
        rintro e v9 ⟨rfl, hb⟩
        have HF := Lib.hid (toStart HB.out hb)
        clear hb
        go_wp2_with fail
        go_ret
        exact ⟨rfl, HF.out⟩
    · go_wp2_with fail
      refine (lives2_any _).mono ?_
      rintro e v9 ⟨rfl, hb⟩
      have HF := Lib.hid (toStart HB.out hb)
      clear hb
      go_wp2_with fail
      go_ret
      exact ⟨rfl, HF.out⟩
  · go_wp2_with fail
    refine (lives2_any _).mono ?_
    rintro e v9 ⟨rfl, hb⟩
    have HF := Lib.hid (toStart HB.out hb)
    clear hb
    go_wp2_with fail
    go_ret
    exact ⟨rfl, HF.out⟩

set_option maxRecDepth 100000 in
theorem lifted (os : Os) (started : os.Started) (H : Type) (enc : TypeId × Value → H) :
    ReturnsInHanded {} Try.checked os 11 .any (Rows.valueOrdersSpec.pre6 enc Try.prog Try.f11 Rows.valueOrdersRow.domain false) (Rows.valueOrdersSpec.post enc Try.prog Try.f11 false true false false) := by
  refine returnsInHanded_of_change_sized (C := Try.checked) own started (by kernel_rfl) Try.func11
    (ChangeSpec.witness6 (enc := enc) (C := Try.checked) false ⟨#[], #[.agg #[.int .i64 0, .int .i64 0, .string ByteArray.empty, .slice none 0 0, .slice none 0 0], .agg #[.int .i64 0, .int .i64 0, .string ByteArray.empty, .slice none 0 0, .slice none 0 0], .agg #[.int .i64 0, .int .i64 0, .string ByteArray.empty, .slice none 0 0, .slice none 0 0]], []⟩ 8 (by kernel_rfl) (by kernel_rfl) (by kernel_rfl) (by kernel_rfl)) ?_
  intro W base args ds gs before hval0 hW hcnd hsz0 _
  have hval : ∀ (j : Nat) t v, Try.f11.params[j]? = some t → args[j]? = some v → Value.okWide Try.prog W .any base t v := hval0
  have hsz : (DataW.weightsEach Try.prog (Try.f11.params.toList ++ Rows.valueOrdersSpec.plain.varTypes Try.prog) (ds ++ gs)).all (· ≤ reachBytes) = true := hsz0
  have hW' := hW
  obtain ⟨p, q, hA0, hV, rfl, hfz, hnd⟩ := hW
  have hA : DataW.TrodAll enc Try.prog W 0 (fun _ => true) true Try.f11.params.toList args.toList ds p := hA0
  rw [Try.params11] at hA hval hsz
  obtain ⟨v0, v1, v2, d0, d1, d2, p0, p1, p2, rfl, rfl, rfl, h0, h1, h2⟩ := trodAll_three hA
  obtain ⟨rfl, rfl⟩ := trodVars_none hV
  obtain ⟨a0, rfl, -⟩ := okWide_struct Try.underlying49 (hval 0 49 v0 rfl rfl)
  have k0 := h0
  have lt0 : ∀ x ∈ p0, x.block < W.heap.size := by obtain ⟨m, hm⟩ := k0; exact DataW.trod_lt m _ _ _ hm
  have wt0 : ∀ n ∈ d0.weights Try.prog 49, n ≤ reachBytes := fun n hn => by have := List.all_eq_true.1 hsz n (DataW.weights_mem_each (j := 0) rfl rfl n hn); simpa using this
  obtain ⟨a1, rfl, -⟩ := okWide_struct Try.underlying49 (hval 1 49 v1 rfl rfl)
  have k1 := h1
  have lt1 : ∀ x ∈ p1, x.block < W.heap.size := by obtain ⟨m, hm⟩ := k1; exact DataW.trod_lt m _ _ _ hm
  have wt1 : ∀ n ∈ d1.weights Try.prog 49, n ≤ reachBytes := fun n hn => by have := List.all_eq_true.1 hsz n (DataW.weights_mem_each (j := 1) rfl rfl n hn); simpa using this
  obtain ⟨a2, rfl, -⟩ := okWide_struct Try.underlying49 (hval 2 49 v2 rfl rfl)
  have k2 := h2
  have lt2 : ∀ x ∈ p2, x.block < W.heap.size := by obtain ⟨m, hm⟩ := k2; exact DataW.trod_lt m _ _ _ hm
  have wt2 : ∀ n ∈ d2.weights Try.prog 49, n ≤ reachBytes := fun n hn => by have := List.all_eq_true.1 hsz n (DataW.weights_mem_each (j := 2) rfl rfl n hn); simpa using this
  clear hA0 hval0
  obtain ⟨t0, ht0⟩ : ∃ t, LV W (fun b => b < W.heap.size) t (.agg a0) := by
    obtain ⟨m, hm⟩ := k0
    have h3 := open_val m _ _ hm wt0
    simpa [Value.cells] using h3
  obtain ⟨t1, ht1⟩ : ∃ t, LV W (fun b => b < W.heap.size) t (.agg a1) := by
    obtain ⟨m, hm⟩ := k1
    have h3 := open_val m _ _ hm wt1
    simpa [Value.cells] using h3
  obtain ⟨t2, ht2⟩ : ∃ t, LV W (fun b => b < W.heap.size) t (.agg a2) := by
    obtain ⟨m, hm⟩ := k2
    have h3 := open_val m _ _ hm wt2
    simpa [Value.cells] using h3
  refine (walk t0 t1 t2 _ _ _ W _ (fun _ h => h) ht0 ht1 ht2).mono fun e W' ⟨he, bel⟩ => ?_
  subst he
  exact ⟨_, rfl, _, _, _, [], _, [], hW', trodAll_mk1 (shut_bool Try.underlying4 _), (trodAll_cons_mk (Below.trod laidOut (by kernel_rfl) (of_decide_eq_true (by kernel_rfl)) k0 bel lt0) (trodAll_cons_mk (Below.trod laidOut (by kernel_rfl) (of_decide_eq_true (by kernel_rfl)) k1 bel lt1) (trodAll_cons_mk (Below.trod laidOut (by kernel_rfl) (of_decide_eq_true (by kernel_rfl)) k2 bel lt2) trodAll_mk0))), rfl, bel.frame _, fun h => by cases h⟩

/-- The statement. -/
theorem proved : Rows.ValueOrdersSaid :=
  OpenClaim.holds_of_wide 11 Try.f11 rfl rfl rfl rfl rfl rfl rfl ⟨rfl, rfl, rfl, rfl, rfl⟩ rfl rfl rfl rfl rfl (by kernel_rfl) Try.func11 (by kernel_rfl)
    (of_decide_eq_true (by kernel_rfl)) (by unfold Func.isWrapper; first | (rw [if_pos (by decide +kernel)]; kernel_rfl) | (rw [if_neg (by decide +kernel)]; exact ⟨rfl, rfl⟩))
    (fun os started H enc _ => lifted os started H enc)
end Go.Proofs.Yteakkbgfkcknlaa.Orders
