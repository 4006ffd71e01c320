/- Any two values stand to one another as the document says, and the other way round. No conditions. -/
import Derived.Test.YteakkbgfkcknlaaLive2
import Derived.Test.YteakkbgfkcknlaaCmpL
import Derived.Test.YteakkbgfkcknlaaOpen
import Derived.SizedLaws
import Derived.ProofKit
import Derived.OpenShut
import Derived.ShutString
import Derived.ChangeOld
import Derived.Below
namespace Go.Proofs.Yteakkbgfkcknlaa.Compares
open Go.ChangeShapes Go.WideShapes Go.ChangeAt Go.RowKit Go.Joins
set_option linter.unusedVariables false

theorem own : ownKnob Try.prog.godebug = none := by kernel_rfl
theorem laidOut : laidOutB Try.prog = true := by kernel_rfl

def Small (x : Int) : Prop := -1 ≤ x ∧ x ≤ 1
theorem small_ore {x y : Int} (h : Small x) (h' : Small y) : Small (ore x y) := by unfold ore; split <;> assumption
theorem small_cmpI (a b : Int) : Small (cmpI a b) := by unfold cmpI Small; split <;> first | omega | (split <;> omega)
theorem small_cmpB (a b : List UInt8) : Small (cmpB a b) := by unfold cmpB Small; split <;> first | omega | (split <;> omega)
mutual
theorem small_cmpT : ∀ a b : VT, Small (cmpT a b)
  | .mk k i s l ns, .mk k' i' s' l' ns' => by
    rw [cmpT_mk]
    exact small_ore (small_ore (small_cmpI _ _) (small_ore (small_cmpI _ _) (small_cmpB _ _))) (small_cmpTL _ l ns l' ns')
theorem small_cmpTL (d : Bool) : ∀ (l : List VT) (ns : List ByteArray) (l' : List VT) (ns' : List ByteArray), Small (cmpTL d l ns l' ns')
  | [], _, [], _ => by unfold cmpTL Small; omega
  | [], _, _ :: _, _ => by unfold cmpTL Small; omega
  | _ :: _, _, [], _ => by unfold cmpTL Small; omega
  | x :: l, ns, y :: l', ns' => by
    unfold cmpTL
    refine small_ore ?_ (small_ore (small_cmpT x y) (small_cmpTL d l _ l' _))
    split
    · exact small_cmpB _ _
    · unfold Small; omega
end
theorem small_cmpV (a b : VT) : Small (cmpV a b) := by
  unfold cmpV
  split
  · exact small_cmpT a b
  · split
    · unfold Small; omega
    · split <;> (unfold Small; omega)
theorem cmpV_self (a : VT) : cmpV a a = 0 := by have := cmpV_neg a a; omega
theorem wrap_small {c : Int} (h : Small c) : IntKind.i64.wrap (-c) = -c := by
  have h1 := h.1
  have h2 := h.2
  rw [i64wrap, wrap64_id (by omega) (by omega)]

set_option maxHeartbeats 4000000 in
set_option maxRecDepth 100000 in
theorem walk (a b : VT) (va vb : Value) (w : World) (S : Nat → Prop) (hS : ∀ b, S b → b < w.heap.size) (ha : LV w S a va) (hb : LV w S b vb) :
    Calls Try.prog 10 #[va, vb] w fun e w' => e = .returned (.bool true) ∧ Below w.heap.size w w' := by
  obtain ⟨A, ca, A', ca', B, cb, B', cb', rfl, rfl, -, -, -, -, -, v1, v2, hb0⟩ := two_vars hS ha hb
  have P1 := Lib.hid v1
  have P2 := Lib.hid v2
  have HB := Lib.hid hb0
  obtain ⟨la, hla⟩ : ∃ x, x = largeT a := ⟨_, rfl⟩
  obtain ⟨lb, hlb⟩ : ∃ x, x = largeT b := ⟨_, rfl⟩
  obtain ⟨c, hc⟩ : ∃ x, x = cmpV a b := ⟨_, rfl⟩
  obtain ⟨x, hx⟩ : ∃ x, x = mayT a := ⟨_, rfl⟩
  obtain ⟨y, hy⟩ : ∃ x, x = mayT b := ⟨_, rfl⟩
  have HLA := Lib.hid hla
  have HLB := Lib.hid hlb
  have HX := Lib.hid hx
  have HY := Lib.hid hy
  have HC := Lib.hid hc
  have HCN : Hid (-c = cmpV b a) := Lib.hid (by rw [hc, cmpV_neg a b])
  have HCS : Hid (0 = cmpV a a) := Lib.hid (cmpV_self a).symm
  have HC0 : Hid ((c == 0) = (cmpV a b == 0)) := Lib.hid (by rw [hc])
  have HW : Hid (IntKind.i64.wrap (-c) = -c) := Lib.hid (wrap_small (by rw [hc]; exact small_cmpV a b))
  have HEQ : Hid (x = true → y = true → ∀ r : Bool, (r = true ↔ a = b) → r = (c == 0)) := Lib.hid (fun h1 h2 r hr => by
    have h3 : c = cmpT a b := by rw [hc]; unfold cmpV; rw [if_pos ⟨by rw [← hx]; exact h1, by rw [← hy]; exact h2⟩]
    have h4 := cmpT_zero a b (hx.symm.trans h1) (hy.symm.trans h2)
    rw [h3]
    rw [Bool.eq_iff_iff, hr, beq_iff_eq]
    exact h4.symm)
  clear ha hb v1 v2 hb0 hla hlb hc hx hy
  go_enter Try.func10, Try.ntmps10
  go_wp2_with fail
  generalize (w.alloc (.cells #[.int .i64 a.kind, .int .i64 a.num, .string a.text, .slice A a.items.length ca, .slice A' a.names.length ca'] 49)).alloc (.cells #[.int .i64 b.kind, .int .i64 b.num, .string b.text, .slice B b.items.length cb, .slice B' b.names.length cb'] 49) = w1 at *
  refine (P1.out.large HLA.out).mono ?_
  rintro e u1 ⟨rfl, hb⟩
  have P1 := Lib.hid (P1.out.call hb)
  have P2 := Lib.hid (P2.out.call hb)
  have HB := Lib.hid (toStart HB.out hb)
  clear hb
  cases la
  · have q0 := P1.out.x.c0
    have q1 := P1.out.x.c1
    have q2 := P1.out.x.c2
    have q3 := P1.out.x.c3
    have q4 := P1.out.x.c4
    have r0 := P2.out.x.c0
    have r1 := P2.out.x.c1
    have r2 := P2.out.x.c2
    have r3 := P2.out.x.c3
    have r4 := P2.out.x.c4
    go_wp2_with fail
    clear q0 q1 q2 q3 q4 r0 r1 r2 r3 r4
    refine (P2.out.large HLB.out).mono ?_
    rintro e u2 ⟨rfl, hb⟩
    have P1 := Lib.hid (P1.out.call hb)
    have P2 := Lib.hid (P2.out.call hb)
    have HB := Lib.hid (toStart HB.out hb)
    clear hb
    cases lb
    · have q0 := P1.out.x.c0
      have q1 := P1.out.x.c1
      have q2 := P1.out.x.c2
      have q3 := P1.out.x.c3
      have q4 := P1.out.x.c4
      have r0 := P2.out.x.c0
      have r1 := P2.out.x.c1
      have r2 := P2.out.x.c2
      have r3 := P2.out.x.c3
      have r4 := P2.out.x.c4
      go_wp2_with fail
      clear q0 q1 q2 q3 q4 r0 r1 r2 r3 r4
      refine (P1.out.compare P2.out HC.out HLA.out HLB.out).mono ?_
      rintro e u3 ⟨rfl, hb⟩
      have P1 := Lib.hid (P1.out.call hb)
      have P2 := Lib.hid (P2.out.call hb)
      have HB := Lib.hid (toStart HB.out hb)
      clear hb
      have hw := HW.out
      have q0 := P1.out.x.c0
      have q1 := P1.out.x.c1
      have q2 := P1.out.x.c2
      have q3 := P1.out.x.c3
      have q4 := P1.out.x.c4
      have r0 := P2.out.x.c0
      have r1 := P2.out.x.c1
      have r2 := P2.out.x.c2
      have r3 := P2.out.x.c3
      have r4 := P2.out.x.c4
      go_wp2_with fail
      clear q0 q1 q2 q3 q4 r0 r1 r2 r3 r4
      refine (lives2_any _).mono ?_
      rintro e u4 ⟨rfl, hb⟩
      have P1 := Lib.hid (P1.out.call hb)
      have P2 := Lib.hid (P2.out.call hb)
      have HB := Lib.hid (toStart HB.out hb)
      clear hb
      have q0 := P1.out.x.c0
      have q1 := P1.out.x.c1
      have q2 := P1.out.x.c2
      have q3 := P1.out.x.c3
      have q4 := P1.out.x.c4
      have r0 := P2.out.x.c0
      have r1 := P2.out.x.c1
      have r2 := P2.out.x.c2
      have r3 := P2.out.x.c3
      have r4 := P2.out.x.c4
      go_wp2_with fail
      clear q0 q1 q2 q3 q4 r0 r1 r2 r3 r4
      refine (P1.out.lcompare P2.out HC.out).mono ?_
      rintro e u5 ⟨rfl, hb⟩
      have P1 := Lib.hid (P1.out.call hb)
      have P2 := Lib.hid (P2.out.call hb)
      have HB := Lib.hid (toStart HB.out hb)
      clear hb
      have q0 := P1.out.x.c0
      have q1 := P1.out.x.c1
      have q2 := P1.out.x.c2
      have q3 := P1.out.x.c3
      have q4 := P1.out.x.c4
      have r0 := P2.out.x.c0
      have r1 := P2.out.x.c1
      have r2 := P2.out.x.c2
      have r3 := P2.out.x.c3
      have r4 := P2.out.x.c4
      go_wp2_with fail
      clear q0 q1 q2 q3 q4 r0 r1 r2 r3 r4
      refine (P2.out.compare P1.out HCN.out HLB.out HLA.out).mono ?_
      rintro e u6 ⟨rfl, hb⟩
      have P1 := Lib.hid (P1.out.call hb)
      have P2 := Lib.hid (P2.out.call hb)
      have HB := Lib.hid (toStart HB.out hb)
      clear hb
      have q0 := P1.out.x.c0
      have q1 := P1.out.x.c1
      have q2 := P1.out.x.c2
      have q3 := P1.out.x.c3
      have q4 := P1.out.x.c4
      have r0 := P2.out.x.c0
      have r1 := P2.out.x.c1
      have r2 := P2.out.x.c2
      have r3 := P2.out.x.c3
      have r4 := P2.out.x.c4
      go_wp2_with fail
      clear q0 q1 q2 q3 q4 r0 r1 r2 r3 r4
      refine (P1.out.same P2.out HC0.out HLA.out HLB.out).mono ?_
      rintro e u7 ⟨rfl, hb⟩
      have P1 := Lib.hid (P1.out.call hb)
      have P2 := Lib.hid (P2.out.call hb)
      have HB := Lib.hid (toStart HB.out hb)
      clear hb
      have q0 := P1.out.x.c0
      have q1 := P1.out.x.c1
      have q2 := P1.out.x.c2
      have q3 := P1.out.x.c3
      have q4 := P1.out.x.c4
      have r0 := P2.out.x.c0
      have r1 := P2.out.x.c1
      have r2 := P2.out.x.c2
      have r3 := P2.out.x.c3
      have r4 := P2.out.x.c4
      go_wp2_with fail
      clear q0 q1 q2 q3 q4 r0 r1 r2 r3 r4
      refine (P1.out.compare P1.out HCS.out HLA.out HLA.out).mono ?_
      rintro e u8 ⟨rfl, hb⟩
      have P1 := Lib.hid (P1.out.call hb)
      have P2 := Lib.hid (P2.out.call hb)
      have HB := Lib.hid (toStart HB.out hb)
      clear hb
      have q0 := P1.out.x.c0
      have q1 := P1.out.x.c1
      have q2 := P1.out.x.c2
      have q3 := P1.out.x.c3
      have q4 := P1.out.x.c4
      have r0 := P2.out.x.c0
      have r1 := P2.out.x.c1
      have r2 := P2.out.x.c2
      have r3 := P2.out.x.c3
      have r4 := P2.out.x.c4
      go_wp2_with fail
      clear q0 q1 q2 q3 q4 r0 r1 r2 r3 r4
      refine (P1.out.rmay HX.out).mono ?_
      rintro e u9 ⟨rfl, hb⟩
      have P1 := Lib.hid (P1.out.call hb)
      have P2 := Lib.hid (P2.out.call hb)
      have HB := Lib.hid (toStart HB.out hb)
      clear hb
      cases x
      · clear P1 P2 HX HY HC HCN HCS HC0 HW HEQ HLA HLB
        go_wp2_with fail
        go_ret
        exact ⟨by simp, HB.out⟩
      · have q0 := P1.out.x.c0
        have q1 := P1.out.x.c1
        have q2 := P1.out.x.c2
        have q3 := P1.out.x.c3
        have q4 := P1.out.x.c4
        have r0 := P2.out.x.c0
        have r1 := P2.out.x.c1
        have r2 := P2.out.x.c2
        have r3 := P2.out.x.c3
        have r4 := P2.out.x.c4
        go_wp2_with fail
        clear q0 q1 q2 q3 q4 r0 r1 r2 r3 r4
        refine (P2.out.rmay HY.out).mono ?_
        rintro e u10 ⟨rfl, hb⟩
        have P1 := Lib.hid (P1.out.call hb)
        have P2 := Lib.hid (P2.out.call hb)
        have HB := Lib.hid (toStart HB.out hb)
        clear hb
        cases y
        · clear P1 P2 HX HY HC HCN HCS HC0 HW HEQ HLA HLB
          go_wp2_with fail
          go_ret
          exact ⟨by simp, HB.out⟩
        · have q0 := P1.out.x.c0
          have q1 := P1.out.x.c1
          have q2 := P1.out.x.c2
          have q3 := P1.out.x.c3
          have q4 := P1.out.x.c4
          have r0 := P2.out.x.c0
          have r1 := P2.out.x.c1
          have r2 := P2.out.x.c2
          have r3 := P2.out.x.c3
          have r4 := P2.out.x.c4
          go_wp2_with fail
          clear q0 q1 q2 q3 q4 r0 r1 r2 r3 r4
          refine (P1.out.rsame P2.out).mono ?_
          rintro e u11 ⟨⟨r, rfl, hr⟩, hb⟩
          have P1 := Lib.hid (P1.out.call hb)
          have P2 := Lib.hid (P2.out.call hb)
          have HB := Lib.hid (toStart HB.out hb)
          clear hb
          obtain rfl := HEQ.out (by simp) (by simp) r hr
          clear hr
          clear P1 P2 HX HY HC HCN HCS HC0 HW HEQ HLA HLB
          go_wp2_with fail
          go_ret
          exact ⟨by simp, HB.out⟩
    · go_wp2_with fail
      refine (lives2_any _).mono ?_
      rintro e v9 ⟨rfl, hb⟩
      have HF := Lib.hid (toStart HB.out hb)
      clear hb
      go_wp2_with fail
      go_ret
      exact ⟨rfl, HF.out⟩
  · go_wp2_with fail
    refine (lives2_any _).mono ?_
    rintro e v9 ⟨rfl, hb⟩
    have HF := Lib.hid (toStart HB.out hb)
    clear hb
    go_wp2_with fail
    go_ret
    exact ⟨rfl, HF.out⟩

set_option maxRecDepth 100000 in
theorem lifted (os : Os) (started : os.Started) (H : Type) (enc : TypeId × Value → H) :
    ReturnsInHanded {} Try.checked os 10 .any (Rows.valueComparesSpec.pre6 enc Try.prog Try.f10 Rows.valueComparesRow.domain false) (Rows.valueComparesSpec.post enc Try.prog Try.f10 false true false false) := by
  refine returnsInHanded_of_change_sized (C := Try.checked) own started (by kernel_rfl) Try.func10
    (ChangeSpec.witness6 (enc := enc) (C := Try.checked) false ⟨#[], #[.agg #[.int .i64 0, .int .i64 0, .string ByteArray.empty, .slice none 0 0, .slice none 0 0], .agg #[.int .i64 0, .int .i64 0, .string ByteArray.empty, .slice none 0 0, .slice none 0 0]], []⟩ 8 (by kernel_rfl) (by kernel_rfl) (by kernel_rfl) (by kernel_rfl)) ?_
  intro W base args ds gs before hval0 hW hcnd hsz0 _
  have hval : ∀ (j : Nat) t v, Try.f10.params[j]? = some t → args[j]? = some v → Value.okWide Try.prog W .any base t v := hval0
  have hsz : (DataW.weightsEach Try.prog (Try.f10.params.toList ++ Rows.valueComparesSpec.plain.varTypes Try.prog) (ds ++ gs)).all (· ≤ reachBytes) = true := hsz0
  have hW' := hW
  obtain ⟨p, q, hA0, hV, rfl, hfz, hnd⟩ := hW
  have hA : DataW.TrodAll enc Try.prog W 0 (fun _ => true) true Try.f10.params.toList args.toList ds p := hA0
  rw [Try.params10] at hA hval hsz
  obtain ⟨v0, v1, d0, d1, p0, p1, rfl, rfl, rfl, h0, h1⟩ := trodAll_two hA
  obtain ⟨rfl, rfl⟩ := trodVars_none hV
  obtain ⟨a0, rfl, -⟩ := okWide_struct Try.underlying49 (hval 0 49 v0 rfl rfl)
  have k0 := h0
  have lt0 : ∀ x ∈ p0, x.block < W.heap.size := by obtain ⟨m, hm⟩ := k0; exact DataW.trod_lt m _ _ _ hm
  have wt0 : ∀ n ∈ d0.weights Try.prog 49, n ≤ reachBytes := fun n hn => by have := List.all_eq_true.1 hsz n (DataW.weights_mem_each (j := 0) rfl rfl n hn); simpa using this
  obtain ⟨a1, rfl, -⟩ := okWide_struct Try.underlying49 (hval 1 49 v1 rfl rfl)
  have k1 := h1
  have lt1 : ∀ x ∈ p1, x.block < W.heap.size := by obtain ⟨m, hm⟩ := k1; exact DataW.trod_lt m _ _ _ hm
  have wt1 : ∀ n ∈ d1.weights Try.prog 49, n ≤ reachBytes := fun n hn => by have := List.all_eq_true.1 hsz n (DataW.weights_mem_each (j := 1) rfl rfl n hn); simpa using this
  clear hA0 hval0
  obtain ⟨t0, ht0⟩ : ∃ t, LV W (fun b => b < W.heap.size) t (.agg a0) := by
    obtain ⟨m, hm⟩ := k0
    have h3 := open_val m _ _ hm wt0
    simpa [Value.cells] using h3
  obtain ⟨t1, ht1⟩ : ∃ t, LV W (fun b => b < W.heap.size) t (.agg a1) := by
    obtain ⟨m, hm⟩ := k1
    have h3 := open_val m _ _ hm wt1
    simpa [Value.cells] using h3
  refine (walk t0 t1 _ _ W _ (fun _ h => h) ht0 ht1).mono fun e W' ⟨he, bel⟩ => ?_
  subst he
  exact ⟨_, rfl, _, _, _, [], _, [], hW', trodAll_mk1 (shut_bool Try.underlying4 _), trodAll_mk2 (Below.trod laidOut (by kernel_rfl) (of_decide_eq_true (by kernel_rfl)) k0 bel lt0) (Below.trod laidOut (by kernel_rfl) (of_decide_eq_true (by kernel_rfl)) k1 bel lt1), rfl, bel.frame _, fun h => by cases h⟩

/-- The statement. -/
theorem proved : Rows.ValueComparesSaid :=
  OpenClaim.holds_of_wide 10 Try.f10 rfl rfl rfl rfl rfl rfl rfl ⟨rfl, rfl, rfl, rfl, rfl⟩ rfl rfl rfl rfl rfl (by kernel_rfl) Try.func10 (by kernel_rfl)
    (of_decide_eq_true (by kernel_rfl)) (by unfold Func.isWrapper; first | (rw [if_pos (by decide +kernel)]; kernel_rfl) | (rw [if_neg (by decide +kernel)]; exact ⟨rfl, rfl⟩))
    (fun os started H enc _ => lifted os started H enc)
end Go.Proofs.Yteakkbgfkcknlaa.Compares
