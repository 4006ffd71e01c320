/- Whether a value is none, and whether an operator may be, by the document. -/
import Derived.Test.YtipiplnhbecjeaaGreatKSpA
import Derived.Test.YtipiplnhbecjeaaGreatKRefQ
import Derived.Test.YtipiplnhbecjeaaGreatKRefZ
import Derived.Test.YtipiplnhbecjeaaGreatKPathA
import Derived.Test.YtipiplnhbecjeaaGreatKCodX
import Derived.Test.YtipiplnhbecjeaaGreatKSpF
import Derived.Test.YtipiplnhbecjeaaGreatKTrC
namespace Go.Proofs.YtipiplnhbecjeaaGreat
set_option linter.unusedVariables false
set_option linter.unusedSimpArgs false
open Go.RowKit
set_option maxRecDepth 100000
set_option maxHeartbeats 4000000 in
theorem rnone7_any (S : Nat → Prop) (t : VT) (v : Value) (w : World) (hS : ∀ b, S b → b < w.heap.size) (h : LV w S t v) :
    Calls Tryz.prog 28 #[v] w fun e w' => e = .returned (.bool (noneT t)) ∧ Below w.heap.size w w' := by
  obtain ⟨A, ca, A', ca', rfl, -, -, -, v1, hb⟩ := one_var hS h
  have q0 := v1.x.c0
  have q1 := v1.x.c1
  have q2 := v1.x.c2
  have q3 := v1.x.c3
  have q4 := v1.x.c4
  have HB := Lib.hid hb
  have HS := Lib.hid (rsame_any S (depthT t) t (.mk 0 0 ⟨#[]⟩ [] []) _ (.agg #[.int .i64 0, .int .i64 0, .string ⟨#[]⟩, .slice none 0 0, .slice none 0 0]) _ (Nat.le_refl _) v1.s v1.v (zero_lv _ _))
  clear h v1 hb
  go_enter Tryz.func28, Tryz.ntmps28
  go_wp2_with fail
  refine HS.out.mono ?_
  rintro e u ⟨⟨r, rfl, hr⟩, hb2⟩
  have HB2 := Lib.hid (HB.out.trans (hb2.mono HB.out.size))
  have HR := Lib.hid hr
  clear hb2 hr HS
  go_wp2_with fail
  go_ret
  refine ⟨?_, HB2.out⟩
  have e : r = noneT t := by rw [Bool.eq_iff_iff, HR.out, noneT_iff]
  rw [← e]
  rfl
set_option maxHeartbeats 16000000 in
theorem rmay7_any (S : Nat → Prop) (o : OpT) (cs : Array Value) (w : World) (hS : ∀ b, S b → b < w.heap.size) (h : OpL w S o cs) (hd : depthT o.val ≤ 1000) :
    Calls Tryz.prog 8 #[.agg cs] w fun e w' => e = .returned (.bool (mayO o)) ∧ Below w.heap.size w w' := by
  obtain ⟨PA, pc, a, b, c, d, e, TA, tc, rfl, hv, hp, ht, hpc, htc, hk, hpl, htl⟩ := h
  obtain ⟨VA, vc, VA', vc', hvs, -⟩ := hv.shape
  simp only [Value.agg.injEq, Array.mk.injEq, List.cons.injEq, and_true] at hvs
  obtain ⟨rfl, rfl, rfl, rfl, rfl⟩ := hvs
  obtain ⟨w1, hw1⟩ : ∃ W, W = w.alloc (.cells #[.int .i64 o.kind, .slice PA o.path.length pc, .int .i64 o.val.kind, .int .i64 o.val.num, .string o.val.text, .slice VA o.val.items.length vc, .slice VA' o.val.names.length vc', .slice TA o.to.length tc] 33) := ⟨_, rfl⟩
  have hbk : w1.heap[w.heap.size]? = some (.cells #[.int .i64 o.kind, .slice PA o.path.length pc, .int .i64 o.val.kind, .int .i64 o.val.num, .string o.val.text, .slice VA o.val.items.length vc, .slice VA' o.val.names.length vc', .slice TA o.to.length tc] 33 (0, 0)) := by rw [hw1]; exact heap_alloc_new w _
  have hb1 : Below w.heap.size w w1 := by rw [hw1]; exact (Below.refl _ _).alloc (Nat.le_refl _) _
  have y0 := Go.Joins.cell_of_block hbk 0
  have y1 := Go.Joins.cell_of_block hbk 1
  have y2 := Go.Joins.cell_of_block hbk 2
  have y3 := Go.Joins.cell_of_block hbk 3
  have y4 := Go.Joins.cell_of_block hbk 4
  have y5 := Go.Joins.cell_of_block hbk 5
  have y6 := Go.Joins.cell_of_block hbk 6
  have y7 := Go.Joins.cell_of_block hbk 7
  have hS1 : ∀ b, S b → b < w1.heap.size := fun b hb => Nat.lt_of_lt_of_le (hS b hb) hb1.size
  have hv1 := hv.keep fun b hb => hb1.block b (hS b hb)
  have HMA := Lib.hid (rpmay_any PA pc o.path w1 S (hp.keep fun b hb => hb1.block b (hS b hb)) (by omega))
  have HCK := Lib.hid (rcheck_any S o.val _ w1 hd hS1 hv1)
  have HNO := Lib.hid (rnone7_any S o.val _ w1 hS1 hv1)
  have HBK := Lib.hid hbk
  have HB1 := Lib.hid hb1
  have HW1 := Lib.hid hw1
  have HS := Lib.hid hS
  have HT := Lib.hid ht
  have HTL := Lib.hid htl
  obtain ⟨r, hr⟩ : ∃ r, r = mayO o := ⟨_, rfl⟩
  have HR := Lib.hid hr
  rw [← hr]
  clear hbk hb1 hS1 hv1 hv hp ht hpc htc hk hpl htl hd hS hr
  go_enter Tryz.func8, Tryz.ntmps8
  go_wp2_with fail
  rw [← hw1]
  clear hw1
  refine HMA.out.mono ?_
  rintro e w2 ⟨rfl, rfl⟩
  clear HMA
  cases hmp : mayP o.path
  · go_wp2_with fail
    go_ret
    exact ⟨by rw [HR.out]; unfold mayO; rw [hmp]; rfl, HB1.out⟩
  have HMP := Lib.hid hmp
  clear hmp
  obtain ⟨k, hk⟩ : ∃ k, k = o.kind := ⟨_, rfl⟩
  rw [← hk] at y0
  have HK := Lib.hid hk.symm
  clear hk
  by_cases k2 : k = 2
  · subst k2
    go_wp2_with fail
    refine HNO.out.mono ?_
    rintro e w3 ⟨rfl, hb3⟩
    have HB3 := Lib.hid (HB1.out.trans (hb3.mono HB1.out.size))
    have HBK3 := (hb3.block _ (Array.getElem?_eq_some_iff.1 HBK.out).1).trans HBK.out
    have z7 := Go.Joins.cell_of_block HBK3 7
    obtain ⟨b1, d1⟩ : ∃ b, noneT o.val = b := ⟨_, rfl⟩
    obtain ⟨b2, d2⟩ : ∃ b, ((o.to.length : Int) == 0) = b := ⟨_, rfl⟩
    have HE : Hid (mayO o = (b1 && b2)) := Lib.hid (by
      rw [← d1, ← d2]
      unfold mayO
      rw [HMP.out, HK.out]
      rw [Bool.eq_iff_iff]
      simp)
    clear hb3 HBK3 HNO
    cases b1 <;> cases b2
    all_goals
      go_wp2_with fail
      go_ret
      exact ⟨by rw [HR.out, HE.out]; rfl, HB3.out⟩
  have e2 := beq_false_of_ne k2
  by_cases k6 : k = 6
  · subst k6
    go_wp2_with fail
    refine HNO.out.mono ?_
    rintro e w3 ⟨rfl, hb3⟩
    have HB3 := Lib.hid (HB1.out.trans (hb3.mono HB1.out.size))
    have HBK3 := (hb3.block _ (Array.getElem?_eq_some_iff.1 HBK.out).1).trans HBK.out
    have z7 := Go.Joins.cell_of_block HBK3 7
    have HTO := Lib.hid (rpmay_any TA tc o.to w3 S (HT.out.keep fun b hb => HB3.out.block b (HS.out b hb)) (by have := HTL.out; omega))
    obtain ⟨b1, d1⟩ : ∃ b, noneT o.val = b := ⟨_, rfl⟩
    obtain ⟨b2, d2⟩ : ∃ b, mayP o.to = b := ⟨_, rfl⟩
    have HE : Hid (mayO o = (b1 && b2)) := Lib.hid (by
      rw [← d1, ← d2]
      unfold mayO
      rw [HMP.out, HK.out]
      rw [Bool.eq_iff_iff]
      simp)
    rw [d2] at HTO
    clear hb3 HBK3 HNO d2
    cases b1
    · go_wp2_with fail
      go_ret
      exact ⟨by rw [HR.out, HE.out]; rfl, HB3.out⟩
    · go_wp2_with fail
      refine HTO.out.mono ?_
      rintro e w4 ⟨rfl, rfl⟩
      cases b2
      all_goals
        go_wp2_with fail
        go_ret
        exact ⟨by rw [HR.out, HE.out]; rfl, HB3.out⟩
  have e6 := beq_false_of_ne k6
  by_cases k3 : k = 3
  · subst k3
    by_cases hv3 : o.val.kind = 3
    · have e3 : (o.val.kind == 3) = true := by rw [hv3]; rfl
      have HV3 := Lib.hid hv3
      clear hv3
      go_wp2_with fail
      refine HCK.out.mono ?_
      rintro e w3 ⟨rfl, hb3⟩
      have HB3 := Lib.hid (HB1.out.trans (hb3.mono HB1.out.size))
      have HBK3 := (hb3.block _ (Array.getElem?_eq_some_iff.1 HBK.out).1).trans HBK.out
      have z7 := Go.Joins.cell_of_block HBK3 7
      obtain ⟨b1, d1⟩ : ∃ b, (checkT o.val == 0) = b := ⟨_, rfl⟩
      obtain ⟨b2, d2⟩ : ∃ b, ((o.to.length : Int) == 0) = b := ⟨_, rfl⟩
      have HE : Hid (mayO o = (b1 && b2)) := Lib.hid (by
        rw [← d1, ← d2]
        unfold mayO
        rw [HMP.out, HK.out, HV3.out]
        rw [Bool.eq_iff_iff]
        simp)
      clear hb3 HBK3 HCK
      cases b1 <;> cases b2
      all_goals
        go_wp2_with fail
        go_ret
        exact ⟨by rw [HR.out, HE.out]; rfl, HB3.out⟩
    · have e3 : (o.val.kind == 3) = false := by simpa using hv3
      have HV3 := Lib.hid hv3
      clear hv3
      go_wp2_with fail
      go_ret
      exact ⟨by rw [HR.out]; unfold mayO; rw [HK.out]; simp [HV3.out], HB1.out⟩
  have e3 := beq_false_of_ne k3
  by_cases k1 : k = 1
  · subst k1
    go_wp2_with fail
    refine HCK.out.mono ?_
    rintro e w3 ⟨rfl, hb3⟩
    have HB3 := Lib.hid (HB1.out.trans (hb3.mono HB1.out.size))
    have HBK3 := (hb3.block _ (Array.getElem?_eq_some_iff.1 HBK.out).1).trans HBK.out
    have z7 := Go.Joins.cell_of_block HBK3 7
    obtain ⟨b1, d1⟩ : ∃ b, (checkT o.val == 0) = b := ⟨_, rfl⟩
    obtain ⟨b2, d2⟩ : ∃ b, ((o.to.length : Int) == 0) = b := ⟨_, rfl⟩
    have HE : Hid (mayO o = (b1 && b2)) := Lib.hid (by
      rw [← d1, ← d2]
      unfold mayO
      rw [HMP.out, HK.out]
      rw [Bool.eq_iff_iff]
      simp)
    clear hb3 HBK3 HCK
    cases b1 <;> cases b2
    all_goals
      go_wp2_with fail
      go_ret
      exact ⟨by rw [HR.out, HE.out]; rfl, HB3.out⟩
  have e1 := beq_false_of_ne k1
  by_cases k4 : k = 4
  · subst k4
    go_wp2_with fail
    refine HCK.out.mono ?_
    rintro e w3 ⟨rfl, hb3⟩
    have HB3 := Lib.hid (HB1.out.trans (hb3.mono HB1.out.size))
    have HBK3 := (hb3.block _ (Array.getElem?_eq_some_iff.1 HBK.out).1).trans HBK.out
    have z7 := Go.Joins.cell_of_block HBK3 7
    obtain ⟨b1, d1⟩ : ∃ b, (checkT o.val == 0) = b := ⟨_, rfl⟩
    obtain ⟨b2, d2⟩ : ∃ b, ((o.to.length : Int) == 0) = b := ⟨_, rfl⟩
    have HE : Hid (mayO o = (b1 && b2)) := Lib.hid (by
      rw [← d1, ← d2]
      unfold mayO
      rw [HMP.out, HK.out]
      rw [Bool.eq_iff_iff]
      simp)
    clear hb3 HBK3 HCK
    cases b1 <;> cases b2
    all_goals
      go_wp2_with fail
      go_ret
      exact ⟨by rw [HR.out, HE.out]; rfl, HB3.out⟩
  have e4 := beq_false_of_ne k4
  by_cases k5 : k = 5
  · subst k5
    go_wp2_with fail
    refine HCK.out.mono ?_
    rintro e w3 ⟨rfl, hb3⟩
    have HB3 := Lib.hid (HB1.out.trans (hb3.mono HB1.out.size))
    have HBK3 := (hb3.block _ (Array.getElem?_eq_some_iff.1 HBK.out).1).trans HBK.out
    have z7 := Go.Joins.cell_of_block HBK3 7
    obtain ⟨b1, d1⟩ : ∃ b, (checkT o.val == 0) = b := ⟨_, rfl⟩
    obtain ⟨b2, d2⟩ : ∃ b, ((o.to.length : Int) == 0) = b := ⟨_, rfl⟩
    have HE : Hid (mayO o = (b1 && b2)) := Lib.hid (by
      rw [← d1, ← d2]
      unfold mayO
      rw [HMP.out, HK.out]
      rw [Bool.eq_iff_iff]
      simp)
    clear hb3 HBK3 HCK
    cases b1 <;> cases b2
    all_goals
      go_wp2_with fail
      go_ret
      exact ⟨by rw [HR.out, HE.out]; rfl, HB3.out⟩
  have e5 := beq_false_of_ne k5
  by_cases k7 : k = 7
  · subst k7
    go_wp2_with fail
    refine HCK.out.mono ?_
    rintro e w3 ⟨rfl, hb3⟩
    have HB3 := Lib.hid (HB1.out.trans (hb3.mono HB1.out.size))
    have HBK3 := (hb3.block _ (Array.getElem?_eq_some_iff.1 HBK.out).1).trans HBK.out
    have z7 := Go.Joins.cell_of_block HBK3 7
    obtain ⟨b1, d1⟩ : ∃ b, (checkT o.val == 0) = b := ⟨_, rfl⟩
    obtain ⟨b2, d2⟩ : ∃ b, ((o.to.length : Int) == 0) = b := ⟨_, rfl⟩
    have HE : Hid (mayO o = (b1 && b2)) := Lib.hid (by
      rw [← d1, ← d2]
      unfold mayO
      rw [HMP.out, HK.out]
      rw [Bool.eq_iff_iff]
      simp)
    clear hb3 HBK3 HCK
    cases b1 <;> cases b2
    all_goals
      go_wp2_with fail
      go_ret
      exact ⟨by rw [HR.out, HE.out]; rfl, HB3.out⟩
  have e7 := beq_false_of_ne k7
  by_cases k8 : k = 8
  · subst k8
    go_wp2_with fail
    refine HCK.out.mono ?_
    rintro e w3 ⟨rfl, hb3⟩
    have HB3 := Lib.hid (HB1.out.trans (hb3.mono HB1.out.size))
    have HBK3 := (hb3.block _ (Array.getElem?_eq_some_iff.1 HBK.out).1).trans HBK.out
    have z7 := Go.Joins.cell_of_block HBK3 7
    obtain ⟨b1, d1⟩ : ∃ b, (checkT o.val == 0) = b := ⟨_, rfl⟩
    obtain ⟨b2, d2⟩ : ∃ b, ((o.to.length : Int) == 0) = b := ⟨_, rfl⟩
    have HE : Hid (mayO o = (b1 && b2)) := Lib.hid (by
      rw [← d1, ← d2]
      unfold mayO
      rw [HMP.out, HK.out]
      rw [Bool.eq_iff_iff]
      simp)
    clear hb3 HBK3 HCK
    cases b1 <;> cases b2
    all_goals
      go_wp2_with fail
      go_ret
      exact ⟨by rw [HR.out, HE.out]; rfl, HB3.out⟩
  have e8 := beq_false_of_ne k8
  have HN : Hid (mayO o = false) := Lib.hid (by
    unfold mayO
    rw [HK.out]
    simp [k3, k1, k4, k5, k7, k8, k2, k6])
  clear k3 k1 k4 k5 k7 k8 k2 k6
  go_wp2_with fail
  go_ret
  exact ⟨by rw [HR.out, HN.out]; rfl, HB1.out⟩
end Go.Proofs.YtipiplnhbecjeaaGreat

/- Whether an update is too large to be looked at, by the document. -/
namespace Go.Proofs.YtipiplnhbecjeaaGreat
set_option linter.unusedVariables false
set_option linter.unusedSimpArgs false
open Go.RowKit
set_option maxRecDepth 100000
def bigO (o : OpT) : Bool := largeT o.val || decide (50 < o.path.length) || decide (50 < o.to.length)
def largeS (s : SpecT) : Bool := (s.ops.take 60).any bigO || decide (50 < s.ops.length) || largeT s.doc
theorem largeS_hit {s : SpecT} {k : Nat} (hk : k < s.ops.length) (h60 : k < 60) (h : bigO s.ops[k] = true) : largeS s = true := by
  unfold largeS
  rw [List.any_eq_true.2 ⟨s.ops[k], List.mem_take_iff_getElem.2 ⟨k, by omega, rfl⟩, h⟩]
  rfl
theorem largeS_miss {s : SpecT} {k : Nat} (h : ∀ j (hj : j < s.ops.length), j < k → bigO s.ops[j] = false) (hk : k = s.ops.length ∨ 60 ≤ k) : largeS s = (decide (50 < s.ops.length) || largeT s.doc) := by
  unfold largeS
  rw [show (s.ops.take 60).any bigO = false from List.any_eq_false.2 fun x hx => by
    obtain ⟨j, hj, rfl⟩ := List.mem_take_iff_getElem.1 hx
    rw [h j (by omega) (by omega)]
    simp]
  rfl
theorem largeS_small {s : SpecT} (h : largeS s = false) : s.ops.length ≤ 50 ∧ depthT s.doc ≤ 41 ∧ ∀ o ∈ s.ops, depthT o.val ≤ 41 ∧ o.path.length ≤ 50 ∧ o.to.length ≤ 50 := by
  unfold largeS at h
  simp only [Bool.or_eq_false_iff, decide_eq_false_iff_not] at h
  obtain ⟨⟨h1, h2⟩, h3⟩ := h
  refine ⟨by omega, depth_small h3, fun o ho => ?_⟩
  rw [List.take_of_length_le (by omega)] at h1
  have h4 := List.any_eq_false.1 h1 o ho
  unfold bigO at h4
  simp only [Bool.or_eq_true, not_or, decide_eq_true_eq, Bool.not_eq_true] at h4
  exact ⟨depth_small h4.1.1, by omega, by omega⟩
set_option maxHeartbeats 16000000 in
theorem rlarge7_any (S : Nat → Prop) (s : SpecT) (cs : Array Value) (w : World) (hS : ∀ b, S b → b < w.heap.size) (h : SpecL w S s cs) :
    Calls Tryz.prog 6 #[.agg cs] w fun e w' => e = .returned (.bool (largeS s)) ∧ Below w.heap.size w w' := by
  have HL := Lib.hid h
  obtain ⟨DA, dc, DA', dc', OA, oc, rfl, hv, ho, hoc, hol⟩ := h
  obtain ⟨w1, hw1⟩ : ∃ W, W = w.alloc (.cells #[.bool s.rep, .int .i64 s.doc.kind, .int .i64 s.doc.num, .string s.doc.text, .slice DA s.doc.items.length dc, .slice DA' s.doc.names.length dc', .slice OA s.ops.length oc] 28) := ⟨_, rfl⟩
  have hbk : SBox w1 w.heap.size s DA dc DA' dc' OA oc := by rw [hw1]; exact heap_alloc_new w _
  have hb1 : Below w.heap.size w w1 := by rw [hw1]; exact (Below.refl _ _).alloc (Nat.le_refl _) _
  have hz1 : w1.heap.size = w.heap.size + 1 := by rw [hw1]; simp
  have HB1 := Lib.hid hb1
  have HBK : Hid (∀ W, Below w1.heap.size w1 W → SBox W w.heap.size s DA dc DA' dc' OA oc) := Lib.hid fun W hW => hbk.below hW
  have HO := Lib.hid ho
  have HV := Lib.hid hv
  have HS := Lib.hid hS
  have HOL := Lib.hid hol
  have HZ1 := Lib.hid hz1
  obtain ⟨r, hr⟩ : ∃ r, r = largeS s := ⟨_, rfl⟩
  have HR := Lib.hid hr
  rw [← hr]
  have HW1 := Lib.hid hw1
  clear hbk hb1 hv ho hoc hol hS hr hz1
  go_enter Tryz.func6, Tryz.ntmps6
  go_wp2_with fail
  rw [← hw1]
  clear hw1
  go_loopw [3] (fun i wr => ∃ k : Nat, i = .int .i64 k ∧ k ≤ s.ops.length ∧ k ≤ 60 ∧ Hid (Below w1.heap.size w1 wr) ∧ Hid (∀ j (h : j < s.ops.length), j < k → bigO s.ops[j] = false)) (fun i _ => s.ops.length - (intOf i).toNat)
  case atStart => exact ⟨0, rfl, by omega, by omega, Lib.hid (Below.refl _ _), Lib.hid fun j _ h => absurd h (by omega)⟩
  case round =>
    obtain ⟨k, rfl, hk, hk6, HB, HJ⟩ := hrel
    have hbw : Below w.heap.size w wr := HB1.out.trans (HB.out.mono HB1.out.size)
    have hbkw := HBK.out wr HB.out
    have y1 := Go.Joins.cell_of_block hbkw 1
    have y2 := Go.Joins.cell_of_block hbkw 2
    have y3 := Go.Joins.cell_of_block hbkw 3
    have y4 := Go.Joins.cell_of_block hbkw 4
    have y5 := Go.Joins.cell_of_block hbkw 5
    have y6 := Go.Joins.cell_of_block hbkw 6
    have HBW := Lib.hid hbw
    by_cases hlt : k < s.ops.length ∧ k < 60
    · obtain ⟨hlt, h60⟩ := hlt
      have d1 : decide ((k : Int) < (s.ops.length : Int)) = true := decide_eq_true (by omega)
      have d2 : decide ((k : Int) < 60) = true := decide_eq_true (by omega)
      have hS2 : ∀ b, S b → b < wr.heap.size := fun b hb => by have := HS.out b hb; have := hbw.size; omega
      obtain ⟨p, off, rfl, hpS, c0, c1, c2, c3, c4, c5, c6, c7, ho, x0, x1, x2, x3, x4, x5, x6, x7⟩ := (HO.out.below' HS.out hbw).cells k hlt
      obtain ⟨PA, pc, a, b2, c', d, e, TA, tc, he, hlv, -, -, -, -, -, hpl, htl⟩ := ho
      obtain ⟨VA, vc, VA', vc', hvs, -⟩ := hlv.shape
      simp only [Value.agg.injEq, Array.mk.injEq, List.cons.injEq, and_true] at he hvs
      obtain ⟨rfl, rfl, rfl, rfl, rfl, rfl, rfl, rfl⟩ := he
      obtain ⟨rfl, rfl, rfl, rfl, rfl⟩ := hvs
      have HLG := Lib.hid (large_any S s.ops[k].val _ wr hS2 hlv)
      have HX : Hid (∀ W, Below wr.heap.size wr W → W.cell? ⟨p, off + k * 8 + 1, none⟩ = some (.slice PA s.ops[k].path.length pc) ∧ W.cell? ⟨p, off + k * 8 + 7, none⟩ = some (.slice TA s.ops[k].to.length tc)) := Lib.hid fun W hW => ⟨(World.cell?_of_block (a := ⟨p, off + k * 8 + 1, none⟩) (hW.block p (hS2 p hpS))).trans x1, (World.cell?_of_block (a := ⟨p, off + k * 8 + 7, none⟩) (hW.block p (hS2 p hpS))).trans x7⟩
      have HBO : Hid (bigO s.ops[k] = (largeT s.ops[k].val || decide (50 < s.ops[k].path.length) || decide (50 < s.ops[k].to.length))) := Lib.hid rfl
      obtain ⟨np, hnp⟩ : ∃ n, n = s.ops[k].path.length := ⟨_, rfl⟩
      obtain ⟨nt, hnt⟩ : ∃ n, n = s.ops[k].to.length := ⟨_, rfl⟩
      obtain ⟨lg, hlg⟩ : ∃ b, b = largeT s.ops[k].val := ⟨_, rfl⟩
      rw [← hnp, ← hnt] at HX HBO
      rw [← hlg] at HLG HBO
      rw [← hnp] at x1
      rw [← hnt] at x7
      have HH := Lib.hid (fun hb : bigO s.ops[k] = true => largeS_hit hlt h60 hb)
      have H60 := Lib.hid h60
      clear hlv hpS hpl htl hbw hbkw hnp hnt hlg h60
      go_wp2_with fail
      refine HLG.out.mono ?_
      rintro e u ⟨rfl, hb⟩
      have HB2 := Lib.hid (HB.out.trans (hb.mono HB.out.size))
      obtain ⟨x1', x7'⟩ := HX.out u hb
      have hbku := HBK.out u HB2.out
      clear x0 x1 x2 x3 x4 x5 x6 x7 y1 y2 y3 y4 y5 y6 hb HLG
      have y6 := Go.Joins.cell_of_block hbku 6
      have HBE := Lib.hid (HB1.out.trans (HB2.out.mono HB1.out.size))
      clear hbku
      cases lg
      rotate_left
      · have HT : Hid (largeS s = true) := Lib.hid (HH.out (by rw [HBO.out]; rfl))
        go_wp2_with fail
        go_ret
        exact ⟨by rw [HR.out, HT.out]; rfl, HBE.out⟩
      by_cases h50 : 50 < np
      · have d3 : decide ((50 : Int) < (np : Int)) = true := decide_eq_true (by omega)
        have HT : Hid (largeS s = true) := Lib.hid (HH.out (by rw [HBO.out, decide_eq_true h50]; rfl))
        clear h50
        go_wp2_with fail
        go_ret
        exact ⟨by rw [HR.out, HT.out]; rfl, HBE.out⟩
      have d3 : decide ((50 : Int) < (np : Int)) = false := decide_eq_false (by omega)
      by_cases h51 : 50 < nt
      · have d4 : decide ((50 : Int) < (nt : Int)) = true := decide_eq_true (by omega)
        have HT : Hid (largeS s = true) := Lib.hid (HH.out (by rw [HBO.out, decide_eq_true h51]; simp))
        clear h50 h51
        go_wp2_with fail
        go_ret
        exact ⟨by rw [HR.out, HT.out]; rfl, HBE.out⟩
      · have d4 : decide ((50 : Int) < (nt : Int)) = false := decide_eq_false (by omega)
        have HT : Hid (bigO s.ops[k] = false) := Lib.hid (by rw [HBO.out, decide_eq_false h50, decide_eq_false h51]; rfl)
        clear h50 h51
        go_wp2_with fail
        go_roundw
        case rel => exact ⟨k + 1, by go_num, by omega, by have := H60.out; omega, HB2, Lib.hid fun j h hjk => by
          by_cases e : j = k
          · subst e; exact HT.out
          · exact HJ.out j h (by omega)⟩
        case measure => simp [intOf]; omega
    · have HM : Hid (largeS s = (decide (50 < s.ops.length) || largeT s.doc)) := Lib.hid (largeS_miss HJ.out (by omega))
      have HLG := Lib.hid (large_any S s.doc _ wr (fun b hb => by have := HS.out b hb; have := hbw.size; omega) (HV.out.keep fun b hb => hbw.block b (HS.out b hb)))
      have hcut : (k < s.ops.length ∧ ¬ k < 60) ∨ ¬ k < s.ops.length := by omega
      obtain ⟨lg, hlg⟩ : ∃ b, b = largeT s.doc := ⟨_, rfl⟩
      rw [← hlg] at HLG HM
      obtain ⟨n, hn⟩ : ∃ n, n = s.ops.length := ⟨_, rfl⟩
      rw [← hn] at HM hcut y6
      clear hbw hbkw hlg hlt hn hk
      by_cases h50 : 50 < n
      · have d3 : decide ((50 : Int) < (n : Int)) = true := decide_eq_true (by omega)
        have HE : Hid (largeS s = true) := Lib.hid (by rw [HM.out, decide_eq_true h50]; rfl)
        clear h50
        rcases hcut with ⟨c1, c2⟩ | c1
        · have d1 : decide ((k : Int) < (n : Int)) = true := decide_eq_true (by omega)
          have d2 : decide ((k : Int) < 60) = false := decide_eq_false (by omega)
          go_wp2_with fail
          go_ret
          exact ⟨by rw [HR.out, HE.out]; rfl, HBW.out⟩
        · have d1 : decide ((k : Int) < (n : Int)) = false := decide_eq_false (by omega)
          go_wp2_with fail
          go_ret
          exact ⟨by rw [HR.out, HE.out]; rfl, HBW.out⟩
      · have d3 : decide ((50 : Int) < (n : Int)) = false := decide_eq_false (by omega)
        have HE : Hid (largeS s = lg) := Lib.hid (by rw [HM.out, decide_eq_false h50]; rfl)
        clear h50
        rcases hcut with ⟨c1, c2⟩ | c1
        · have d1 : decide ((k : Int) < (n : Int)) = true := decide_eq_true (by omega)
          have d2 : decide ((k : Int) < 60) = false := decide_eq_false (by omega)
          go_wp2_with fail
          refine HLG.out.mono ?_
          rintro e u ⟨rfl, hb⟩
          have HB2 := Lib.hid (HBW.out.trans (hb.mono HBW.out.size))
          clear hb HLG
          go_wp2_with fail
          go_ret
          exact ⟨by rw [HR.out, HE.out]; rfl, HB2.out⟩
        · have d1 : decide ((k : Int) < (n : Int)) = false := decide_eq_false (by omega)
          go_wp2_with fail
          refine HLG.out.mono ?_
          rintro e u ⟨rfl, hb⟩
          have HB2 := Lib.hid (HBW.out.trans (hb.mono HBW.out.size))
          clear hb HLG
          go_wp2_with fail
          go_ret
          exact ⟨by rw [HR.out, HE.out]; rfl, HB2.out⟩
end Go.Proofs.YtipiplnhbecjeaaGreat

/- Whether an update is plain, by the document. -/
namespace Go.Proofs.YtipiplnhbecjeaaGreat
set_option linter.unusedVariables false
set_option linter.unusedSimpArgs false
open Go.RowKit
set_option maxRecDepth 100000
def SmallR (s : SpecT) : Prop := depthT s.doc ≤ 1000 ∧ ∀ o ∈ s.ops, depthT o.val ≤ 1000
set_option maxHeartbeats 16000000 in
theorem rplain_any (S : Nat → Prop) (s : SpecT) (cs : Array Value) (w : World) (hS : ∀ b, S b → b < w.heap.size) (h : SpecL w S s cs) (hd : SmallR s) :
    Calls Tryz.prog 39 #[.agg cs] w fun e w' => e = .returned (.bool (formedS s)) ∧ Below w.heap.size w w' := by
  obtain ⟨DA, dc, DA', dc', OA, oc, rfl, hv, ho, hoc, hol⟩ := h
  obtain ⟨w1, hw1⟩ : ∃ W, W = w.alloc (.cells #[.bool s.rep, .int .i64 s.doc.kind, .int .i64 s.doc.num, .string s.doc.text, .slice DA s.doc.items.length dc, .slice DA' s.doc.names.length dc', .slice OA s.ops.length oc] 28) := ⟨_, rfl⟩
  have hbk : SBox w1 w.heap.size s DA dc DA' dc' OA oc := by rw [hw1]; exact heap_alloc_new w _
  have hb1 : Below w.heap.size w w1 := by rw [hw1]; exact (Below.refl _ _).alloc (Nat.le_refl _) _
  have hS1 : ∀ b, S b → b < w1.heap.size := fun b hb => Nat.lt_of_lt_of_le (hS b hb) hb1.size
  have y0 := Go.Joins.cell_of_block hbk 0
  have y1 := Go.Joins.cell_of_block hbk 1
  have y2 := Go.Joins.cell_of_block hbk 2
  have y3 := Go.Joins.cell_of_block hbk 3
  have y4 := Go.Joins.cell_of_block hbk 4
  have y5 := Go.Joins.cell_of_block hbk 5
  have y6 := Go.Joins.cell_of_block hbk 6
  have hv1 := hv.keep fun b hb => hb1.block b (hS b hb)
  have HCK := Lib.hid (rcheck_any S s.doc _ w1 hd.1 hS1 hv1)
  have HNO := Lib.hid (rnone7_any S s.doc _ w1 hS1 hv1)
  have HB1 := Lib.hid hb1
  have HBK := Lib.hid hbk
  have HO := Lib.hid ho
  have HS := Lib.hid hS
  have HD := Lib.hid hd
  have HOL := Lib.hid hol
  obtain ⟨r, hr⟩ : ∃ r, r = formedS s := ⟨_, rfl⟩
  have HR := Lib.hid hr
  rw [← hr]
  clear hbk hb1 hS1 hv1 hv ho hoc hol hd hS hr
  obtain ⟨rp, hrp⟩ : ∃ rp, rp = s.rep := ⟨_, rfl⟩
  have HRP := Lib.hid hrp.symm
  rw [← hrp] at y0 hw1 ⊢
  obtain ⟨n, hn⟩ : ∃ n, n = s.ops.length := ⟨_, rfl⟩
  have HN := Lib.hid hn
  rw [← hn] at y6 hw1 ⊢
  have HW1 := Lib.hid hw1
  clear hrp hn
  go_enter Tryz.func39, Tryz.ntmps39
  cases rp
  · obtain ⟨b1, d1⟩ : ∃ b, noneT s.doc = b := ⟨_, rfl⟩
    obtain ⟨b4, d4⟩ : ∃ b, s.ops.all mayO = b := ⟨_, rfl⟩
    have HE : Hid (formedS s = (b1 && decide (0 < n) && decide (n ≤ 16) && b4)) := Lib.hid (by
      rw [← d1, ← d4]
      unfold formedS
      rw [HRP.out, HN.out]
      simp)
    have HAL := Lib.hid d4
    rw [d1] at HNO
    clear d1 d4 hw1
    go_wp2_with fail
    rw [← HW1.out]
    refine HNO.out.mono ?_
    rintro e w2 ⟨rfl, hb2⟩
    have HB2 := Lib.hid (HB1.out.trans (hb2.mono HB1.out.size))
    have hbk2 := HBK.out.below hb2
    have z6 := Go.Joins.cell_of_block hbk2 6
    rw [← HN.out] at z6
    have HBK2 := Lib.hid hbk2
    clear hb2 hbk2 HNO y0 y1 y2 y3 y4 y5 y6
    cases b1
    · have HE2 : Hid (formedS s = false) := Lib.hid (by rw [HE.out]; rfl)
      go_wp2_with fail
      go_ret
      exact ⟨by rw [HR.out, HE2.out]; rfl, HB2.out⟩
    rcases Nat.eq_zero_or_pos n with hz | hpos
    · have HE2 : Hid (formedS s = false) := Lib.hid (by rw [HE.out, hz]; rfl)
      subst hz
      go_wp2_with fail
      go_ret
      exact ⟨by rw [HR.out, HE2.out]; rfl, HB2.out⟩
    have d5 : decide ((n : Int) < 1) = false := decide_eq_false (by omega)
    by_cases h16 : 16 < n
    · have HE2 : Hid (formedS s = false) := Lib.hid (by rw [HE.out, decide_eq_false (show ¬ n ≤ 16 by omega)]; simp)
      have d6 : decide ((16 : Int) < (n : Int)) = true := decide_eq_true (by omega)
      clear h16
      go_wp2_with fail
      go_ret
      exact ⟨by rw [HR.out, HE2.out]; rfl, HB2.out⟩
    have HE2 : Hid (formedS s = b4) := Lib.hid (by rw [HE.out, decide_eq_true hpos, decide_eq_true (show n ≤ 16 by omega)]; simp)
    have d6 : decide ((16 : Int) < (n : Int)) = false := decide_eq_false (by omega)
    have hle : n ≤ 16 := by omega
    clear HE h16 hpos
    go_wp2_with fail
    go_loopw [3] (fun i wr => ∃ k : Nat, i = .int .i64 k ∧ k ≤ n ∧ Hid (Below w2.heap.size w2 wr) ∧ Hid (∀ j (h : j < s.ops.length), j < k → mayO s.ops[j] = true)) (fun i _ => n - (intOf i).toNat)
    case atStart => exact ⟨0, rfl, by omega, Lib.hid (Below.refl _ _), Lib.hid fun j _ h => absurd h (by omega)⟩
    case round =>
      obtain ⟨k, rfl, hk, HB, HJ⟩ := hrel
      have hbw : Below w.heap.size w wr := HB2.out.trans (HB.out.mono HB2.out.size)
      have hbkw := HBK2.out.below HB.out
      have y6 := Go.Joins.cell_of_block hbkw 6
      rw [← HN.out] at y6
      have HBW := Lib.hid hbw
      by_cases hlt : k < n
      · have d1 : decide ((k : Int) < (n : Int)) = true := decide_eq_true (by omega)
        have hlt' : k < s.ops.length := by rw [← HN.out]; exact hlt
        have hS2 : ∀ b, S b → b < wr.heap.size := fun b hb => by have := HS.out b hb; have := hbw.size; omega
        obtain ⟨p, off, rfl, hpS, c0, c1, c2, c3, c4, c5, c6, c7, ho, x0, x1, x2, x3, x4, x5, x6, x7⟩ := (HO.out.below' HS.out hbw).cells k hlt'
        have HMY := Lib.hid (rmay7_any S s.ops[k] #[c0, c1, c2, c3, c4, c5, c6, c7] wr hS2 ho (HD.out.2 _ (List.getElem_mem hlt')))
        have HLT := Lib.hid hlt'
        clear hbw hbkw ho hS2 hpS
        go_wp2_with fail
        refine HMY.out.mono ?_
        rintro e u ⟨rfl, hb⟩
        have HB3 := Lib.hid (HB.out.trans (hb.mono HB.out.size))
        clear hb HMY x0 x1 x2 x3 x4 x5 x6 x7 y6 z6
        cases hm : mayO s.ops[k]
        · have HF : Hid (b4 = false) := Lib.hid (by rw [← HAL.out]; exact all_not' HLT.out hm)
          clear hm
          go_wp2_with fail
          go_ret
          exact ⟨by rw [HR.out, HE2.out, HF.out]; rfl, HB2.out.trans (HB3.out.mono HB2.out.size)⟩
        · have HM := Lib.hid hm
          clear hm
          go_wp2_with fail
          go_roundw
          case rel => exact ⟨k + 1, by go_num, by omega, HB3, Lib.hid fun j h hjk => by
            by_cases e : j = k
            · subst e; exact HM.out
            · exact HJ.out j h (by omega)⟩
          case measure => simp [intOf]; omega
      · have d1 : decide ((k : Int) < (n : Int)) = false := decide_eq_false (by omega)
        have HT : Hid (b4 = true) := Lib.hid (by rw [← HAL.out]; exact all_upto' fun j h => HJ.out j h (by have := HN.out; omega))
        clear hbw hbkw
        go_wp2_with fail
        go_ret
        exact ⟨by rw [HR.out, HE2.out, HT.out]; rfl, HBW.out⟩
  · obtain ⟨b1, d1⟩ : ∃ b, ((n : Int) == 0) = b := ⟨_, rfl⟩
    obtain ⟨b2, d2⟩ : ∃ b, (s.doc.kind == 7) = b := ⟨_, rfl⟩
    obtain ⟨b3, d3⟩ : ∃ b, (checkT s.doc == 0) = b := ⟨_, rfl⟩
    have HE : Hid (formedS s = (b1 && b2 && b3)) := Lib.hid (by
      rw [← d1, ← d2, ← d3]
      unfold formedS
      rw [HRP.out, HN.out, Bool.eq_iff_iff]
      simp)
    clear hw1
    cases b1 <;> cases b2
    all_goals first
      | (go_wp2_with fail
         try rw [← HW1.out]
         go_ret
         exact ⟨by rw [HR.out, HE.out]; rfl, HB1.out⟩)
      | (go_wp2_with fail
         rw [← HW1.out]
         refine HCK.out.mono ?_
         rintro e w3 ⟨rfl, hb3⟩
         have HB3 := Lib.hid (HB1.out.trans (hb3.mono HB1.out.size))
         clear hb3
         go_wp2_with fail
         go_ret
         exact ⟨by rw [HR.out, HE.out]; rfl, HB3.out⟩)
end Go.Proofs.YtipiplnhbecjeaaGreat

/- The places of an update, by the document. -/
namespace Go.Proofs.YtipiplnhbecjeaaGreat
set_option linter.unusedVariables false
set_option linter.unusedSimpArgs false
open Go.RowKit
set_option maxRecDepth 100000
theorem below_apP {B : Nat} {w1 W W4 : World} {v : Value} {X : Obj} (hb : Below B w1 W) (hB : B ≤ W.heap.size) (hg : (W.alloc X).grownBy W4 v.ownBlock) (hv : ∀ g, v.ownBlock = some g → B ≤ g) : Below B w1 W4 := by
  have ha : Below B w1 (W.alloc X) := hb.alloc hB X
  exact ⟨hg.os.trans ha.os, hg.tape.trans ha.tape, hg.output.trans ha.output, Nat.le_trans ha.size hg.size, fun k hk => (hg.block k (by simp; omega) (fun e => by have := hv k e.symm; omega)).trans (ha.block k hk)⟩
/-- A row of places of the call's own. -/
def PlR (W : World) (S : Nat → Prop) (B : Nat) (A : Option Addr) (c : Nat) (qs : List (List ByteArray)) : Prop := ∃ vs, W.ownsRow B 23 1 (.slice A qs.length c) qs.length vs ∧ vs.length = qs.length ∧ ∀ i (h : i < qs.length) (h' : i < vs.length), SlP W S vs[i] qs[i]
theorem PlR.at {W : World} {S : Nat → Prop} {B : Nat} {A : Option Addr} {c : Nat} {qs : List (List ByteArray)} (h : PlR W S B A c qs) : PlsAt W S A qs := by
  obtain ⟨vs, h1, h2, h3⟩ := h
  exact row_pls h1 fun i hi => ⟨vs[i]'(by omega), List.getElem?_eq_getElem (by omega), h3 i hi (by omega)⟩
theorem placesL_take {l : List OpT} {k : Nat} (hk : k < l.length) : placesL (l.take (k + 1)) = placesL (l.take k) ++ placesO l[k] := by
  unfold placesL
  rw [List.take_add_one, List.getElem?_eq_getElem hk, List.flatMap_append]
  simp
theorem PlR.snoc {W W4 : World} {S : Nat → Prop} {B : Nat} {A' : Option Addr} {c' : Nat} {qs : List (List ByteArray)} {vs : List Value} {v : Value} {q : List ByteArray} (h2 : vs.length = qs.length) (h3 : ∀ i (h : i < qs.length) (h' : i < vs.length), SlP W S vs[i] qs[i]) (hk : ∀ b, S b → W4.heap[b]? = W.heap[b]?) (hq : SlP W4 S v q)
    (ho : W4.ownsRow B 23 1 (.slice A' (qs.length + 1) c') (qs.length + 1) (vs ++ [v])) : W4.ownsRow B 23 1 (.slice A' (qs ++ [q]).length c') (qs ++ [q]).length (vs ++ [v]) ∧ (vs ++ [v]).length = (qs ++ [q]).length ∧ ∀ i (h : i < (qs ++ [q]).length) (h' : i < (vs ++ [v]).length), SlP W4 S (vs ++ [v])[i] (qs ++ [q])[i] := by
  refine ⟨by rw [List.length_append, List.length_singleton]; exact ho, by simp [h2], fun i h h' => ?_⟩
  by_cases hi : i < qs.length
  · rw [List.getElem_append_left hi, List.getElem_append_left (by omega)]
    exact (h3 i hi (by omega)).keep hk
  · have he : i = qs.length := by simp at h; omega
    subst he
    rw [List.getElem_append_right (by omega), List.getElem_append_right (by omega)]
    simpa [h2] using hq
set_option maxHeartbeats 16000000 in
theorem rplaces_any (S : Nat → Prop) (s : SpecT) (cs : Array Value) (w : World) (hS : ∀ b, S b → b < w.heap.size) (h : SpecL w S s cs) (hn : s.ops.length ≤ 1000) :
    Calls Tryz.prog 11 #[.agg cs] w fun e w' => ∃ A c, e = .returned (.slice A (placesL s.ops).length c) ∧ PlR w' S (w.heap.size + 1) A c (placesL s.ops) ∧ Below w.heap.size w w' := by
  obtain ⟨i0, hi, hz0, hz1, hz2⟩ := info_parts Tryz.infoStrsR
  obtain ⟨DA, dc, DA', dc', OA, oc, rfl, hv, ho, hoc, hol⟩ := h
  obtain ⟨w1, hw1⟩ : ∃ W, W = w.alloc (.cells #[.bool s.rep, .int .i64 s.doc.kind, .int .i64 s.doc.num, .string s.doc.text, .slice DA s.doc.items.length dc, .slice DA' s.doc.names.length dc', .slice OA s.ops.length oc] 28) := ⟨_, rfl⟩
  have hbk : SBox w1 w.heap.size s DA dc DA' dc' OA oc := by rw [hw1]; exact heap_alloc_new w _
  have hb1 : Below w.heap.size w w1 := by rw [hw1]; exact (Below.refl _ _).alloc (Nat.le_refl _) _
  have hz1' : w1.heap.size = w.heap.size + 1 := by rw [hw1]; simp
  have ho1 := ho.below' hS hb1
  have HB1 := Lib.hid hb1
  have HZ1 := Lib.hid hz1'
  have HBK := Lib.hid hbk
  have HO1 := Lib.hid ho1
  have HS1 : Hid (∀ b, S b → b < w1.heap.size) := Lib.hid fun b hb => Nat.lt_of_lt_of_le (hS b hb) hb1.size
  have HW1 := Lib.hid hw1
  clear hv ho hoc hol hS hbk hb1 hz1' ho1
  go_enter Tryz.func11, Tryz.ntmps11
  go_wp2_with fail
  rw [← hw1]
  clear hw1
  go_loopw [3, 4] (fun v3 i wr => ∃ (k : Nat) (A : Option Addr) (c : Nat), i = .int .i64 k ∧ k ≤ s.ops.length ∧ v3 = .slice A (placesL (s.ops.take k)).length c ∧ Hid (PlR wr S w1.heap.size A c (placesL (s.ops.take k))) ∧ Hid (Below w1.heap.size w1 wr)) (fun _ i _ => s.ops.length - (intOf i).toNat)
  case atStart => exact ⟨0, none, 0, rfl, by omega, rfl, Lib.hid ⟨[], World.ownsRow_nil _ _ _ _, rfl, fun i h => absurd h (by simp [placesL])⟩, Lib.hid (Below.refl _ _)⟩
  case round =>
    obtain ⟨k, A, c, rfl, hk, rfl, HP, HB⟩ := hrel
    have hbkw : SBox wr w.heap.size s DA dc DA' dc' OA oc := (HB.out.block _ (by have := HZ1.out; omega)).trans HBK.out
    have y6 := Go.Joins.cell_of_block hbkw 6
    by_cases hlt : k < s.ops.length
    · have d1 : decide ((k : Int) < (s.ops.length : Int)) = true := decide_eq_true (by omega)
      obtain ⟨p, off, rfl, hpS, c0, c1, c2, c3, c4, c5, c6, c7, ho, x0, x1, x2, x3, x4, x5, x6, x7⟩ := HO1.out.cells k hlt
      obtain ⟨PA, pc, a, b2, c', d, e, TA, tc, he, hlv, hpa, hta, hpc, htc, -, hpl, htl⟩ := ho
      simp only [Array.mk.injEq, List.cons.injEq, and_true] at he
      obtain ⟨rfl, rfl, rfl, rfl, rfl, rfl, rfl, rfl⟩ := he
      have HX : Hid (∀ W, Below w1.heap.size w1 W → W.cell? ⟨w.heap.size, 6, none⟩ = some (.slice (some ⟨p, off, none⟩) s.ops.length oc) ∧ W.cell? ⟨p, off + k * 8, none⟩ = some (.int .i64 s.ops[k].kind) ∧ W.cell? ⟨p, off + k * 8 + 1, none⟩ = some (.slice PA s.ops[k].path.length pc) ∧ W.cell? ⟨p, off + k * 8 + 7, none⟩ = some (.slice TA s.ops[k].to.length tc) ∧ SlP W S (.slice PA s.ops[k].path.length pc) s.ops[k].path ∧ SlP W S (.slice TA s.ops[k].to.length tc) s.ops[k].to) := Lib.hid fun W hW => by
        have hp := hW.block p (HS1.out p hpS)
        have hkp : ∀ b, S b → W.heap[b]? = w1.heap[b]? := fun b hb => hW.block b (HS1.out b hb)
        refine ⟨?_, (World.cell?_of_block (a := ⟨p, off + k * 8, none⟩) hp).trans x0, (World.cell?_of_block (a := ⟨p, off + k * 8 + 1, none⟩) hp).trans x1, (World.cell?_of_block (a := ⟨p, off + k * 8 + 7, none⟩) hp).trans x7, ⟨PA, pc, rfl, hpa.keep hkp, hpc, hpl⟩, ⟨TA, tc, rfl, hta.keep hkp, htc, htl⟩⟩
        have hb : SBox W w.heap.size s DA dc DA' dc' (some ⟨p, off, none⟩) oc := (hW.block _ (by have := HZ1.out; omega)).trans HBK.out
        exact Go.Joins.cell_of_block hb 6
      obtain ⟨kd, hkd⟩ : ∃ kd, kd = s.ops[k].kind := ⟨_, rfl⟩
      rw [← hkd] at HX
      clear hbkw y6 hlv hpa hta hpc htc hpl htl hpS x0 x1 x2 x3 x4 x5 x6 x7
      obtain ⟨y6, x0, x1, x7, -, -⟩ := HX.out wr HB.out
      obtain ⟨vs, hr1, hr2, hr3⟩ := HP.out
      have hN := placesL_le (s.ops.take k)
      rw [List.length_take] at hN
      obtain ⟨N, hNN⟩ : ∃ N, N = (placesL (s.ops.take k)).length := ⟨_, rfl⟩
      have HNN := Lib.hid hNN
      have hN2 : N ≤ 2000 := by omega
      have hjr : ∀ X : Obj, (wr.alloc X).ownsRow w1.heap.size 23 1 (.slice A N c) N vs := fun X => by rw [hNN]; exact ownsRow_grown hr1 (World.grownBy_alloc wr X none) (fun r e => by cases e)
      have HRR := Lib.hid (And.intro hr2 hr3)
      have HRT : Hid (∀ g, (Value.slice A N c).ownBlock = some g → w1.heap.size ≤ g) := Lib.hid fun g hg => (row_type (hjr (.deferred none)) g hg).1
      rw [← hNN]
      clear hr1 hr2 hr3 hNN hN
      have hs1 := HB.out.size
      have hsame : ∀ W4, Below w1.heap.size w1 W4 → ∀ b, S b → W4.heap[b]? = wr.heap[b]? := fun W4 h4 b hb => (h4.block b (HS1.out b hb)).trans (HB.out.block b (HS1.out b hb)).symm
      have hsnoc : ∀ (W4 : World) (A4 : Option Addr) (c4 : Nat), Below w1.heap.size w1 W4 → SlP W4 S (.slice PA s.ops[k].path.length pc) s.ops[k].path → W4.ownsRow w1.heap.size 23 1 (.slice A4 (N + 1) c4) (N + 1) (vs ++ [.slice PA s.ops[k].path.length pc]) → _ := fun W4 A4 c4 h4 hq ho => PlR.snoc HRR.out.1 HRR.out.2 (hsame W4 h4) hq (by rw [← HNN.out]; exact ho)
      by_cases h6 : kd = 6
      · have d6 : (kd == 6) = true := by rw [h6]; rfl
        have hpo : placesO s.ops[k] = [s.ops[k].path, s.ops[k].to] := by unfold placesO; rw [if_pos (hkd ▸ h6)]
        have HPO := Lib.hid hpo
        have HSN := Lib.hid hsnoc
        clear h6 hpo hsame hsnoc hkd
        go_wp2_with (first | (at_builtin; refine wpList_append_own _ rfl _ _ 34 rfl w1.heap.size 23 i0 (.slice none 0 0) 1 24 Tryz.underlying34 hi hz0 hz1 hz2 rfl (by decide) _ N vs rfl (hjr _) ⟨wr.heap.size, 0, none⟩ 1 1 [.slice PA s.ops[k].path.length pc] rfl rfl (cell_one_new _ _ _) (by simp [Value.oneCell']) (by unfold maxLen; omega) (by omega) (by simp; omega) ?_; intro v' w4 hown' hg4 hnil4; obtain ⟨A', c', rfl⟩ := own_shape hown'; have hb4 := below_apP HB.out hs1 hg4 HRT.out; obtain ⟨z6, z0, z1, z7, zp, zt⟩ := HX.out w4 hb4; have HOW := Lib.hid (And.intro hown' (And.intro hb4 (And.intro zp zt))); have hs4 := hb4.size; have hjr4 : ∀ X : Obj, (w4.alloc X).ownsRow w1.heap.size 23 1 (.slice A' (N + 1) c') (N + 1) (vs ++ [.slice PA s.ops[k].path.length pc]) := fun X => ownsRow_grown hown' (World.grownBy_alloc w4 X none) (fun r e => by cases e); have HRT4 : Hid (∀ g, (Value.slice A' (N + 1) c').ownBlock = some g → w1.heap.size ≤ g) := Lib.hid fun g hg => (row_type hown' g hg).1; have HZ := Lib.hid (And.intro z6 (And.intro z0 z7)); clear hown' hg4 hnil4 hb4 zp zt z1 y6 x0 x1 x7) | (at_builtin; refine wpList_append_own _ rfl _ _ 34 rfl w1.heap.size 23 i0 (.slice none 0 0) 1 24 Tryz.underlying34 hi hz0 hz1 hz2 rfl (by decide) _ (N + 1) (vs ++ [.slice PA s.ops[k].path.length pc]) rfl (hjr4 _) ⟨w4.heap.size, 0, none⟩ 1 1 [.slice TA s.ops[k].to.length tc] rfl rfl (cell_one_new _ _ _) (by simp [Value.oneCell']) (by unfold maxLen; omega) (by omega) (by simp; omega) ?_; intro v5 w5 hown5 hg5 hnil5; obtain ⟨A5, c5, rfl⟩ := own_shape hown5; have hb5 := below_apP HOW.out.2.1 hs4 hg5 HRT4.out; have HOW5 := Lib.hid (And.intro hown5 hb5); clear hown5 hg5 hnil5 hb5 z6 z0 z7))
        have HP4 := Lib.hid (HSN.out w4 A' c' HOW.out.2.1 HOW.out.2.2.1 HOW.out.1)
        have hP5 := PlR.snoc HP4.out.2.1 HP4.out.2.2 (fun b hb => (HOW5.out.2.block b (HS1.out b hb)).trans (HOW.out.2.1.block b (HS1.out b hb)).symm) (HX.out _ HOW5.out.2).2.2.2.2.2 (by rw [List.length_append, List.length_singleton, ← HNN.out]; exact HOW5.out.1)
        rw [List.append_assoc, List.singleton_append, ← HPO.out, ← placesL_take hlt] at hP5
        have hlen : (placesL (s.ops.take (k + 1))).length = N + 1 + 1 := by rw [placesL_take hlt, List.length_append, HPO.out, ← HNN.out]; rfl
        have HP5 := Lib.hid hP5
        have HLN := Lib.hid hlen
        clear hP5 hlen
        try go_wp2_with fail
        go_roundw
        case rel => exact ⟨k + 1, A5, c5, by go_num, by omega, by rw [HLN.out], ⟨_, HP5.out⟩, HOW5.out.2⟩
        case measure => simp [intOf]; omega
      · have d6 : (kd == 6) = false := by simpa using h6
        have hpo : placesO s.ops[k] = [s.ops[k].path] := by unfold placesO; rw [if_neg (hkd ▸ h6)]
        have HPO := Lib.hid hpo
        have HSN := Lib.hid hsnoc
        clear h6 hpo hsame hsnoc hkd
        go_wp2_with (at_builtin; refine wpList_append_own _ rfl _ _ 34 rfl w1.heap.size 23 i0 (.slice none 0 0) 1 24 Tryz.underlying34 hi hz0 hz1 hz2 rfl (by decide) _ N vs rfl (hjr _) ⟨wr.heap.size, 0, none⟩ 1 1 [.slice PA s.ops[k].path.length pc] rfl rfl (cell_one_new _ _ _) (by simp [Value.oneCell']) (by unfold maxLen; omega) (by omega) (by simp; omega) ?_; intro v' w4 hown' hg4 hnil4; obtain ⟨A', c', rfl⟩ := own_shape hown'; have hb4 := below_apP HB.out hs1 hg4 HRT.out; obtain ⟨z6, z0, z1, z7, zp, zt⟩ := HX.out w4 hb4; have HOW := Lib.hid (And.intro hown' (And.intro hb4 (And.intro zp zt))); have HZ := Lib.hid (And.intro z6 (And.intro z0 z7)); clear hown' hg4 hnil4 hb4 zp zt z1 y6 x0 x1 x7)
        have hP4 : PlR w4 S w1.heap.size A' c' (placesL (s.ops.take k) ++ [s.ops[k].path]) := ⟨_, HSN.out w4 A' c' HOW.out.2.1 HOW.out.2.2.1 HOW.out.1⟩
        rw [← HPO.out, ← placesL_take hlt] at hP4
        have hlen : (placesL (s.ops.take (k + 1))).length = N + 1 := by rw [placesL_take hlt, List.length_append, HPO.out, ← HNN.out]; rfl
        have HP4 := Lib.hid hP4
        have HLN := Lib.hid hlen
        clear hP4 hlen
        try go_wp2_with fail
        go_roundw
        case rel => exact ⟨k + 1, A', c', by go_num, by omega, by rw [HLN.out], HP4.out, HOW.out.2.1⟩
        case measure => simp [intOf]; omega
    · have hke : k = s.ops.length := by omega
      have d1 : decide ((k : Int) < (s.ops.length : Int)) = false := decide_eq_false (by omega)
      obtain ⟨N, hNN⟩ : ∃ N, N = (placesL (s.ops.take k)).length := ⟨_, rfl⟩
      have HNN := Lib.hid hNN
      have HKE := Lib.hid hke
      rw [← hNN]
      clear hbkw hNN hke
      go_wp2_with fail
      go_ret
      refine ⟨A, c, ?_, ?_, HB1.out.trans (HB.out.mono HB1.out.size)⟩
      · rw [HNN.out, HKE.out, List.take_length]; rfl
      · have h9 := HP.out
        rw [HKE.out, List.take_length, HZ1.out] at h9
        exact h9
end Go.Proofs.YtipiplnhbecjeaaGreat

/- What keeps an update from being one, plain: by the id, by pairs of places. -/
namespace Go.Proofs.YtipiplnhbecjeaaGreat
set_option linter.unusedVariables false
set_option linter.unusedSimpArgs false
open Go.RowKit
set_option maxRecDepth 100000
theorem first_hit : ∀ (l : List ByteArray) (s : ByteArray), (l.any fun x => decide (x = s)) = true → ∃ j, ∃ h : j < l.length, l[j] = s ∧ ∀ i (hi : i < l.length), i < j → l[i] ≠ s
  | [], s, h => by simp at h
  | a :: r, s, h => by
    by_cases ha : a = s
    · exact ⟨0, by simp, ha, fun i _ h => absurd h (by omega)⟩
    · have hr : (r.any fun x => decide (x = s)) = true := by
        rw [List.any_cons, decide_eq_false ha, Bool.false_or] at h
        exact h
      obtain ⟨j, hj, he, hm⟩ := first_hit r s hr
      refine ⟨j + 1, by simpa using hj, by simpa using he, fun i hi hij => ?_⟩
      match i, hi with
      | 0, _ => simpa using ha
      | i + 1, hi =>
        simp only [List.getElem_cons_succ]
        exact hm i (by simpa using hi) (by omega)
theorem okT_name {t : VT} (s : ByteArray) (h7 : t.kind = 7) (hl : t.names.length = t.items.length) : okT t [s] = t.names.any fun x => decide (x = s) := by
  have hp : placeT t s = nmI 0 t.names s := by unfold placeT; rw [if_pos h7]
  unfold okT
  cases ha : t.names.any fun x => decide (x = s)
  · have h1 : nmI 0 t.names s = -1 := nmI_miss fun i hi he => by
      have := List.any_eq_false.1 ha _ (List.getElem_mem hi)
      rw [he] at this
      simp at this
    rw [getT_neg (by rw [hp, h1]; decide)]
    rfl
  · obtain ⟨j, hj, he, hm⟩ := first_hit _ _ ha
    have h1 := nmI_hit (k := 0) hj he hm
    rw [Nat.zero_add, ← hp] at h1
    rw [getT_pos (by omega) (by omega)]
    rfl
theorem may_doc {t : VT} (h : checkT t = 0) : mayT t = true := by
  unfold checkT at h
  cases hm : mayT t
  · rw [hm, if_neg (by decide)] at h; exact absurd h (by decide)
  · rfl
theorem doc_lens {t : VT} (h : mayT t = true) (h7 : t.kind = 7) : t.names.length = t.items.length := by
  obtain ⟨k, i, s, l, ns⟩ := t
  unfold VT.kind at h7
  subst h7
  unfold mayT fitsT fitsP at h
  simp only [Bool.and_eq_true] at h
  have h1 := h.1
  simp at h1
  simpa [VT.names, VT.items] using h1.1.2
/-- Of a formed update in the place of a document: is there an id? -/
theorem check_rep {s : SpecT} (hf : formedS s = true) (hr : s.rep = true) : checkS s = (if okT s.doc [idN] then 70 else 0) ∧ mayT s.doc = true := by
  have h := hf
  unfold formedS at h
  rw [hr] at h
  simp only [if_true, Bool.and_eq_true, decide_eq_true_eq] at h
  have h0 : s.ops = [] := List.eq_nil_of_length_eq_zero h.1.1
  have hm := may_doc h.2
  refine ⟨?_, hm⟩
  unfold checkS touchesS
  rw [hf, h0, okT_name idN h.1.2 (doc_lens hm h.1.2)]
  simp only [placesL_nil, List.any_nil, Bool.or_false, confL, Bool.false_eq_true, if_false, if_true]
theorem formed_ops {s : SpecT} (hf : formedS s = true) (hr : s.rep = false) : s.doc.names = [] ∧ s.ops.length ≤ 16 ∧ ∀ p ∈ placesL s.ops, 0 < p.length := by
  have h := hf
  unfold formedS at h
  rw [hr] at h
  simp only [Bool.false_eq_true, if_false, Bool.and_eq_true, decide_eq_true_eq] at h
  refine ⟨?_, (formed_places hf).1, (formed_places hf).2⟩
  have hn := (noneT_iff _).1 h.1.1.1
  rw [hn]
  rfl
theorem conf_take (ps : List (List ByteArray)) {i : Nat} (hi : i < ps.length) : confL [] (ps.take (i + 1)) = (confL [] (ps.take i) || (ps.take i).any fun q => meetP ps[i] q) := by
  rw [List.take_add_one, List.getElem?_eq_getElem hi]
  have h := confL_snoc (ps.take i) [] ps[i]
  rw [List.nil_append] at h
  exact h
theorem conf_true {ps : List (List ByteArray)} {i k : Nat} (hi : i < ps.length) (hk : k < i) (h : meetP ps[i] ps[k] = true) : confL [] ps = true := by
  have h1 : confL [] (ps.take (i + 1)) = true := by
    rw [conf_take ps hi, List.any_eq_true.2 ⟨ps[k], List.mem_take_iff_getElem.2 ⟨k, by omega, rfl⟩, h⟩, Bool.or_true]
  have h2 := confL_pre (ps.take (i + 1)) (ps.drop (i + 1)) [] h1
  rwa [List.take_append_drop] at h2
theorem conf_false {ps : List (List ByteArray)} (h : ∀ i (hi : i < ps.length) k (hk : k < i), meetP ps[i] ps[k] = false) : confL [] ps = false := by
  have hn : ∀ n, n ≤ ps.length → confL [] (ps.take n) = false := by
    intro n
    induction n with
    | zero => intro _; simp [confL]
    | succ n ih =>
      intro hn
      rw [conf_take ps (by omega), ih (by omega), Bool.false_or]
      refine List.any_eq_false.2 fun x hx => ?_
      obtain ⟨k, hk, rfl⟩ := List.mem_take_iff_getElem.1 hx
      rw [h n (by omega) k (by omega)]
      simp
  have h2 := hn ps.length (Nat.le_refl _)
  rwa [List.take_length] at h2
end Go.Proofs.YtipiplnhbecjeaaGreat

/- What keeps an update from being one, by the document. -/
namespace Go.Proofs.YtipiplnhbecjeaaGreat
set_option linter.unusedVariables false
set_option linter.unusedSimpArgs false
open Go.RowKit
set_option maxRecDepth 100000
set_option maxHeartbeats 16000000 in
theorem rspcheck_any (S : Nat → Prop) (s : SpecT) (cs : Array Value) (w : World) (hS : ∀ b, S b → b < w.heap.size) (h : SpecL w S s cs) (hd : SmallR s) :
    Calls Tryz.prog 13 #[.agg cs] w fun e w' => e = .returned (.int .i64 (checkS s)) ∧ Below w.heap.size w w' := by
  have HL := Lib.hid h
  obtain ⟨DA, dc, DA', dc', OA, oc, rfl, hv, ho, hoc, hol⟩ := h
  obtain ⟨w1, hw1⟩ : ∃ W, W = w.alloc (.cells #[.bool s.rep, .int .i64 s.doc.kind, .int .i64 s.doc.num, .string s.doc.text, .slice DA s.doc.items.length dc, .slice DA' s.doc.names.length dc', .slice OA s.ops.length oc] 28) := ⟨_, rfl⟩
  have hbk : SBox w1 w.heap.size s DA dc DA' dc' OA oc := by rw [hw1]; exact heap_alloc_new w _
  have hb1 : Below w.heap.size w w1 := by rw [hw1]; exact (Below.refl _ _).alloc (Nat.le_refl _) _
  have hS1 : ∀ b, S b → b < w1.heap.size := fun b hb => Nat.lt_of_lt_of_le (hS b hb) hb1.size
  have y0 := Go.Joins.cell_of_block hbk 0
  have y1 := Go.Joins.cell_of_block hbk 1
  have y2 := Go.Joins.cell_of_block hbk 2
  have y3 := Go.Joins.cell_of_block hbk 3
  have y4 := Go.Joins.cell_of_block hbk 4
  have y5 := Go.Joins.cell_of_block hbk 5
  have y6 := Go.Joins.cell_of_block hbk 6
  have HP := Lib.hid (rplain_any S s _ w1 hS1 (HL.out.below hS hb1) hd)
  have HB1 := Lib.hid hb1
  have HBK := Lib.hid hbk
  have HV := Lib.hid hv
  have HS := Lib.hid hS
  obtain ⟨r, hr⟩ : ∃ r, r = checkS s := ⟨_, rfl⟩
  have HR := Lib.hid hr
  rw [← hr]
  have HW1 := Lib.hid hw1
  clear hbk hb1 hS1 hv ho hoc hol hd hS hr
  go_enter Tryz.func13, Tryz.ntmps13
  go_wp2_with fail
  rw [← hw1]
  clear hw1
  refine HP.out.mono ?_
  rintro e w2 ⟨rfl, hb2⟩
  have HB2 := Lib.hid (HB1.out.trans (hb2.mono HB1.out.size))
  have hbk2 := HBK.out.below hb2
  have HBK2 := Lib.hid hbk2
  clear hb2 HP y0 y1 y2 y3 y4 y5 y6
  cases hf : formedS s
  · have HE : Hid (checkS s = 72) := Lib.hid (by unfold checkS; rw [hf]; rfl)
    clear hf
    go_wp2_with fail
    go_ret
    exact ⟨by rw [HR.out, HE.out]; rfl, HB2.out⟩
  have HF := Lib.hid hf
  have y0 := Go.Joins.cell_of_block hbk2 0
  have y1 := Go.Joins.cell_of_block hbk2 1
  have y2 := Go.Joins.cell_of_block hbk2 2
  have y3 := Go.Joins.cell_of_block hbk2 3
  have y4 := Go.Joins.cell_of_block hbk2 4
  have y5 := Go.Joins.cell_of_block hbk2 5
  have y6 := Go.Joins.cell_of_block hbk2 6
  clear hf hbk2
  obtain ⟨rp, hrp⟩ : ∃ rp, rp = s.rep := ⟨_, rfl⟩
  have HRP := Lib.hid hrp.symm
  rw [← hrp] at y0
  clear hrp
  cases rp
  · obtain ⟨hnn, hl16, hpp⟩ := formed_ops HF.out HRP.out
    have HPL := Lib.hid (rplaces_any S s _ w2 (fun b hb => Nat.lt_of_lt_of_le (HS.out b hb) HB2.out.size) (HL.out.below HS.out HB2.out) (by omega))
    have HT : Hid (touchesS s = (placesL s.ops).any fun p => decide (p.head? = some idN)) := Lib.hid (by unfold touchesS; rw [hnn]; rfl)
    rw [HRP.out] at HPL
    obtain ⟨ps, hps⟩ : ∃ ps, ps = placesL s.ops := ⟨_, rfl⟩
    rw [← hps] at HPL HT hpp
    have hC : checkS s = (if (ps.any fun p => decide (p.head? = some idN)) then 70 else if confL [] ps then 71 else 0) := by
      unfold checkS
      rw [HF.out, HT.out, hps]
      rfl
    have HC := Lib.hid hC
    have hN : ps.length ≤ 32 := by rw [hps]; have := placesL_le s.ops; omega
    have HPP := Lib.hid hpp
    clear hnn hl16 hpp hps hC HT
    go_wp2_with fail
    refine HPL.out.mono ?_
    rintro e w5 ⟨A, c, rfl, hpr, hb5⟩
    have HB5 := Lib.hid (HB2.out.trans (hb5.mono HB2.out.size))
    have HAT := Lib.hid hpr.at
    clear hpr hb5 HPL y0 y1 y2 y3 y4 y5 y6
    go_wp2_with fail
    go_loopw [6] (fun i wr => ∃ k : Nat, i = .int .i64 k ∧ k ≤ ps.length ∧ wr = w5 ∧ Hid (∀ j (h : j < ps.length), j < k → ps[j].head? ≠ some idN)) (fun i _ => ps.length - (intOf i).toNat)
    case atStart => exact ⟨0, rfl, by omega, rfl, Lib.hid fun j _ h => absurd h (by omega)⟩
    case round =>
      obtain ⟨k, rfl, hk, hwr, HJ⟩ := hrel
      replace hwr := hwr.symm
      subst hwr
      by_cases hlt : k < ps.length
      · have d1 : decide ((k : Int) < (ps.length : Int)) = true := decide_eq_true (by omega)
        obtain ⟨rb, roff, rfl, hrb, hc⟩ := HAT.out (by omega)
        obtain ⟨v, hcv, PA, pc, rfl, hst, hpc, hpl⟩ := hc k hlt
        have hpos := HPP.out _ (List.getElem_mem hlt)
        obtain ⟨sb, so, rfl, hsS, hcell⟩ := hst hpos
        have hc0 := (hcell 0 hpos).1
        rw [Nat.add_zero] at hc0
        have hhd : ps[k].head? = some ps[k][0] := by rw [List.head?_eq_getElem?, List.getElem?_eq_getElem hpos]
        obtain ⟨x, hx⟩ : ∃ x, x = ps[k][0] := ⟨_, rfl⟩
        rw [← hx] at hc0 hhd
        obtain ⟨m, hm⟩ : ∃ m, m = ps[k].length := ⟨_, rfl⟩
        rw [← hm] at hcv hpos
        have HHD := Lib.hid hhd
        have hlen1 : (0 : Int) < (m : Int) := by omega
        clear hc hst hpc hpl hcell hhd hx hm hsS
        by_cases he : x = idN
        · have d2 : (x.toList == (⟨#[95, 105, 100]⟩ : ByteArray).toList) = true := by rw [he, str_beq]; exact decide_eq_true rfl
          have d3 : (x.toList == [95, 105, 100]) = true := idL ▸ d2
          have HE : Hid (checkS s = 70) := Lib.hid (by
            rw [HC.out, List.any_eq_true.2 ⟨ps[k], List.getElem_mem hlt, decide_eq_true (by rw [HHD.out, he])⟩]
            rfl)
          clear he
          go_wp2_with fail
          go_ret
          exact ⟨by rw [HR.out, HE.out]; rfl, HB5.out⟩
        · have d2 : (x.toList == (⟨#[95, 105, 100]⟩ : ByteArray).toList) = false := by rw [str_beq]; exact decide_eq_false he
          have d3 : (x.toList == [95, 105, 100]) = false := idL ▸ d2
          have HNE := Lib.hid he
          clear he
          go_wp2_with fail
          go_roundw
          case rel => exact ⟨k + 1, by go_num, by omega, trivial, Lib.hid fun j h hjk => by
            by_cases e : j = k
            · subst e; rw [HHD.out]; exact fun e => HNE.out (by injection e)
            · exact HJ.out j h (by omega)⟩
          case measure => simp [intOf]; omega
      · have d1 : decide ((k : Int) < (ps.length : Int)) = false := decide_eq_false (by omega)
        have HNO : Hid (checkS s = (if confL [] ps then 71 else 0)) := Lib.hid (by
          rw [HC.out, List.any_eq_false.2 fun p hp => by
            obtain ⟨j, hj, rfl⟩ := List.mem_iff_getElem.1 hp
            simpa using HJ.out j hj (by omega)]
          rfl)
        have HS5 : Hid (∀ b, S b → b < w5.heap.size) := Lib.hid fun b hb => Nat.lt_of_lt_of_le (HS.out b hb) HB5.out.size
        go_wp2_with fail
        go_loopw [7, 8] (fun i i8 wq => ∃ a : Nat, i = .int .i64 a ∧ a ≤ ps.length ∧ Hid (Below w5.heap.size w5 wq) ∧ Hid (∀ i' (h : i' < ps.length), i' < a → ∀ k' (hk : k' < i'), meetP ps[i'] ps[k'] = false)) (fun i _ _ => ps.length - (intOf i).toNat)
        case atStart => exact ⟨0, rfl, by omega, Lib.hid (Below.refl _ _), Lib.hid fun j _ h => absurd h (by omega)⟩
        case round =>
          obtain ⟨a, rfl, ha, HB, HM⟩ := hrel
          by_cases hlta : a < ps.length
          · have d2 : decide ((a : Int) < (ps.length : Int)) = true := decide_eq_true (by omega)
            obtain ⟨rb, roff, rfl, hrb, hc⟩ := HAT.out (by omega)
            have HCC := Lib.hid hc
            have HRB := Lib.hid hrb
            clear hc hrb
            go_wp2_with fail
            go_loopw [8] (fun i wq => ∃ m : Nat, i = .int .i64 m ∧ m ≤ a ∧ Hid (Below w5.heap.size w5 wq) ∧ Hid (∀ k' (hk : k' < a), k' < m → meetP ps[a] ps[k'] = false)) (fun i _ => a - (intOf i).toNat)
            case atStart => exact ⟨0, rfl, by omega, HB, Lib.hid fun j _ h => absurd h (by omega)⟩
            case round =>
              obtain ⟨m, rfl, hm, HB, HM2⟩ := hrel
              by_cases hma : m < a
              · have d3 : decide ((m : Int) < (a : Int)) = true := decide_eq_true (by omega)
                have hmp : m < ps.length := by omega
                obtain ⟨va, hca, hsa⟩ := HCC.out a hlta
                obtain ⟨vm, hcm, hsm⟩ := HCC.out m hmp
                have hkS : ∀ b, S b → wr.drew.heap[b]? = w5.heap[b]? := fun b hb => HB.out.block b (HS5.out b hb)
                have hSd : ∀ b, S b → b < wr.drew.heap.size := fun b hb => Nat.lt_of_lt_of_le (HS5.out b hb) HB.out.size
                replace hsa := hsa.keep hkS
                replace hsm := hsm.keep hkS
                obtain ⟨A1, c1, rfl, h1, h2, h3⟩ := hsa
                obtain ⟨A2, c2, rfl, k1, k2, k3⟩ := hsm
                have HG1 := Lib.hid (rbegins_any A1 A2 c1 c2 ps[a] ps[m] wr.drew S S h1 k1 hSd hSd (by omega) (by omega))
                have HG2 : Hid (∀ W, Below wr.drew.heap.size wr.drew W → Calls Tryz.prog 41 #[.slice A2 ps[m].length c2, .slice A1 ps[a].length c1] W fun e w' => e = .returned (.bool (begP ps[m] ps[a])) ∧ Below W.heap.size W w') := Lib.hid fun W hW =>
                  rbegins_any A2 A1 c2 c1 ps[m] ps[a] W S S (k1.keep fun b hb => hW.block b (hSd b hb)) (h1.keep fun b hb => hW.block b (hSd b hb)) (fun b hb => Nat.lt_of_lt_of_le (hSd b hb) hW.size) (fun b hb => Nat.lt_of_lt_of_le (hSd b hb) hW.size) (by omega) (by omega)
                have t1 : wr.cell? ⟨rb, roff + a, none⟩ = some (.slice A1 ps[a].length c1) := (World.cell?_of_block (a := ⟨rb, roff + a, none⟩) (HB.out.block rb HRB.out)).trans hca
                have t2 : wr.cell? ⟨rb, roff + m, none⟩ = some (.slice A2 ps[m].length c2) := (World.cell?_of_block (a := ⟨rb, roff + m, none⟩) (HB.out.block rb HRB.out)).trans hcm
                have hp2 : rb < wr.heap.size := Nat.lt_of_lt_of_le HRB.out HB.out.size
                obtain ⟨na, hna⟩ : ∃ n, n = ps[a].length := ⟨_, rfl⟩
                obtain ⟨nm, hnm⟩ : ∃ n, n = ps[m].length := ⟨_, rfl⟩
                obtain ⟨b1, hb1⟩ : ∃ b, b = begP ps[a] ps[m] := ⟨_, rfl⟩
                obtain ⟨b2, hb2⟩ : ∃ b, b = begP ps[m] ps[a] := ⟨_, rfl⟩
                have HMT : Hid (meetP ps[a] ps[m] = (b1 || b2)) := Lib.hid (by unfold meetP; rw [hb1, hb2])
                rw [← hna, ← hnm] at HG1 HG2
                rw [← hb1] at HG1
                rw [← hb2] at HG2
                rw [← hna] at t1
                rw [← hnm] at t2
                have dl1 : decide ((a : Int) < (ps.length : Int)) = true := decide_eq_true (by omega)
                have dl2 : decide ((m : Int) < (ps.length : Int)) = true := decide_eq_true (by omega)
                clear hca hcm h1 h2 h3 k1 k2 k3 hkS hSd hna hnm hb1 hb2
                go_wp2_with fail
                refine wp_region_mix [0, 1, 2, 3, 4, 5, 6, 7, 8, 9, 10, 11, 12, 13, 14, 15, 16, 17, 18, 19] (by kernel_rfl) (by kernel_rfl) (fun _ d _ _ _ h => by cases d <;> exact h) ?_
                simp only [atNats, List.filterMap_cons, List.filterMap_nil, List.getElem?_toArray, List.getElem?_cons_succ, List.getElem?_cons_zero]
                have u1 := cell_later (B := wr.heap.size) (w := wr.drew) t1 hp2
                have u2 := cell_later (B := wr.heap.size) (w := wr.drew) t2 hp2
                first | refine mix_pure ?_ | refine mix_pureB ?_
                simp only [List.takeWhile, List.dropWhile, isPure, Nat.reduceBNe]
                repeat (go_big_quiet_step (fail))
                refine wpQuiet_nil ?_
                clear u1 u2
                first | refine mix_call rfl (fun K hK => ?_) | refine mix_callB rfl (fun K hK => ?_)
                go_simp
                refine (HG1.out).mono ?_
                rintro e w8 ⟨rfl, hb⟩
                refine hK _ _ hb ?_
                clear hK K
                try simp only [Act.put]
                have hbb := hb
                have hs8 := hb.size
                have t3 := (World.cell?_of_block (a := ⟨rb, roff + a, none⟩) (hb.block rb hp2)).trans t1
                have t4 := (World.cell?_of_block (a := ⟨rb, roff + m, none⟩) (hb.block rb hp2)).trans t2
                have hp3 : rb < w8.heap.size := by have : wr.drew.heap.size = wr.heap.size := rfl; omega
                have HB8 : Hid (Below w5.heap.size w5 w8) := Lib.hid (HB.out.trans ((show Below wr.heap.size wr w8 from (Below.refl _ _).drew.trans hb).mono HB.out.size))
                have HG3 := Lib.hid (HG2.out w8 hb)
                clear t1 t2 hp2 hb hbb HG1 HG2 hs8
                cases b1
                · have u1 := cell_later (B := w8.heap.size) (w := w8) t3 hp3
                  have u2 := cell_later (B := w8.heap.size) (w := w8) t4 hp3
                  first | refine mix_pure ?_ | refine mix_pureB ?_
                  simp only [List.takeWhile, List.dropWhile, isPure, Nat.reduceBNe]
                  repeat (go_big_quiet_step (fail))
                  refine wpQuiet_nil ?_
                  clear u1 u2
                  first | refine mix_call rfl (fun K hK => ?_) | refine mix_callB rfl (fun K hK => ?_)
                  go_simp
                  refine (HG3.out).mono ?_
                  rintro e w9 ⟨rfl, hb⟩
                  refine hK _ _ hb ?_
                  clear hK K
                  try simp only [Act.put]
                  have HB9 : Hid (Below w5.heap.size w5 w9) := Lib.hid (HB8.out.trans (hb.mono HB8.out.size))
                  clear hb HG3 t3 t4
                  first | refine mix_pure ?_ | refine mix_pureB ?_
                  simp only [List.takeWhile, List.dropWhile, isPure, Nat.reduceBNe]
                  repeat (go_big_quiet_step (fail))
                  refine wpQuiet_nil ?_
                  unfold wpMix
                  cases b2
                  · have HMF : Hid (meetP ps[a] ps[m] = false) := Lib.hid (by rw [HMT.out]; rfl)
                    go_wp2_with fail
                    go_roundw
                    case rel => exact ⟨m + 1, by go_num, by omega, HB9, Lib.hid fun k' hk hk2 => by
                      by_cases e : k' = m
                      · subst e; exact HMF.out
                      · exact HM2.out k' hk (by omega)⟩
                    case measure => simp [intOf]; omega
                  · have HE : Hid (checkS s = 71) := Lib.hid (by
                      rw [HNO.out, conf_true hlta hma (by rw [HMT.out]; rfl)]
                      rfl)
                    go_wp2_with fail
                    go_ret
                    exact ⟨by rw [HR.out, HE.out]; rfl, HB5.out.trans (HB9.out.mono HB5.out.size)⟩
                · have HE : Hid (checkS s = 71) := Lib.hid (by
                    rw [HNO.out, conf_true hlta hma (by rw [HMT.out]; rfl)]
                    rfl)
                  first | refine mix_pure ?_ | refine mix_pureB ?_
                  simp only [List.takeWhile, List.dropWhile, isPure, Nat.reduceBNe]
                  repeat (go_big_quiet_step (fail))
                  refine wpQuiet_nil ?_
                  first | refine mix_call rfl (fun K hK => ?_) | refine mix_callB rfl (fun K hK => ?_)
                  go_simp
                  refine hK _ _ (Below.refl _ _) ?_
                  clear hK K
                  try simp only [Act.put]
                  first | refine mix_pure ?_ | refine mix_pureB ?_
                  simp only [List.takeWhile, List.dropWhile, isPure, Nat.reduceBNe]
                  repeat (go_big_quiet_step (fail))
                  refine wpQuiet_nil ?_
                  unfold wpMix
                  go_wp2_with fail
                  go_ret
                  exact ⟨by rw [HR.out, HE.out]; rfl, HB5.out.trans (HB8.out.mono HB5.out.size)⟩
              · have d3 : decide ((m : Int) < (a : Int)) = false := decide_eq_false (by omega)
                go_wp2_with fail
                go_roundw
                case rel => exact ⟨a + 1, by go_num, by omega, HB, Lib.hid fun i' h hi k' hk => by
                  by_cases e : i' = a
                  · subst e; exact HM2.out k' hk (by omega)
                  · exact HM.out i' h (by omega) k' hk⟩
                case measure => simp [intOf]; omega
          · have d2 : decide ((a : Int) < (ps.length : Int)) = false := decide_eq_false (by omega)
            have HE : Hid (checkS s = 0) := Lib.hid (by
              rw [HNO.out, conf_false fun i hi k hk => HM.out i hi (by omega) k hk]
              rfl)
            go_wp2_with fail
            go_ret
            exact ⟨by rw [HR.out, HE.out]; rfl, HB5.out.trans (HB.out.mono HB5.out.size)⟩
  · obtain ⟨he, hm⟩ := check_rep HF.out HRP.out
    have HE := Lib.hid he
    have hst : StrsAt (w2.alloc (.cells #[.string idN] 9)) (fun b => b < w2.heap.size + 1) (some ⟨w2.heap.size, 0, none⟩) [idN] := fun _ => ⟨w2.heap.size, 0, rfl, by omega, fun i hi => by
      obtain rfl : i = 0 := by simpa using hi
      exact ⟨Go.Joins.cell_of_block (heap_alloc_new w2 _) 0, by show idN.size ≤ _; decide⟩⟩
    have hba : Below w2.heap.size w2 (w2.alloc (.cells #[.string idN] 9)) := (Below.refl _ _).alloc (Nat.le_refl _) _
    have HG := Lib.hid (rget_any (fun b => b < w2.heap.size + 1) s.doc _ (some ⟨w2.heap.size, 0, none⟩) 1 [idN] (w2.alloc (.cells #[.string idN] 9)) (fun b hb => by simp; omega) (((HV.out.keep fun b hb => HB2.out.block b (HS.out b hb)).keep fun b hb => hba.block b (by have := HS.out b hb; have := HB2.out.size; omega)).imp fun b hb => by have := HS.out b hb; have := HB2.out.size; omega) hm hst (by simp))
    have HBA := Lib.hid (HB2.out.trans (hba.mono HB2.out.size))
    clear he hm hst hba
    go_wp2_with fail
    refine HG.out.mono ?_
    rintro e w3 ⟨v, rfl, hv3, hb3⟩
    have HB3 := Lib.hid (HBA.out.trans (hb3.mono HBA.out.size))
    obtain ⟨A3, c3, A3', c3', rfl, -⟩ := hv3.shape
    obtain ⟨ok, hok⟩ : ∃ ok, ok = okT s.doc [idN] := ⟨_, rfl⟩
    rw [← hok] at HE ⊢
    obtain ⟨t3, ht3⟩ : ∃ t, t = gotT s.doc [idN] := ⟨_, rfl⟩
    rw [← ht3]
    clear hb3 hv3 HG hok ht3 y0 y1 y2 y3 y4 y5 y6
    have HB4 : Hid (Below w.heap.size w (w3.alloc (.cells #[.int .i64 t3.kind, .int .i64 t3.num, .string t3.text, .slice A3 t3.items.length c3, .slice A3' t3.names.length c3'] 25))) := Lib.hid (HB3.out.alloc HB3.out.size _)
    cases ok
    all_goals
      go_wp2_with fail
      go_ret
      exact ⟨by rw [HR.out, HE.out]; rfl, HB4.out⟩
end Go.Proofs.YtipiplnhbecjeaaGreat
