/- Whether a value is none, and whether an operator may be, by the document. -/
import Derived.Test.YtipiplnhbecjeaaKSpA
import Derived.Test.YtipiplnhbecjeaaKRefQ
import Derived.Test.YtipiplnhbecjeaaKRefZ
import Derived.Test.YtipiplnhbecjeaaKPathA
import Derived.Test.YtipiplnhbecjeaaKCodX
import Derived.Test.YtipiplnhbecjeaaKSpF
import Derived.Test.YtipiplnhbecjeaaKTrC
namespace Go.Proofs.Ytipiplnhbecjeaa
set_option linter.unusedVariables false
set_option linter.unusedSimpArgs false
open Go.RowKit
set_option maxRecDepth 100000
set_option maxHeartbeats 4000000 in
theorem rnone7_any (S : Nat → Prop) (t : VT) (v : Value) (w : World) (hS : ∀ b, S b → b < w.heap.size) (h : LV w S t v) :
    Calls Try.prog 8 #[v] w fun e w' => e = .returned (.bool (noneT t)) ∧ Below w.heap.size w w' := by
  obtain ⟨A, ca, A', ca', rfl, -, -, -, v1, hb⟩ := one_var hS h
  have q0 := v1.x.c0
  have q1 := v1.x.c1
  have q2 := v1.x.c2
  have q3 := v1.x.c3
  have q4 := v1.x.c4
  have HB := Lib.hid hb
  have HS := Lib.hid (rsame_any S (depthT t) t (.mk 0 0 ⟨#[]⟩ [] []) _ (.agg #[.int .i64 0, .int .i64 0, .string ⟨#[]⟩, .slice none 0 0, .slice none 0 0]) _ (Nat.le_refl _) v1.s v1.v (zero_lv _ _))
  clear h v1 hb
  go_enter Try.func8, Try.ntmps8
  go_wp2_with fail
  refine HS.out.mono ?_
  rintro e u ⟨⟨r, rfl, hr⟩, hb2⟩
  have HB2 := Lib.hid (HB.out.trans (hb2.mono HB.out.size))
  have HR := Lib.hid hr
  clear hb2 hr HS
  go_wp2_with fail
  go_ret
  refine ⟨?_, HB2.out⟩
  have e : r = noneT t := by rw [Bool.eq_iff_iff, HR.out, noneT_iff]
  rw [← e]
  rfl
set_option maxHeartbeats 16000000 in
theorem rmay7_any (S : Nat → Prop) (o : OpT) (cs : Array Value) (w : World) (hS : ∀ b, S b → b < w.heap.size) (h : OpL w S o cs) (hd : depthT o.val ≤ 4611686018427387903) :
    Calls Try.prog 4 #[.agg cs] w fun e w' => e = .returned (.bool (mayO o)) ∧ Below w.heap.size w w' := by
  obtain ⟨PA, pc, a, b, c, d, e, TA, tc, rfl, hv, hp, ht, hpc, htc, hk, hpl, htl⟩ := h
  obtain ⟨VA, vc, VA', vc', hvs, -⟩ := hv.shape
  simp only [Value.agg.injEq, Array.mk.injEq, List.cons.injEq, and_true] at hvs
  obtain ⟨rfl, rfl, rfl, rfl, rfl⟩ := hvs
  obtain ⟨w1, hw1⟩ : ∃ W, W = w.alloc (.cells #[.int .i64 o.kind, .slice PA o.path.length pc, .int .i64 o.val.kind, .int .i64 o.val.num, .string o.val.text, .slice VA o.val.items.length vc, .slice VA' o.val.names.length vc', .slice TA o.to.length tc] 27) := ⟨_, rfl⟩
  have hbk : w1.heap[w.heap.size]? = some (.cells #[.int .i64 o.kind, .slice PA o.path.length pc, .int .i64 o.val.kind, .int .i64 o.val.num, .string o.val.text, .slice VA o.val.items.length vc, .slice VA' o.val.names.length vc', .slice TA o.to.length tc] 27 (0, 0)) := by rw [hw1]; exact heap_alloc_new w _
  have hb1 : Below w.heap.size w w1 := by rw [hw1]; exact (Below.refl _ _).alloc (Nat.le_refl _) _
  have y0 := Go.Joins.cell_of_block hbk 0
  have y1 := Go.Joins.cell_of_block hbk 1
  have y2 := Go.Joins.cell_of_block hbk 2
  have y3 := Go.Joins.cell_of_block hbk 3
  have y4 := Go.Joins.cell_of_block hbk 4
  have y5 := Go.Joins.cell_of_block hbk 5
  have y6 := Go.Joins.cell_of_block hbk 6
  have y7 := Go.Joins.cell_of_block hbk 7
  have hS1 : ∀ b, S b → b < w1.heap.size := fun b hb => Nat.lt_of_lt_of_le (hS b hb) hb1.size
  have hv1 := hv.keep fun b hb => hb1.block b (hS b hb)
  have HMA := Lib.hid (rpmay_any PA pc o.path w1 S (hp.keep fun b hb => hb1.block b (hS b hb)) (by omega))
  have HCK := Lib.hid (rcheck_any S o.val _ w1 hd hS1 hv1)
  have HNO := Lib.hid (rnone7_any S o.val _ w1 hS1 hv1)
  have HBK := Lib.hid hbk
  have HB1 := Lib.hid hb1
  have HW1 := Lib.hid hw1
  have HS := Lib.hid hS
  have HT := Lib.hid ht
  have HTL := Lib.hid htl
  obtain ⟨r, hr⟩ : ∃ r, r = mayO o := ⟨_, rfl⟩
  have HR := Lib.hid hr
  rw [← hr]
  clear hbk hb1 hS1 hv1 hv hp ht hpc htc hk hpl htl hd hS hr
  go_enter Try.func4, Try.ntmps4
  go_wp2_with fail
  rw [← hw1]
  clear hw1
  refine HMA.out.mono ?_
  rintro e w2 ⟨rfl, rfl⟩
  clear HMA
  cases hmp : mayP o.path
  · go_wp2_with fail
    go_ret
    exact ⟨by rw [HR.out]; unfold mayO; rw [hmp]; rfl, HB1.out⟩
  have HMP := Lib.hid hmp
  clear hmp
  obtain ⟨k, hk⟩ : ∃ k, k = o.kind := ⟨_, rfl⟩
  rw [← hk] at y0
  have HK := Lib.hid hk.symm
  clear hk
  by_cases k2 : k = 2
  · subst k2
    go_wp2_with fail
    refine HNO.out.mono ?_
    rintro e w3 ⟨rfl, hb3⟩
    have HB3 := Lib.hid (HB1.out.trans (hb3.mono HB1.out.size))
    have HBK3 := (hb3.block _ (Array.getElem?_eq_some_iff.1 HBK.out).1).trans HBK.out
    have z7 := Go.Joins.cell_of_block HBK3 7
    obtain ⟨b1, d1⟩ : ∃ b, noneT o.val = b := ⟨_, rfl⟩
    obtain ⟨b2, d2⟩ : ∃ b, ((o.to.length : Int) == 0) = b := ⟨_, rfl⟩
    have HE : Hid (mayO o = (b1 && b2)) := Lib.hid (by
      rw [← d1, ← d2]
      unfold mayO
      rw [HMP.out, HK.out]
      rw [Bool.eq_iff_iff]
      simp)
    clear hb3 HBK3 HNO
    cases b1 <;> cases b2
    all_goals
      go_wp2_with fail
      go_ret
      exact ⟨by rw [HR.out, HE.out]; rfl, HB3.out⟩
  have e2 := beq_false_of_ne k2
  by_cases k6 : k = 6
  · subst k6
    go_wp2_with fail
    refine HNO.out.mono ?_
    rintro e w3 ⟨rfl, hb3⟩
    have HB3 := Lib.hid (HB1.out.trans (hb3.mono HB1.out.size))
    have HBK3 := (hb3.block _ (Array.getElem?_eq_some_iff.1 HBK.out).1).trans HBK.out
    have z7 := Go.Joins.cell_of_block HBK3 7
    have HTO := Lib.hid (rpmay_any TA tc o.to w3 S (HT.out.keep fun b hb => HB3.out.block b (HS.out b hb)) (by have := HTL.out; omega))
    obtain ⟨b1, d1⟩ : ∃ b, noneT o.val = b := ⟨_, rfl⟩
    obtain ⟨b2, d2⟩ : ∃ b, mayP o.to = b := ⟨_, rfl⟩
    have HE : Hid (mayO o = (b1 && b2)) := Lib.hid (by
      rw [← d1, ← d2]
      unfold mayO
      rw [HMP.out, HK.out]
      rw [Bool.eq_iff_iff]
      simp)
    rw [d2] at HTO
    clear hb3 HBK3 HNO d2
    cases b1
    · go_wp2_with fail
      go_ret
      exact ⟨by rw [HR.out, HE.out]; rfl, HB3.out⟩
    · go_wp2_with fail
      refine HTO.out.mono ?_
      rintro e w4 ⟨rfl, rfl⟩
      cases b2
      all_goals
        go_wp2_with fail
        go_ret
        exact ⟨by rw [HR.out, HE.out]; rfl, HB3.out⟩
  have e6 := beq_false_of_ne k6
  by_cases k3 : k = 3
  · subst k3
    by_cases hv3 : o.val.kind = 3
    · have e3 : (o.val.kind == 3) = true := by rw [hv3]; rfl
      have HV3 := Lib.hid hv3
      clear hv3
      go_wp2_with fail
      refine HCK.out.mono ?_
      rintro e w3 ⟨rfl, hb3⟩
      have HB3 := Lib.hid (HB1.out.trans (hb3.mono HB1.out.size))
      have HBK3 := (hb3.block _ (Array.getElem?_eq_some_iff.1 HBK.out).1).trans HBK.out
      have z7 := Go.Joins.cell_of_block HBK3 7
      obtain ⟨b1, d1⟩ : ∃ b, (checkT o.val == 0) = b := ⟨_, rfl⟩
      obtain ⟨b2, d2⟩ : ∃ b, ((o.to.length : Int) == 0) = b := ⟨_, rfl⟩
      have HE : Hid (mayO o = (b1 && b2)) := Lib.hid (by
        rw [← d1, ← d2]
        unfold mayO
        rw [HMP.out, HK.out, HV3.out]
        rw [Bool.eq_iff_iff]
        simp)
      clear hb3 HBK3 HCK
      cases b1 <;> cases b2
      all_goals
        go_wp2_with fail
        go_ret
        exact ⟨by rw [HR.out, HE.out]; rfl, HB3.out⟩
    · have e3 : (o.val.kind == 3) = false := by simpa using hv3
      have HV3 := Lib.hid hv3
      clear hv3
      go_wp2_with fail
      go_ret
      exact ⟨by rw [HR.out]; unfold mayO; rw [HK.out]; simp [HV3.out], HB1.out⟩
  have e3 := beq_false_of_ne k3
  by_cases k1 : k = 1
  · subst k1
    go_wp2_with fail
    refine HCK.out.mono ?_
    rintro e w3 ⟨rfl, hb3⟩
    have HB3 := Lib.hid (HB1.out.trans (hb3.mono HB1.out.size))
    have HBK3 := (hb3.block _ (Array.getElem?_eq_some_iff.1 HBK.out).1).trans HBK.out
    have z7 := Go.Joins.cell_of_block HBK3 7
    obtain ⟨b1, d1⟩ : ∃ b, (checkT o.val == 0) = b := ⟨_, rfl⟩
    obtain ⟨b2, d2⟩ : ∃ b, ((o.to.length : Int) == 0) = b := ⟨_, rfl⟩
    have HE : Hid (mayO o = (b1 && b2)) := Lib.hid (by
      rw [← d1, ← d2]
      unfold mayO
      rw [HMP.out, HK.out]
      rw [Bool.eq_iff_iff]
      simp)
    clear hb3 HBK3 HCK
    cases b1 <;> cases b2
    all_goals
      go_wp2_with fail
      go_ret
      exact ⟨by rw [HR.out, HE.out]; rfl, HB3.out⟩
  have e1 := beq_false_of_ne k1
  by_cases k4 : k = 4
  · subst k4
    go_wp2_with fail
    refine HCK.out.mono ?_
    rintro e w3 ⟨rfl, hb3⟩
    have HB3 := Lib.hid (HB1.out.trans (hb3.mono HB1.out.size))
    have HBK3 := (hb3.block _ (Array.getElem?_eq_some_iff.1 HBK.out).1).trans HBK.out
    have z7 := Go.Joins.cell_of_block HBK3 7
    obtain ⟨b1, d1⟩ : ∃ b, (checkT o.val == 0) = b := ⟨_, rfl⟩
    obtain ⟨b2, d2⟩ : ∃ b, ((o.to.length : Int) == 0) = b := ⟨_, rfl⟩
    have HE : Hid (mayO o = (b1 && b2)) := Lib.hid (by
      rw [← d1, ← d2]
      unfold mayO
      rw [HMP.out, HK.out]
      rw [Bool.eq_iff_iff]
      simp)
    clear hb3 HBK3 HCK
    cases b1 <;> cases b2
    all_goals
      go_wp2_with fail
      go_ret
      exact ⟨by rw [HR.out, HE.out]; rfl, HB3.out⟩
  have e4 := beq_false_of_ne k4
  by_cases k5 : k = 5
  · subst k5
    go_wp2_with fail
    refine HCK.out.mono ?_
    rintro e w3 ⟨rfl, hb3⟩
    have HB3 := Lib.hid (HB1.out.trans (hb3.mono HB1.out.size))
    have HBK3 := (hb3.block _ (Array.getElem?_eq_some_iff.1 HBK.out).1).trans HBK.out
    have z7 := Go.Joins.cell_of_block HBK3 7
    obtain ⟨b1, d1⟩ : ∃ b, (checkT o.val == 0) = b := ⟨_, rfl⟩
    obtain ⟨b2, d2⟩ : ∃ b, ((o.to.length : Int) == 0) = b := ⟨_, rfl⟩
    have HE : Hid (mayO o = (b1 && b2)) := Lib.hid (by
      rw [← d1, ← d2]
      unfold mayO
      rw [HMP.out, HK.out]
      rw [Bool.eq_iff_iff]
      simp)
    clear hb3 HBK3 HCK
    cases b1 <;> cases b2
    all_goals
      go_wp2_with fail
      go_ret
      exact ⟨by rw [HR.out, HE.out]; rfl, HB3.out⟩
  have e5 := beq_false_of_ne k5
  by_cases k7 : k = 7
  · subst k7
    go_wp2_with fail
    refine HCK.out.mono ?_
    rintro e w3 ⟨rfl, hb3⟩
    have HB3 := Lib.hid (HB1.out.trans (hb3.mono HB1.out.size))
    have HBK3 := (hb3.block _ (Array.getElem?_eq_some_iff.1 HBK.out).1).trans HBK.out
    have z7 := Go.Joins.cell_of_block HBK3 7
    obtain ⟨b1, d1⟩ : ∃ b, (checkT o.val == 0) = b := ⟨_, rfl⟩
    obtain ⟨b2, d2⟩ : ∃ b, ((o.to.length : Int) == 0) = b := ⟨_, rfl⟩
    have HE : Hid (mayO o = (b1 && b2)) := Lib.hid (by
      rw [← d1, ← d2]
      unfold mayO
      rw [HMP.out, HK.out]
      rw [Bool.eq_iff_iff]
      simp)
    clear hb3 HBK3 HCK
    cases b1 <;> cases b2
    all_goals
      go_wp2_with fail
      go_ret
      exact ⟨by rw [HR.out, HE.out]; rfl, HB3.out⟩
  have e7 := beq_false_of_ne k7
  by_cases k8 : k = 8
  · subst k8
    go_wp2_with fail
    refine HCK.out.mono ?_
    rintro e w3 ⟨rfl, hb3⟩
    have HB3 := Lib.hid (HB1.out.trans (hb3.mono HB1.out.size))
    have HBK3 := (hb3.block _ (Array.getElem?_eq_some_iff.1 HBK.out).1).trans HBK.out
    have z7 := Go.Joins.cell_of_block HBK3 7
    obtain ⟨b1, d1⟩ : ∃ b, (checkT o.val == 0) = b := ⟨_, rfl⟩
    obtain ⟨b2, d2⟩ : ∃ b, ((o.to.length : Int) == 0) = b := ⟨_, rfl⟩
    have HE : Hid (mayO o = (b1 && b2)) := Lib.hid (by
      rw [← d1, ← d2]
      unfold mayO
      rw [HMP.out, HK.out]
      rw [Bool.eq_iff_iff]
      simp)
    clear hb3 HBK3 HCK
    cases b1 <;> cases b2
    all_goals
      go_wp2_with fail
      go_ret
      exact ⟨by rw [HR.out, HE.out]; rfl, HB3.out⟩
  have e8 := beq_false_of_ne k8
  have HN : Hid (mayO o = false) := Lib.hid (by
    unfold mayO
    rw [HK.out]
    simp [k3, k1, k4, k5, k7, k8, k2, k6])
  clear k3 k1 k4 k5 k7 k8 k2 k6
  go_wp2_with fail
  go_ret
  exact ⟨by rw [HR.out, HN.out]; rfl, HB1.out⟩
end Go.Proofs.Ytipiplnhbecjeaa

/- Whether an update is too large to be looked at, by the document. -/
namespace Go.Proofs.Ytipiplnhbecjeaa
set_option linter.unusedVariables false
set_option linter.unusedSimpArgs false
open Go.RowKit
set_option maxRecDepth 100000
def bigO (o : OpT) : Bool := largeT o.val || decide (50 < o.path.length) || decide (50 < o.to.length)
def largeS (s : SpecT) : Bool := (s.ops.take 60).any bigO || decide (50 < s.ops.length) || largeT s.doc
theorem largeS_hit {s : SpecT} {k : Nat} (hk : k < s.ops.length) (h60 : k < 60) (h : bigO s.ops[k] = true) : largeS s = true := by
  unfold largeS
  rw [List.any_eq_true.2 ⟨s.ops[k], List.mem_take_iff_getElem.2 ⟨k, by omega, rfl⟩, h⟩]
  rfl
theorem largeS_miss {s : SpecT} {k : Nat} (h : ∀ j (hj : j < s.ops.length), j < k → bigO s.ops[j] = false) (hk : k = s.ops.length ∨ 60 ≤ k) : largeS s = (decide (50 < s.ops.length) || largeT s.doc) := by
  unfold largeS
  rw [show (s.ops.take 60).any bigO = false from List.any_eq_false.2 fun x hx => by
    obtain ⟨j, hj, rfl⟩ := List.mem_take_iff_getElem.1 hx
    rw [h j (by omega) (by omega)]
    simp]
  rfl
theorem largeS_small {s : SpecT} (h : largeS s = false) : s.ops.length ≤ 50 ∧ depthT s.doc ≤ 41 ∧ ∀ o ∈ s.ops, depthT o.val ≤ 41 ∧ o.path.length ≤ 50 ∧ o.to.length ≤ 50 := by
  unfold largeS at h
  simp only [Bool.or_eq_false_iff, decide_eq_false_iff_not] at h
  obtain ⟨⟨h1, h2⟩, h3⟩ := h
  refine ⟨by omega, depth_small h3, fun o ho => ?_⟩
  rw [List.take_of_length_le (by omega)] at h1
  have h4 := List.any_eq_false.1 h1 o ho
  unfold bigO at h4
  simp only [Bool.or_eq_true, not_or, decide_eq_true_eq, Bool.not_eq_true] at h4
  exact ⟨depth_small h4.1.1, by omega, by omega⟩
end Go.Proofs.Ytipiplnhbecjeaa

/- Whether an update is plain, by the document. -/
namespace Go.Proofs.Ytipiplnhbecjeaa
set_option linter.unusedVariables false
set_option linter.unusedSimpArgs false
open Go.RowKit
set_option maxRecDepth 100000
def SmallR (s : SpecT) : Prop := depthT s.doc ≤ 1000 ∧ ∀ o ∈ s.ops, depthT o.val ≤ 1000
end Go.Proofs.Ytipiplnhbecjeaa

/- The places of an update, by the document. -/
namespace Go.Proofs.Ytipiplnhbecjeaa
set_option linter.unusedVariables false
set_option linter.unusedSimpArgs false
open Go.RowKit
set_option maxRecDepth 100000
theorem below_apP {B : Nat} {w1 W W4 : World} {v : Value} {X : Obj} (hb : Below B w1 W) (hB : B ≤ W.heap.size) (hg : (W.alloc X).grownBy W4 v.ownBlock) (hv : ∀ g, v.ownBlock = some g → B ≤ g) : Below B w1 W4 := by
  have ha : Below B w1 (W.alloc X) := hb.alloc hB X
  exact ⟨hg.os.trans ha.os, hg.tape.trans ha.tape, hg.output.trans ha.output, Nat.le_trans ha.size hg.size, fun k hk => (hg.block k (by simp; omega) (fun e => by have := hv k e.symm; omega)).trans (ha.block k hk)⟩
/-- A row of places of the call's own. -/
def PlR (W : World) (S : Nat → Prop) (B : Nat) (A : Option Addr) (c : Nat) (qs : List (List ByteArray)) : Prop := ∃ vs, W.ownsRow B 22 1 (.slice A qs.length c) qs.length vs ∧ vs.length = qs.length ∧ ∀ i (h : i < qs.length) (h' : i < vs.length), SlP W S vs[i] qs[i]
theorem PlR.at {W : World} {S : Nat → Prop} {B : Nat} {A : Option Addr} {c : Nat} {qs : List (List ByteArray)} (h : PlR W S B A c qs) : PlsAt W S A qs := by
  obtain ⟨vs, h1, h2, h3⟩ := h
  exact row_pls h1 fun i hi => ⟨vs[i]'(by omega), List.getElem?_eq_getElem (by omega), h3 i hi (by omega)⟩
theorem placesL_take {l : List OpT} {k : Nat} (hk : k < l.length) : placesL (l.take (k + 1)) = placesL (l.take k) ++ placesO l[k] := by
  unfold placesL
  rw [List.take_add_one, List.getElem?_eq_getElem hk, List.flatMap_append]
  simp
theorem PlR.snoc {W W4 : World} {S : Nat → Prop} {B : Nat} {A' : Option Addr} {c' : Nat} {qs : List (List ByteArray)} {vs : List Value} {v : Value} {q : List ByteArray} (h2 : vs.length = qs.length) (h3 : ∀ i (h : i < qs.length) (h' : i < vs.length), SlP W S vs[i] qs[i]) (hk : ∀ b, S b → W4.heap[b]? = W.heap[b]?) (hq : SlP W4 S v q)
    (ho : W4.ownsRow B 22 1 (.slice A' (qs.length + 1) c') (qs.length + 1) (vs ++ [v])) : W4.ownsRow B 22 1 (.slice A' (qs ++ [q]).length c') (qs ++ [q]).length (vs ++ [v]) ∧ (vs ++ [v]).length = (qs ++ [q]).length ∧ ∀ i (h : i < (qs ++ [q]).length) (h' : i < (vs ++ [v]).length), SlP W4 S (vs ++ [v])[i] (qs ++ [q])[i] := by
  refine ⟨by rw [List.length_append, List.length_singleton]; exact ho, by simp [h2], fun i h h' => ?_⟩
  by_cases hi : i < qs.length
  · rw [List.getElem_append_left hi, List.getElem_append_left (by omega)]
    exact (h3 i hi (by omega)).keep hk
  · have he : i = qs.length := by simp at h; omega
    subst he
    rw [List.getElem_append_right (by omega), List.getElem_append_right (by omega)]
    simpa [h2] using hq
end Go.Proofs.Ytipiplnhbecjeaa

/- What keeps an update from being one, plain: by the id, by pairs of places. -/
namespace Go.Proofs.Ytipiplnhbecjeaa
set_option linter.unusedVariables false
set_option linter.unusedSimpArgs false
open Go.RowKit
set_option maxRecDepth 100000
theorem first_hit : ∀ (l : List ByteArray) (s : ByteArray), (l.any fun x => decide (x = s)) = true → ∃ j, ∃ h : j < l.length, l[j] = s ∧ ∀ i (hi : i < l.length), i < j → l[i] ≠ s
  | [], s, h => by simp at h
  | a :: r, s, h => by
    by_cases ha : a = s
    · exact ⟨0, by simp, ha, fun i _ h => absurd h (by omega)⟩
    · have hr : (r.any fun x => decide (x = s)) = true := by
        rw [List.any_cons, decide_eq_false ha, Bool.false_or] at h
        exact h
      obtain ⟨j, hj, he, hm⟩ := first_hit r s hr
      refine ⟨j + 1, by simpa using hj, by simpa using he, fun i hi hij => ?_⟩
      match i, hi with
      | 0, _ => simpa using ha
      | i + 1, hi =>
        simp only [List.getElem_cons_succ]
        exact hm i (by simpa using hi) (by omega)
theorem okT_name {t : VT} (s : ByteArray) (h7 : t.kind = 7) (hl : t.names.length = t.items.length) : okT t [s] = t.names.any fun x => decide (x = s) := by
  have hp : placeT t s = nmI 0 t.names s := by unfold placeT; rw [if_pos h7]
  unfold okT
  cases ha : t.names.any fun x => decide (x = s)
  · have h1 : nmI 0 t.names s = -1 := nmI_miss fun i hi he => by
      have := List.any_eq_false.1 ha _ (List.getElem_mem hi)
      rw [he] at this
      simp at this
    rw [getT_neg (by rw [hp, h1]; decide)]
    rfl
  · obtain ⟨j, hj, he, hm⟩ := first_hit _ _ ha
    have h1 := nmI_hit (k := 0) hj he hm
    rw [Nat.zero_add, ← hp] at h1
    rw [getT_pos (by omega) (by omega)]
    rfl
theorem may_doc {t : VT} (h : checkT t = 0) : mayT t = true := by
  unfold checkT at h
  cases hm : mayT t
  · rw [hm, if_neg (by decide)] at h; exact absurd h (by decide)
  · rfl
theorem doc_lens {t : VT} (h : mayT t = true) (h7 : t.kind = 7) : t.names.length = t.items.length := by
  obtain ⟨k, i, s, l, ns⟩ := t
  unfold VT.kind at h7
  subst h7
  unfold mayT fitsT fitsP at h
  simp only [Bool.and_eq_true] at h
  have h1 := h.1
  simp at h1
  simpa [VT.names, VT.items] using h1.1.2
/-- Of a formed update in the place of a document: is there an id? -/
theorem check_rep {s : SpecT} (hf : formedS s = true) (hr : s.rep = true) : checkS s = (if okT s.doc [idN] then 70 else 0) ∧ mayT s.doc = true := by
  have h := hf
  unfold formedS at h
  rw [hr] at h
  simp only [if_true, Bool.and_eq_true, decide_eq_true_eq] at h
  have h0 : s.ops = [] := List.eq_nil_of_length_eq_zero h.1.1
  have hm := may_doc h.2
  refine ⟨?_, hm⟩
  unfold checkS touchesS
  rw [hf, h0, okT_name idN h.1.2 (doc_lens hm h.1.2)]
  simp only [placesL_nil, List.any_nil, Bool.or_false, confL, Bool.false_eq_true, if_false, if_true]
theorem formed_ops {s : SpecT} (hf : formedS s = true) (hr : s.rep = false) : s.doc.names = [] ∧ s.ops.length ≤ 16 ∧ ∀ p ∈ placesL s.ops, 0 < p.length := by
  have h := hf
  unfold formedS at h
  rw [hr] at h
  simp only [Bool.false_eq_true, if_false, Bool.and_eq_true, decide_eq_true_eq] at h
  refine ⟨?_, (formed_places hf).1, (formed_places hf).2⟩
  have hn := (noneT_iff _).1 h.1.1.1
  rw [hn]
  rfl
theorem conf_take (ps : List (List ByteArray)) {i : Nat} (hi : i < ps.length) : confL [] (ps.take (i + 1)) = (confL [] (ps.take i) || (ps.take i).any fun q => meetP ps[i] q) := by
  rw [List.take_add_one, List.getElem?_eq_getElem hi]
  have h := confL_snoc (ps.take i) [] ps[i]
  rw [List.nil_append] at h
  exact h
theorem conf_true {ps : List (List ByteArray)} {i k : Nat} (hi : i < ps.length) (hk : k < i) (h : meetP ps[i] ps[k] = true) : confL [] ps = true := by
  have h1 : confL [] (ps.take (i + 1)) = true := by
    rw [conf_take ps hi, List.any_eq_true.2 ⟨ps[k], List.mem_take_iff_getElem.2 ⟨k, by omega, rfl⟩, h⟩, Bool.or_true]
  have h2 := confL_pre (ps.take (i + 1)) (ps.drop (i + 1)) [] h1
  rwa [List.take_append_drop] at h2
theorem conf_false {ps : List (List ByteArray)} (h : ∀ i (hi : i < ps.length) k (hk : k < i), meetP ps[i] ps[k] = false) : confL [] ps = false := by
  have hn : ∀ n, n ≤ ps.length → confL [] (ps.take n) = false := by
    intro n
    induction n with
    | zero => intro _; simp [confL]
    | succ n ih =>
      intro hn
      rw [conf_take ps (by omega), ih (by omega), Bool.false_or]
      refine List.any_eq_false.2 fun x hx => ?_
      obtain ⟨k, hk, rfl⟩ := List.mem_take_iff_getElem.1 hx
      rw [h n (by omega) k (by omega)]
      simp
  have h2 := hn ps.length (Nat.le_refl _)
  rwa [List.take_length] at h2
end Go.Proofs.Ytipiplnhbecjeaa

/- What keeps an update from being one, by the document. -/
namespace Go.Proofs.Ytipiplnhbecjeaa
set_option linter.unusedVariables false
set_option linter.unusedSimpArgs false
open Go.RowKit
set_option maxRecDepth 100000
end Go.Proofs.Ytipiplnhbecjeaa
