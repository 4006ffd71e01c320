/- Operators and updates, plain: which may be, their places, what keeps an update from being one. -/
import Derived.Test.YtipiplnhbecjeaaKValS
import Derived.Test.YtipiplnhbecjeaaKPathB
import Derived.Test.YtipiplnhbecjeaaKLook
import Derived.Test.YtipiplnhbecjeaaKVr
import Derived.Test.YtipiplnhbecjeaaKRefD2
namespace Go.Proofs.Ytipiplnhbecjeaa
set_option linter.unusedVariables false
set_option linter.unusedSimpArgs false
open Go.RowKit
structure OpT where
  kind : Int
  path : List ByteArray
  val : VT
  to : List ByteArray
structure SpecT where
  rep : Bool
  doc : VT
  ops : List OpT
/-- Is a value {}? -/
def noneT (t : VT) : Bool := decide (t.kind = 0) && decide (t.num = 0) && decide (t.text.toList = []) && decide (t.items.length = 0) && decide (t.names.length = 0)
theorem noneT_iff (t : VT) : noneT t = true ↔ t = .mk 0 0 ⟨#[]⟩ [] [] := by
  obtain ⟨k, i, s, l, ns⟩ := t
  unfold noneT VT.kind VT.num VT.text VT.items VT.names
  simp only [Bool.and_eq_true, decide_eq_true_eq, VT.mk.injEq]
  constructor
  · rintro ⟨⟨⟨⟨h1, h2⟩, h3⟩, h4⟩, h5⟩
    refine ⟨h1, h2, ?_, List.eq_nil_of_length_eq_zero h4, List.eq_nil_of_length_eq_zero h5⟩
    rw [ByteArray.toList_eq] at h3
    obtain ⟨⟨x⟩⟩ := s
    simp at h3
    rw [h3]
  · rintro ⟨h1, h2, h3, h4, h5⟩
    subst h3 h4 h5
    exact ⟨⟨⟨⟨h1, h2⟩, by simp [ByteArray.toList_eq]⟩, rfl⟩, rfl⟩
/-- May an operator be? -/
def mayO (o : OpT) : Bool := mayP o.path &&
  (if o.kind = 3 then decide (o.val.kind = 3) && decide (checkT o.val = 0) && decide (o.to.length = 0)
   else if o.kind = 1 ∨ o.kind = 4 ∨ o.kind = 5 ∨ o.kind = 7 ∨ o.kind = 8 then decide (checkT o.val = 0) && decide (o.to.length = 0)
   else if o.kind = 2 then noneT o.val && decide (o.to.length = 0)
   else if o.kind = 6 then noneT o.val && mayP o.to else false)
def placesO (o : OpT) : List (List ByteArray) := if o.kind = 6 then [o.path, o.to] else [o.path]
def placesL (l : List OpT) : List (List ByteArray) := l.flatMap placesO
def idN : ByteArray := ⟨#[95, 105, 100]⟩
def formedS (s : SpecT) : Bool := if s.rep then decide (s.ops.length = 0) && decide (s.doc.kind = 7) && decide (checkT s.doc = 0) else noneT s.doc && decide (0 < s.ops.length) && decide (s.ops.length ≤ 16) && s.ops.all mayO
def touchesS (s : SpecT) : Bool := (s.doc.names.any fun x => decide (x = idN)) || (placesL s.ops).any fun p => decide (p.head? = some idN)
def meetP (a b : List ByteArray) : Bool := begP a b || begP b a
/-- Do two meet, one of them of the second list? -/
def confL : List (List ByteArray) → List (List ByteArray) → Bool
  | _, [] => false
  | ahead, p :: r => (ahead.any fun q => meetP p q) || confL (ahead ++ [p]) r
def checkS (s : SpecT) : Int := if formedS s then (if touchesS s then 70 else if confL [] (placesL s.ops) then 71 else 0) else 72
theorem placesL_nil : placesL [] = [] := rfl
theorem placesL_cons (o : OpT) (l : List OpT) : placesL (o :: l) = placesO o ++ placesL l := rfl
theorem placesO_le (o : OpT) : (placesO o).length ≤ 2 ∧ 1 ≤ (placesO o).length := by unfold placesO; split <;> simp
theorem placesL_le (l : List OpT) : (placesL l).length ≤ 2 * l.length := by
  induction l with
  | nil => simp [placesL]
  | cons o l ih => rw [placesL_cons, List.length_append, List.length_cons]; have := (placesO_le o).1; omega
theorem mayO_places {o : OpT} (h : mayO o = true) : ∀ p ∈ placesO o, mayP p = true := by
  unfold mayO at h
  rw [Bool.and_eq_true] at h
  intro p hp
  unfold placesO at hp
  by_cases h6 : o.kind = 6
  · rw [if_pos h6] at hp
    have h2 := h.2
    rw [h6] at h2
    simp at h2
    rcases List.mem_cons.1 hp with rfl | hp
    · exact h.1
    · rw [List.mem_singleton.1 hp]; exact h2.2
  · rw [if_neg h6] at hp
    rw [List.mem_singleton.1 hp]; exact h.1
theorem all_places {l : List OpT} (h : l.all mayO = true) : ∀ p ∈ placesL l, mayP p = true := by
  intro p hp
  obtain ⟨o, ho, hp⟩ := List.mem_flatMap.1 hp
  exact mayO_places (List.all_eq_true.1 h o ho) p hp
end Go.Proofs.Ytipiplnhbecjeaa

/- Operators that lie in memory; {} , and whether an operator may be. -/
namespace Go.Proofs.Ytipiplnhbecjeaa
set_option linter.unusedVariables false
set_option linter.unusedSimpArgs false
open Go.RowKit
set_option maxRecDepth 100000
theorem toList_nil_iff (s : ByteArray) : (s.toList = []) ↔ s.toList = [] := Iff.rfl
set_option maxHeartbeats 4000000 in
theorem none_any (S : Nat → Prop) (t : VT) (v : Value) (w : World) (hS : ∀ b, S b → b < w.heap.size) (h : LV w S t v) :
    Calls Try.prog 35 #[v] w fun e w' => e = .returned (.bool (noneT t)) ∧ Below w.heap.size w w' := by
  obtain ⟨A, ca, A', ca', rfl, -, -, -, v1, hb⟩ := one_var hS h
  have q0 := v1.x.c0
  have q1 := v1.x.c1
  have q2 := v1.x.c2
  have q3 := v1.x.c3
  have q4 := v1.x.c4
  have HB := Lib.hid hb
  obtain ⟨r, hr⟩ : ∃ r, r = noneT t := ⟨_, rfl⟩
  have HR := Lib.hid hr
  rw [← hr]
  clear h v1 hb hr
  go_enter Try.func35, Try.ntmps35
  obtain ⟨b1, d1⟩ : ∃ b, (t.kind == 0) = b := ⟨_, rfl⟩
  obtain ⟨b2, d2⟩ : ∃ b, (t.num == 0) = b := ⟨_, rfl⟩
  obtain ⟨b3, d3⟩ : ∃ b, (t.text.toList == []) = b := ⟨_, rfl⟩
  obtain ⟨b4, d4⟩ : ∃ b, ((t.items.length : Int) == 0) = b := ⟨_, rfl⟩
  obtain ⟨b5, d5⟩ : ∃ b, ((t.names.length : Int) == 0) = b := ⟨_, rfl⟩
  cases b1 <;> cases b2 <;> cases b3 <;> cases b4 <;> cases b5
  all_goals
    go_wp2_with fail
    go_ret
    refine ⟨?_, HB.out⟩
    rw [HR.out]
    unfold noneT
    simp at d1 d2 d3 d4 d5
    simp [d1, d2, d3, d4, d5]
end Go.Proofs.Ytipiplnhbecjeaa

/- Whether an operator may be, by the program. -/
namespace Go.Proofs.Ytipiplnhbecjeaa
set_option linter.unusedVariables false
set_option linter.unusedSimpArgs false
open Go.RowKit
set_option maxRecDepth 100000
/-- An operator that lies in memory: its cells. -/
def OpL (w : World) (S : Nat → Prop) (o : OpT) (cs : Array Value) : Prop :=
  ∃ (PA : Option Addr) (pc : Nat) (a b c d e : Value) (TA : Option Addr) (tc : Nat), cs = #[.int .i64 o.kind, .slice PA o.path.length pc, a, b, c, d, e, .slice TA o.to.length tc] ∧
    LV w S o.val (.agg #[a, b, c, d, e]) ∧ StrsAt w S PA o.path ∧ StrsAt w S TA o.to ∧ o.path.length ≤ pc ∧ o.to.length ≤ tc ∧ Rng o.kind ∧ o.path.length ≤ 8796093021952 ∧ o.to.length ≤ 8796093021952
theorem OpL.keep {w w' : World} {S : Nat → Prop} {o : OpT} {cs : Array Value} (h : OpL w S o cs) (hk : ∀ b, S b → w'.heap[b]? = w.heap[b]?) : OpL w' S o cs := by
  obtain ⟨PA, pc, a, b, c, d, e, TA, tc, h1, h2, h3, h4, h5⟩ := h
  exact ⟨PA, pc, a, b, c, d, e, TA, tc, h1, h2.keep hk, h3.keep hk, h4.keep hk, h5⟩
theorem OpL.imp {w : World} {S S' : Nat → Prop} {o : OpT} {cs : Array Value} (h : OpL w S o cs) (hS : ∀ b, S b → S' b) : OpL w S' o cs := by
  obtain ⟨PA, pc, a, b, c, d, e, TA, tc, h1, h2, h3, h4, h5⟩ := h
  exact ⟨PA, pc, a, b, c, d, e, TA, tc, h1, h2.imp hS, h3.imp hS, h4.imp hS, h5⟩
theorem OpL.below {w w' : World} {S : Nat → Prop} {o : OpT} {cs : Array Value} (h : OpL w S o cs) (hS : ∀ b, S b → b < w.heap.size) (hb : Below w.heap.size w w') : OpL w' S o cs := h.keep fun b hb' => hb.block b (hS b hb')
set_option maxHeartbeats 16000000 in
theorem spmay_any (S : Nat → Prop) (o : OpT) (cs : Array Value) (w : World) (hS : ∀ b, S b → b < w.heap.size) (h : OpL w S o cs) (hd : depthT o.val ≤ 4611686018427387903) :
    Calls Try.prog 16 #[.agg cs] w fun e w' => e = .returned (.bool (mayO o)) ∧ Below w.heap.size w w' := by
  obtain ⟨PA, pc, a, b, c, d, e, TA, tc, rfl, hv, hp, ht, hpc, htc, hk, hpl, htl⟩ := h
  obtain ⟨VA, vc, VA', vc', hvs, -⟩ := hv.shape
  simp only [Value.agg.injEq, Array.mk.injEq, List.cons.injEq, and_true] at hvs
  obtain ⟨rfl, rfl, rfl, rfl, rfl⟩ := hvs
  obtain ⟨w1, hw1⟩ : ∃ W, W = w.alloc (.cells #[.int .i64 o.kind, .slice PA o.path.length pc, .int .i64 o.val.kind, .int .i64 o.val.num, .string o.val.text, .slice VA o.val.items.length vc, .slice VA' o.val.names.length vc', .slice TA o.to.length tc] 27) := ⟨_, rfl⟩
  have hbk : w1.heap[w.heap.size]? = some (.cells #[.int .i64 o.kind, .slice PA o.path.length pc, .int .i64 o.val.kind, .int .i64 o.val.num, .string o.val.text, .slice VA o.val.items.length vc, .slice VA' o.val.names.length vc', .slice TA o.to.length tc] 27 (0, 0)) := by rw [hw1]; exact heap_alloc_new w _
  have hb1 : Below w.heap.size w w1 := by rw [hw1]; exact (Below.refl _ _).alloc (Nat.le_refl _) _
  have y0 := Go.Joins.cell_of_block hbk 0
  have y1 := Go.Joins.cell_of_block hbk 1
  have y2 := Go.Joins.cell_of_block hbk 2
  have y3 := Go.Joins.cell_of_block hbk 3
  have y4 := Go.Joins.cell_of_block hbk 4
  have y5 := Go.Joins.cell_of_block hbk 5
  have y6 := Go.Joins.cell_of_block hbk 6
  have y7 := Go.Joins.cell_of_block hbk 7
  have hS1 : ∀ b, S b → b < w1.heap.size := fun b hb => Nat.lt_of_lt_of_le (hS b hb) hb1.size
  have hv1 := hv.keep fun b hb => hb1.block b (hS b hb)
  have HMA := Lib.hid (pmay_any PA pc o.path w1 S (hp.keep fun b hb => hb1.block b (hS b hb)) (by omega))
  have HCK := Lib.hid (check_any S o.val _ w1 hS1 hv1 hd)
  have HNO := Lib.hid (none_any S o.val _ w1 hS1 hv1)
  have HBK := Lib.hid hbk
  have HB1 := Lib.hid hb1
  have HW1 := Lib.hid hw1
  have HS := Lib.hid hS
  have HT := Lib.hid ht
  have HTL := Lib.hid htl
  obtain ⟨r, hr⟩ : ∃ r, r = mayO o := ⟨_, rfl⟩
  have HR := Lib.hid hr
  rw [← hr]
  clear hbk hb1 hS1 hv1 hv hp ht hpc htc hk hpl htl hd hS hr
  go_enter Try.func16, Try.ntmps16
  go_wp2_with fail
  rw [← hw1]
  clear hw1
  refine HMA.out.mono ?_
  rintro e w2 ⟨rfl, rfl⟩
  clear HMA
  cases hmp : mayP o.path
  · go_wp2_with fail
    go_ret
    exact ⟨by rw [HR.out]; unfold mayO; rw [hmp]; rfl, HB1.out⟩
  have HMP := Lib.hid hmp
  clear hmp
  obtain ⟨k, hk⟩ : ∃ k, k = o.kind := ⟨_, rfl⟩
  rw [← hk] at y0
  have HK := Lib.hid hk.symm
  clear hk
  by_cases k3 : k = 3
  · subst k3
    by_cases hv3 : o.val.kind = 3
    · have e3 : (o.val.kind != 3) = false := by rw [hv3]; rfl
      have HV3 := Lib.hid hv3
      clear hv3
      go_wp2_with fail
      refine HCK.out.mono ?_
      rintro e w3 ⟨rfl, hb3⟩
      have HB3 := Lib.hid (HB1.out.trans (hb3.mono HB1.out.size))
      have HBK3 := (hb3.block _ (Array.getElem?_eq_some_iff.1 HBK.out).1).trans HBK.out
      have z7 := Go.Joins.cell_of_block HBK3 7
      obtain ⟨b1, d1⟩ : ∃ b, (checkT o.val == 0) = b := ⟨_, rfl⟩
      obtain ⟨b2, d2⟩ : ∃ b, ((o.to.length : Int) == 0) = b := ⟨_, rfl⟩
      have HE : Hid (mayO o = (b1 && b2)) := Lib.hid (by
        rw [← d1, ← d2]
        unfold mayO
        rw [HMP.out, HK.out, HV3.out]
        rw [Bool.eq_iff_iff]
        simp)
      clear hb3 HBK3 HCK
      cases b1 <;> cases b2
      all_goals
        go_wp2_with fail
        go_ret
        exact ⟨by rw [HR.out, HE.out]; rfl, HB3.out⟩
    · have e3 : (o.val.kind != 3) = true := by simpa using hv3
      have HV3 := Lib.hid hv3
      clear hv3
      go_wp2_with fail
      go_ret
      exact ⟨by rw [HR.out]; unfold mayO; rw [HK.out]; simp [HV3.out], HB1.out⟩
  have e3 := beq_false_of_ne k3
  by_cases k1 : k = 1
  · subst k1
    go_wp2_with fail
    refine HCK.out.mono ?_
    rintro e w3 ⟨rfl, hb3⟩
    have HB3 := Lib.hid (HB1.out.trans (hb3.mono HB1.out.size))
    have HBK3 := (hb3.block _ (Array.getElem?_eq_some_iff.1 HBK.out).1).trans HBK.out
    have z7 := Go.Joins.cell_of_block HBK3 7
    obtain ⟨b1, d1⟩ : ∃ b, (checkT o.val == 0) = b := ⟨_, rfl⟩
    obtain ⟨b2, d2⟩ : ∃ b, ((o.to.length : Int) == 0) = b := ⟨_, rfl⟩
    have HE : Hid (mayO o = (b1 && b2)) := Lib.hid (by
      rw [← d1, ← d2]
      unfold mayO
      rw [HMP.out, HK.out]
      rw [Bool.eq_iff_iff]
      simp)
    clear hb3 HBK3 HCK
    cases b1 <;> cases b2
    all_goals
      go_wp2_with fail
      go_ret
      exact ⟨by rw [HR.out, HE.out]; rfl, HB3.out⟩
  have e1 := beq_false_of_ne k1
  by_cases k4 : k = 4
  · subst k4
    go_wp2_with fail
    refine HCK.out.mono ?_
    rintro e w3 ⟨rfl, hb3⟩
    have HB3 := Lib.hid (HB1.out.trans (hb3.mono HB1.out.size))
    have HBK3 := (hb3.block _ (Array.getElem?_eq_some_iff.1 HBK.out).1).trans HBK.out
    have z7 := Go.Joins.cell_of_block HBK3 7
    obtain ⟨b1, d1⟩ : ∃ b, (checkT o.val == 0) = b := ⟨_, rfl⟩
    obtain ⟨b2, d2⟩ : ∃ b, ((o.to.length : Int) == 0) = b := ⟨_, rfl⟩
    have HE : Hid (mayO o = (b1 && b2)) := Lib.hid (by
      rw [← d1, ← d2]
      unfold mayO
      rw [HMP.out, HK.out]
      rw [Bool.eq_iff_iff]
      simp)
    clear hb3 HBK3 HCK
    cases b1 <;> cases b2
    all_goals
      go_wp2_with fail
      go_ret
      exact ⟨by rw [HR.out, HE.out]; rfl, HB3.out⟩
  have e4 := beq_false_of_ne k4
  by_cases k5 : k = 5
  · subst k5
    go_wp2_with fail
    refine HCK.out.mono ?_
    rintro e w3 ⟨rfl, hb3⟩
    have HB3 := Lib.hid (HB1.out.trans (hb3.mono HB1.out.size))
    have HBK3 := (hb3.block _ (Array.getElem?_eq_some_iff.1 HBK.out).1).trans HBK.out
    have z7 := Go.Joins.cell_of_block HBK3 7
    obtain ⟨b1, d1⟩ : ∃ b, (checkT o.val == 0) = b := ⟨_, rfl⟩
    obtain ⟨b2, d2⟩ : ∃ b, ((o.to.length : Int) == 0) = b := ⟨_, rfl⟩
    have HE : Hid (mayO o = (b1 && b2)) := Lib.hid (by
      rw [← d1, ← d2]
      unfold mayO
      rw [HMP.out, HK.out]
      rw [Bool.eq_iff_iff]
      simp)
    clear hb3 HBK3 HCK
    cases b1 <;> cases b2
    all_goals
      go_wp2_with fail
      go_ret
      exact ⟨by rw [HR.out, HE.out]; rfl, HB3.out⟩
  have e5 := beq_false_of_ne k5
  by_cases k7 : k = 7
  · subst k7
    go_wp2_with fail
    refine HCK.out.mono ?_
    rintro e w3 ⟨rfl, hb3⟩
    have HB3 := Lib.hid (HB1.out.trans (hb3.mono HB1.out.size))
    have HBK3 := (hb3.block _ (Array.getElem?_eq_some_iff.1 HBK.out).1).trans HBK.out
    have z7 := Go.Joins.cell_of_block HBK3 7
    obtain ⟨b1, d1⟩ : ∃ b, (checkT o.val == 0) = b := ⟨_, rfl⟩
    obtain ⟨b2, d2⟩ : ∃ b, ((o.to.length : Int) == 0) = b := ⟨_, rfl⟩
    have HE : Hid (mayO o = (b1 && b2)) := Lib.hid (by
      rw [← d1, ← d2]
      unfold mayO
      rw [HMP.out, HK.out]
      rw [Bool.eq_iff_iff]
      simp)
    clear hb3 HBK3 HCK
    cases b1 <;> cases b2
    all_goals
      go_wp2_with fail
      go_ret
      exact ⟨by rw [HR.out, HE.out]; rfl, HB3.out⟩
  have e7 := beq_false_of_ne k7
  by_cases k8 : k = 8
  · subst k8
    go_wp2_with fail
    refine HCK.out.mono ?_
    rintro e w3 ⟨rfl, hb3⟩
    have HB3 := Lib.hid (HB1.out.trans (hb3.mono HB1.out.size))
    have HBK3 := (hb3.block _ (Array.getElem?_eq_some_iff.1 HBK.out).1).trans HBK.out
    have z7 := Go.Joins.cell_of_block HBK3 7
    obtain ⟨b1, d1⟩ : ∃ b, (checkT o.val == 0) = b := ⟨_, rfl⟩
    obtain ⟨b2, d2⟩ : ∃ b, ((o.to.length : Int) == 0) = b := ⟨_, rfl⟩
    have HE : Hid (mayO o = (b1 && b2)) := Lib.hid (by
      rw [← d1, ← d2]
      unfold mayO
      rw [HMP.out, HK.out]
      rw [Bool.eq_iff_iff]
      simp)
    clear hb3 HBK3 HCK
    cases b1 <;> cases b2
    all_goals
      go_wp2_with fail
      go_ret
      exact ⟨by rw [HR.out, HE.out]; rfl, HB3.out⟩
  have e8 := beq_false_of_ne k8
  by_cases k2 : k = 2
  · subst k2
    go_wp2_with fail
    refine HNO.out.mono ?_
    rintro e w3 ⟨rfl, hb3⟩
    have HB3 := Lib.hid (HB1.out.trans (hb3.mono HB1.out.size))
    have HBK3 := (hb3.block _ (Array.getElem?_eq_some_iff.1 HBK.out).1).trans HBK.out
    have z7 := Go.Joins.cell_of_block HBK3 7
    obtain ⟨b1, d1⟩ : ∃ b, noneT o.val = b := ⟨_, rfl⟩
    obtain ⟨b2, d2⟩ : ∃ b, ((o.to.length : Int) == 0) = b := ⟨_, rfl⟩
    have HE : Hid (mayO o = (b1 && b2)) := Lib.hid (by
      rw [← d1, ← d2]
      unfold mayO
      rw [HMP.out, HK.out]
      rw [Bool.eq_iff_iff]
      simp)
    clear hb3 HBK3 HNO
    cases b1 <;> cases b2
    all_goals
      go_wp2_with fail
      go_ret
      exact ⟨by rw [HR.out, HE.out]; rfl, HB3.out⟩
  have e2 := beq_false_of_ne k2
  by_cases k6 : k = 6
  · subst k6
    go_wp2_with fail
    refine HNO.out.mono ?_
    rintro e w3 ⟨rfl, hb3⟩
    have HB3 := Lib.hid (HB1.out.trans (hb3.mono HB1.out.size))
    have HBK3 := (hb3.block _ (Array.getElem?_eq_some_iff.1 HBK.out).1).trans HBK.out
    have z7 := Go.Joins.cell_of_block HBK3 7
    have HTO := Lib.hid (pmay_any TA tc o.to w3 S (HT.out.keep fun b hb => HB3.out.block b (HS.out b hb)) (by have := HTL.out; omega))
    obtain ⟨b1, d1⟩ : ∃ b, noneT o.val = b := ⟨_, rfl⟩
    obtain ⟨b2, d2⟩ : ∃ b, mayP o.to = b := ⟨_, rfl⟩
    have HE : Hid (mayO o = (b1 && b2)) := Lib.hid (by
      rw [← d1, ← d2]
      unfold mayO
      rw [HMP.out, HK.out]
      rw [Bool.eq_iff_iff]
      simp)
    rw [d2] at HTO
    clear hb3 HBK3 HNO d2
    cases b1
    · go_wp2_with fail
      go_ret
      exact ⟨by rw [HR.out, HE.out]; rfl, HB3.out⟩
    · go_wp2_with fail
      refine HTO.out.mono ?_
      rintro e w4 ⟨rfl, rfl⟩
      cases b2
      all_goals
        go_wp2_with fail
        go_ret
        exact ⟨by rw [HR.out, HE.out]; rfl, HB3.out⟩
  have e6 := beq_false_of_ne k6
  have HN : Hid (mayO o = false) := Lib.hid (by
    unfold mayO
    rw [HK.out]
    simp [k3, k1, k4, k5, k7, k8, k2, k6])
  clear k3 k1 k4 k5 k7 k8 k2 k6
  go_wp2_with fail
  go_ret
  exact ⟨by rw [HR.out, HN.out]; rfl, HB1.out⟩
end Go.Proofs.Ytipiplnhbecjeaa

/- Whether all operators of a row may be, by the program. -/
namespace Go.Proofs.Ytipiplnhbecjeaa
set_option linter.unusedVariables false
set_option linter.unusedSimpArgs false
open Go.RowKit
set_option maxRecDepth 100000
theorem OpL.size {w : World} {S : Nat → Prop} {o : OpT} {cs : Array Value} (h : OpL w S o cs) : cs.size = 8 := by
  obtain ⟨PA, pc, a, b, c, d, e, TA, tc, rfl, -⟩ := h
  rfl
/-- A row of operators that lies in memory. -/
def OpsL (w : World) (S : Nat → Prop) (A : Option Addr) (l : List OpT) : Prop :=
  0 < l.length → ∃ b off, A = some ⟨b, off, none⟩ ∧ S b ∧ ∀ i (h : i < l.length), ∃ cs : Array Value, (∀ j v, cs[j]? = some v → w.cell? ⟨b, off + i * 8 + j, none⟩ = some v) ∧ OpL w S l[i] cs
theorem OpsL.keep {w w' : World} {S : Nat → Prop} {A : Option Addr} {l : List OpT} (h : OpsL w S A l) (hk : ∀ b, S b → w'.heap[b]? = w.heap[b]?) : OpsL w' S A l := fun hp => by
  obtain ⟨b, off, hA, hb, hc⟩ := h hp
  refine ⟨b, off, hA, hb, fun i hi => ?_⟩
  obtain ⟨cs, h1, h2⟩ := hc i hi
  exact ⟨cs, fun j v hv => (World.cell?_of_block (a := ⟨b, off + i * 8 + j, none⟩) (hk b hb)).trans (h1 j v hv), h2.keep hk⟩
theorem OpsL.imp {w : World} {S S' : Nat → Prop} {A : Option Addr} {l : List OpT} (h : OpsL w S A l) (hS : ∀ b, S b → S' b) : OpsL w S' A l := fun hp => by
  obtain ⟨b, off, hA, hb, hc⟩ := h hp
  refine ⟨b, off, hA, hS b hb, fun i hi => ?_⟩
  obtain ⟨cs, h1, h2⟩ := hc i hi
  exact ⟨cs, h1, h2.imp hS⟩
theorem OpsL.below' {w w' : World} {S : Nat → Prop} {A : Option Addr} {l : List OpT} {B : Nat} (h : OpsL w S A l) (hS : ∀ b, S b → b < B) (hb : Below B w w') : OpsL w' S A l := h.keep fun b hb' => hb.block b (hS b hb')
/-- Eight cells at a place of a row. -/
theorem OpsL.cells {w : World} {S : Nat → Prop} {A : Option Addr} {l : List OpT} (h : OpsL w S A l) (k : Nat) (hk : k < l.length) :
    ∃ b off, A = some ⟨b, off, none⟩ ∧ S b ∧ ∃ c0 c1 c2 c3 c4 c5 c6 c7, OpL w S l[k] #[c0, c1, c2, c3, c4, c5, c6, c7] ∧
      w.cell? ⟨b, off + k * 8, none⟩ = some c0 ∧ w.cell? ⟨b, off + k * 8 + 1, none⟩ = some c1 ∧ w.cell? ⟨b, off + k * 8 + 2, none⟩ = some c2 ∧ w.cell? ⟨b, off + k * 8 + 3, none⟩ = some c3 ∧ w.cell? ⟨b, off + k * 8 + 4, none⟩ = some c4 ∧ w.cell? ⟨b, off + k * 8 + 5, none⟩ = some c5 ∧ w.cell? ⟨b, off + k * 8 + 6, none⟩ = some c6 ∧ w.cell? ⟨b, off + k * 8 + 7, none⟩ = some c7 := by
  obtain ⟨b, off, hA, hb, hc⟩ := h (by omega)
  obtain ⟨cs, h1, h2⟩ := hc k hk
  obtain ⟨PA, pc, x0, x1, x2, x3, x4, TA, tc, e, -⟩ := id h2
  subst e
  exact ⟨b, off, hA, hb, _, _, _, _, _, _, _, _, h2, h1 0 _ rfl, h1 1 _ rfl, h1 2 _ rfl, h1 3 _ rfl, h1 4 _ rfl, h1 5 _ rfl, h1 6 _ rfl, h1 7 _ rfl⟩
set_option maxHeartbeats 4000000 in
theorem allMay1_any (S : Nat → Prop) (o : OpT) (c0 c1 c2 c3 c4 c5 c6 c7 : Value) (w : World) (hS : ∀ b, S b → b < w.heap.size) (h : OpL w S o #[c0, c1, c2, c3, c4, c5, c6, c7]) (hd : depthT o.val ≤ 4611686018427387903) :
    Calls Try.prog 61 #[.agg #[c0, c1, c2, c3, c4, c5, c6, c7]] w fun e w' => e = .returned (.bool (!mayO o)) ∧ Below w.heap.size w w' := by
  obtain ⟨w1, hw1⟩ : ∃ W, W = w.alloc (.cells #[c0, c1, c2, c3, c4, c5, c6, c7] 27) := ⟨_, rfl⟩
  have hbk : w1.heap[w.heap.size]? = some (.cells #[c0, c1, c2, c3, c4, c5, c6, c7] 27 (0, 0)) := by rw [hw1]; exact heap_alloc_new w _
  have hb1 : Below w.heap.size w w1 := by rw [hw1]; exact (Below.refl _ _).alloc (Nat.le_refl _) _
  have HM := Lib.hid (spmay_any S o #[c0, c1, c2, c3, c4, c5, c6, c7] w1 (fun b hb => Nat.lt_of_lt_of_le (hS b hb) hb1.size) (h.below hS hb1) hd)
  have y0 := Go.Joins.cell_of_block hbk 0
  have y1 := Go.Joins.cell_of_block hbk 1
  have y2 := Go.Joins.cell_of_block hbk 2
  have y3 := Go.Joins.cell_of_block hbk 3
  have y4 := Go.Joins.cell_of_block hbk 4
  have y5 := Go.Joins.cell_of_block hbk 5
  have y6 := Go.Joins.cell_of_block hbk 6
  have y7 := Go.Joins.cell_of_block hbk 7
  have HB1 := Lib.hid hb1
  obtain ⟨PA, pc, a, b, c, d, e, TA, tc, he, hv, -⟩ := h
  obtain ⟨VA, vc, VA', vc', hvs, -⟩ := hv.shape
  simp only [Value.agg.injEq, Array.mk.injEq, List.cons.injEq, and_true] at hvs he
  obtain ⟨rfl, rfl, rfl, rfl, rfl, rfl, rfl, rfl⟩ := he
  obtain ⟨rfl, rfl, rfl, rfl, rfl⟩ := hvs
  clear hbk hb1 hv hS hd
  go_enter Try.func61, Try.ntmps61
  go_wp2_with fail
  rw [← hw1]
  refine HM.out.mono ?_
  rintro e w2 ⟨rfl, hb2⟩
  have HB2 := Lib.hid (HB1.out.trans (hb2.mono HB1.out.size))
  clear hb2 HM
  go_wp2_with fail
  go_ret
  exact ⟨rfl, HB2.out⟩
def SmallO (l : List OpT) : Prop := ∀ o ∈ l, depthT o.val ≤ 4611686018427387903
theorem all_upto' {α : Type} {p : α → Bool} {l : List α} (h : ∀ j (h : j < l.length), p l[j] = true) : l.all p = true := by
  rw [List.all_eq_true]
  intro x hx
  obtain ⟨j, hj, rfl⟩ := List.mem_iff_getElem.1 hx
  exact h j hj
theorem all_not' {α : Type} {p : α → Bool} {l : List α} {j : Nat} (hj : j < l.length) (h : p l[j] = false) : l.all p = false := by
  rw [List.all_eq_false]
  exact ⟨l[j], List.getElem_mem hj, by rw [h]; simp⟩
set_option maxHeartbeats 4000000 in
theorem idxOp_any (S : Nat → Prop) (A : Option Addr) (c : Nat) (l : List OpT) (w : World) (hS : ∀ b, S b → b < w.heap.size) (h : OpsL w S A l) (hn : l.length ≤ 140737488351232) (hd : SmallO l) :
    Calls Try.prog 84 #[.slice A l.length c, .func (.func 61) #[] #[]] w fun e w' => (∃ i : Int, e = .returned (.int .i64 i) ∧ decide (0 ≤ i) = (!(l.all mayO))) ∧ Below w.heap.size w w' := by
  have H := Lib.hid h
  have HS := Lib.hid hS
  have HD := Lib.hid hd
  have HN := Lib.hid hn
  clear h hS hd
  go_enter Try.func84, Try.ntmps84
  go_wp2_with fail
  go_loopw [8] (fun i wr => ∃ k : Nat, i = .int .i64 k ∧ k ≤ l.length ∧ Hid (Below w.heap.size w wr) ∧ Hid (∀ j (h : j < l.length), j < k → mayO l[j] = true)) (fun i _ => l.length - (intOf i).toNat)
  case atStart => exact ⟨0, rfl, by omega, Lib.hid (Below.refl _ _), Lib.hid fun j _ h => absurd h (by omega)⟩
  case round =>
    obtain ⟨k, rfl, hk, HB, HJ⟩ := hrel
    by_cases hlt : k < l.length
    · have hS2 : ∀ b, S b → b < wr.heap.size := fun b hb => Nat.lt_of_lt_of_le (HS.out b hb) HB.out.size
      obtain ⟨p, off, rfl, hpS, c0, c1, c2, c3, c4, c5, c6, c7, ho, x0, x1, x2, x3, x4, x5, x6, x7⟩ := (H.out.below' HS.out HB.out).cells k hlt
      have HC := Lib.hid (allMay1_any S l[k] c0 c1 c2 c3 c4 c5 c6 c7 wr hS2 ho (HD.out _ (List.getElem_mem hlt)))
      clear ho hS2 hpS
      go_wp2_with fail
      refine HC.out.mono ?_
      rintro e u ⟨rfl, hb⟩
      have HB2 := Lib.hid (HB.out.trans (hb.mono HB.out.size))
      clear hb HC x0 x1 x2 x3 x4 x5 x6 x7
      cases hm : mayO l[k]
      · have HM := Lib.hid hm
        clear hm
        go_wp2_with fail
        go_ret
        exact ⟨⟨k, rfl, by rw [all_not' hlt HM.out]; simp⟩, HB2.out⟩
      · have HM := Lib.hid hm
        clear hm
        go_wp2_with fail
        go_roundw
        case rel => exact ⟨k + 1, by go_num, by omega, HB2, Lib.hid fun j h hjk => by
          by_cases e : j = k
          · subst e; exact HM.out
          · exact HJ.out j h (by omega)⟩
        case measure => simp [intOf]; omega
    · go_wp2_with fail
      go_ret
      exact ⟨⟨-1, rfl, by rw [all_upto' fun j h => HJ.out j h (by omega)]; rfl⟩, HB.out⟩
theorem contOp_any (S : Nat → Prop) (A : Option Addr) (c : Nat) (l : List OpT) (w : World) (hS : ∀ b, S b → b < w.heap.size) (h : OpsL w S A l) (hn : l.length ≤ 140737488351232) (hd : SmallO l) :
    Calls Try.prog 60 #[.slice A l.length c, .func (.func 61) #[] #[]] w fun e w' => e = .returned (.bool (!(l.all mayO))) ∧ Below w.heap.size w w' := by
  have HC := Lib.hid (idxOp_any S A c l w hS h hn hd)
  clear h hS hd
  go_enter Try.func60, Try.ntmps60
  go_wp2_with fail
  refine HC.out.mono ?_
  rintro e u ⟨⟨i, rfl, hi⟩, hb⟩
  have HI := Lib.hid hi
  have HB := Lib.hid hb
  clear hi hb HC
  go_wp2_with fail
  go_ret
  exact ⟨ret_bool HI.out, HB.out⟩
theorem allMay_any (S : Nat → Prop) (A : Option Addr) (c : Nat) (l : List OpT) (w : World) (hS : ∀ b, S b → b < w.heap.size) (h : OpsL w S A l) (hn : l.length ≤ 140737488351232) (hd : SmallO l) :
    Calls Try.prog 36 #[.slice A l.length c] w fun e w' => e = .returned (.bool (l.all mayO)) ∧ Below w.heap.size w w' := by
  have HC := Lib.hid (contOp_any S A c l w hS h hn hd)
  clear h hS hd
  go_enter Try.func36, Try.ntmps36
  go_wp2_with fail
  refine HC.out.mono ?_
  rintro e u ⟨rfl, hb⟩
  have HB := Lib.hid hb
  clear hb HC
  obtain ⟨b, hb⟩ : ∃ b, b = l.all mayO := ⟨_, rfl⟩
  rw [← hb]
  have HBE := Lib.hid hb
  clear hb
  go_wp2_with fail
  go_ret
  exact ⟨by rw [← HBE.out]; cases b <;> rfl, HB.out⟩
end Go.Proofs.Ytipiplnhbecjeaa

/- Whether an update is formed, by the program. -/
namespace Go.Proofs.Ytipiplnhbecjeaa
set_option linter.unusedVariables false
set_option linter.unusedSimpArgs false
open Go.RowKit
set_option maxRecDepth 100000
/-- An update that lies in memory: its cells. -/
def SpecL (w : World) (S : Nat → Prop) (s : SpecT) (cs : Array Value) : Prop :=
  ∃ (DA : Option Addr) (dc : Nat) (DA' : Option Addr) (dc' : Nat) (OA : Option Addr) (oc : Nat), cs = #[.bool s.rep, .int .i64 s.doc.kind, .int .i64 s.doc.num, .string s.doc.text, .slice DA s.doc.items.length dc, .slice DA' s.doc.names.length dc', .slice OA s.ops.length oc] ∧
    LV w S s.doc (.agg #[.int .i64 s.doc.kind, .int .i64 s.doc.num, .string s.doc.text, .slice DA s.doc.items.length dc, .slice DA' s.doc.names.length dc']) ∧ OpsL w S OA s.ops ∧ s.ops.length ≤ oc ∧ s.ops.length ≤ 1099511627776
theorem SpecL.keep {w w' : World} {S : Nat → Prop} {s : SpecT} {cs : Array Value} (h : SpecL w S s cs) (hk : ∀ b, S b → w'.heap[b]? = w.heap[b]?) : SpecL w' S s cs := by
  obtain ⟨DA, dc, DA', dc', OA, oc, h1, h2, h3, h4⟩ := h
  exact ⟨DA, dc, DA', dc', OA, oc, h1, h2.keep hk, h3.keep hk, h4⟩
theorem SpecL.below {w w' : World} {S : Nat → Prop} {s : SpecT} {cs : Array Value} {B : Nat} (h : SpecL w S s cs) (hS : ∀ b, S b → b < B) (hb : Below B w w') : SpecL w' S s cs := h.keep fun b hb' => hb.block b (hS b hb')
def SmallS (s : SpecT) : Prop := depthT s.doc ≤ 4611686018427387903 ∧ SmallO s.ops
/-- An update in a box. -/
def SBox (w : World) (g : Nat) (s : SpecT) (DA : Option Addr) (dc : Nat) (DA' : Option Addr) (dc' : Nat) (OA : Option Addr) (oc : Nat) : Prop :=
  w.heap[g]? = some (.cells #[.bool s.rep, .int .i64 s.doc.kind, .int .i64 s.doc.num, .string s.doc.text, .slice DA s.doc.items.length dc, .slice DA' s.doc.names.length dc', .slice OA s.ops.length oc] 35 (0, 0))
theorem SBox.below {w w' : World} {g : Nat} {s : SpecT} {DA : Option Addr} {dc : Nat} {DA' : Option Addr} {dc' : Nat} {OA : Option Addr} {oc : Nat} (h : SBox w g s DA dc DA' dc' OA oc) (hb : Below w.heap.size w w') : SBox w' g s DA dc DA' dc' OA oc := (hb.block g (Array.getElem?_eq_some_iff.1 h).1).trans h
set_option maxHeartbeats 16000000 in
theorem formed_any (S : Nat → Prop) (s : SpecT) (cs : Array Value) (w : World) (hS : ∀ b, S b → b < w.heap.size) (h : SpecL w S s cs) (hd : SmallS s) :
    Calls Try.prog 19 #[.agg cs] w fun e w' => e = .returned (.bool (formedS s)) ∧ Below w.heap.size w w' := by
  obtain ⟨DA, dc, DA', dc', OA, oc, rfl, hv, ho, hoc, hol⟩ := h
  obtain ⟨w1, hw1⟩ : ∃ W, W = w.alloc (.cells #[.bool s.rep, .int .i64 s.doc.kind, .int .i64 s.doc.num, .string s.doc.text, .slice DA s.doc.items.length dc, .slice DA' s.doc.names.length dc', .slice OA s.ops.length oc] 35) := ⟨_, rfl⟩
  have hbk : SBox w1 w.heap.size s DA dc DA' dc' OA oc := by rw [hw1]; exact heap_alloc_new w _
  have hb1 : Below w.heap.size w w1 := by rw [hw1]; exact (Below.refl _ _).alloc (Nat.le_refl _) _
  have hS1 : ∀ b, S b → b < w1.heap.size := fun b hb => Nat.lt_of_lt_of_le (hS b hb) hb1.size
  have y0 := Go.Joins.cell_of_block hbk 0
  have y1 := Go.Joins.cell_of_block hbk 1
  have y2 := Go.Joins.cell_of_block hbk 2
  have y3 := Go.Joins.cell_of_block hbk 3
  have y4 := Go.Joins.cell_of_block hbk 4
  have y5 := Go.Joins.cell_of_block hbk 5
  have y6 := Go.Joins.cell_of_block hbk 6
  have hv1 := hv.keep fun b hb => hb1.block b (hS b hb)
  have HCK := Lib.hid (check_any S s.doc _ w1 hS1 hv1 hd.1)
  have HNO := Lib.hid (none_any S s.doc _ w1 hS1 hv1)
  have HB1 := Lib.hid hb1
  have HBK := Lib.hid hbk
  have HO := Lib.hid ho
  have HS := Lib.hid hS
  have HD := Lib.hid hd
  have HOL := Lib.hid hol
  obtain ⟨r, hr⟩ : ∃ r, r = formedS s := ⟨_, rfl⟩
  have HR := Lib.hid hr
  rw [← hr]
  clear hbk hb1 hS1 hv1 hv ho hoc hol hd hS hr
  obtain ⟨rp, hrp⟩ : ∃ rp, rp = s.rep := ⟨_, rfl⟩
  have HRP := Lib.hid hrp.symm
  rw [← hrp] at y0 hw1 ⊢
  obtain ⟨n, hn⟩ : ∃ n, n = s.ops.length := ⟨_, rfl⟩
  have HN := Lib.hid hn
  rw [← hn] at y6 hw1 ⊢
  have HW1 := Lib.hid hw1
  clear hrp hn
  go_enter Try.func19, Try.ntmps19
  cases rp
  · obtain ⟨b1, d1⟩ : ∃ b, noneT s.doc = b := ⟨_, rfl⟩
    obtain ⟨b3, d3⟩ : ∃ b, decide ((n : Int) ≤ 16) = b := ⟨_, rfl⟩
    obtain ⟨b4, d4⟩ : ∃ b, s.ops.all mayO = b := ⟨_, rfl⟩
    have HE : Hid (formedS s = (b1 && decide (0 < n) && b3 && b4)) := Lib.hid (by
      rw [← d1, ← d3, ← d4]
      unfold formedS
      rw [HRP.out, HN.out, show decide ((s.ops.length : Int) ≤ 16) = decide (s.ops.length ≤ 16) from decide_eq_decide.2 (by omega)]
      simp)
    rw [d1] at HNO
    clear d1 hw1
    go_wp2_with fail
    rw [← HW1.out]
    refine HNO.out.mono ?_
    rintro e w2 ⟨rfl, hb2⟩
    have HB2 := Lib.hid (HB1.out.trans (hb2.mono HB1.out.size))
    have hbk2 := HBK.out.below hb2
    have z6 := Go.Joins.cell_of_block hbk2 6
    rw [← HN.out] at z6
    have HAM := Lib.hid (allMay_any S OA oc s.ops w2 (fun b hb => Nat.lt_of_lt_of_le (HS.out b hb) HB2.out.size) (HO.out.below' HS.out HB2.out) (by have := HOL.out; omega) HD.out.2)
    rw [d4, ← HN.out] at HAM
    clear d4 hb2 hbk2 HNO
    cases b1
    · go_wp2_with fail
      go_ret
      exact ⟨by rw [HR.out, HE.out]; rfl, HB2.out⟩
    rcases Nat.eq_zero_or_pos n with hz | hpos
    · have HE2 : Hid (formedS s = false) := Lib.hid (by rw [HE.out, hz]; rfl)
      subst hz
      go_wp2_with fail
      go_ret
      exact ⟨by rw [HR.out, HE2.out]; rfl, HB2.out⟩
    · have HE2 : Hid (formedS s = (b3 && b4)) := Lib.hid (by rw [HE.out, decide_eq_true hpos]; simp)
      have hpos' : decide (0 < n) = true := decide_eq_true hpos
      cases b3
      · go_wp2_with fail
        go_ret
        exact ⟨by rw [HR.out, HE2.out]; rfl, HB2.out⟩
      · go_wp2_with fail
        refine HAM.out.mono ?_
        rintro e w3 ⟨rfl, hb3⟩
        have HB3 := Lib.hid (HB2.out.trans (hb3.mono HB2.out.size))
        clear hb3
        go_wp2_with fail
        go_ret
        exact ⟨by rw [HR.out, HE2.out]; rfl, HB3.out⟩
  · obtain ⟨b1, d1⟩ : ∃ b, ((n : Int) == 0) = b := ⟨_, rfl⟩
    obtain ⟨b2, d2⟩ : ∃ b, (s.doc.kind == 7) = b := ⟨_, rfl⟩
    obtain ⟨b3, d3⟩ : ∃ b, (checkT s.doc == 0) = b := ⟨_, rfl⟩
    have HE : Hid (formedS s = (b1 && b2 && b3)) := Lib.hid (by
      rw [← d1, ← d2, ← d3]
      unfold formedS
      rw [HRP.out, HN.out, Bool.eq_iff_iff]
      simp)
    clear hw1
    cases b1 <;> cases b2
    all_goals first
      | (go_wp2_with fail
         try rw [← HW1.out]
         go_ret
         exact ⟨by rw [HR.out, HE.out]; rfl, HB1.out⟩)
      | (go_wp2_with fail
         rw [← HW1.out]
         refine HCK.out.mono ?_
         rintro e w3 ⟨rfl, hb3⟩
         have HB3 := Lib.hid (HB1.out.trans (hb3.mono HB1.out.size))
         clear hb3
         go_wp2_with fail
         go_ret
         exact ⟨by rw [HR.out, HE.out]; rfl, HB3.out⟩)
end Go.Proofs.Ytipiplnhbecjeaa
