/- Of two operators one of whose paths begins the other's, plain: they conflict. -/
import Derived.Test.YtipiplnhbecjeaaKSpM
import Derived.Test.YtipiplnhbecjeaaKRefD2
namespace Go.Proofs.Ytipiplnhbecjeaa
set_option linter.unusedVariables false
set_option linter.unusedSimpArgs false
open Go.RowKit
set_option maxRecDepth 100000
/-- An operator with another path. -/
def withP (o : OpT) (p : List ByteArray) : OpT := ⟨o.kind, p, o.val, o.to⟩
theorem mayO_path {o : OpT} (h : mayO o = true) : mayP o.path = true := by
  unfold mayO at h
  rw [Bool.and_eq_true] at h
  exact h.1
theorem mayO_with {o : OpT} {p : List ByteArray} (h : mayO o = true) (hp : mayP p = true) : mayO (withP o p) = true := by
  unfold mayO at h ⊢
  unfold withP
  rw [Bool.and_eq_true] at h ⊢
  exact ⟨hp, h.2⟩
theorem mayO_to {o : OpT} (h : mayO o = true) (hk : o.kind = 6) : mayP o.to = true :=
  mayO_places h o.to (by unfold placesO; rw [if_pos hk]; simp)
theorem mayP_posA {p : List ByteArray} (h : mayP p = true) : 0 < p.length := by
  unfold mayP at h
  simp only [Bool.and_eq_true, decide_eq_true_eq] at h
  omega
theorem mayP_snoc {p : List ByteArray} {s : ByteArray} (h : mayP p = true) (hl : p.length ≤ 7) (hs : mayP [s] = true) : mayP (p ++ [s]) = true := by
  unfold mayP at h hs ⊢
  simp only [Bool.and_eq_true, decide_eq_true_eq, List.length_append, List.length_cons, List.length_nil, List.all_append] at h hs ⊢
  exact ⟨by omega, h.2, hs.2⟩
/-- No place of an operator begins with the id. -/
def offId (o : OpT) : Prop := o.path.head? ≠ some idN ∧ (o.kind = 6 → o.to.head? ≠ some idN)
theorem offId_any {o : OpT} (h : offId o) : (placesO o).any (fun p => decide (p.head? = some idN)) = false := by
  unfold placesO
  by_cases hk : o.kind = 6
  · rw [if_pos hk]
    simp only [List.any_cons, List.any_nil, Bool.or_false, Bool.or_eq_false_iff, decide_eq_false_iff_not]
    exact ⟨h.1, h.2 hk⟩
  · rw [if_neg hk]
    simp only [List.any_cons, List.any_nil, Bool.or_false, decide_eq_false_iff_not]
    exact h.1
def pairS (a b : OpT) : SpecT := ⟨false, .mk 0 0 ⟨#[]⟩ [] [], [a, b]⟩
theorem pair_formed {a b : OpT} (ha : mayO a = true) (hb : mayO b = true) : formedS (pairS a b) = true := by
  unfold formedS pairS
  have h : noneT (.mk 0 0 ⟨#[]⟩ [] []) = true := (noneT_iff _).2 rfl
  simp [h, ha, hb]
theorem pair_touch {a b : OpT} (ha : offId a) (hb : offId b) : touchesS (pairS a b) = false := by
  unfold touchesS pairS
  simp only [placesL_cons, placesL_nil, List.append_nil, List.any_append, offId_any ha, offId_any hb, VT.names, List.any_nil, Bool.or_false]
theorem head_place (o : OpT) : (placesO o)[0]? = some o.path := by unfold placesO; split <;> rfl
theorem pair_conf {a b : OpT} (ha : mayO a = true) (hb : mayO b = true) (oa : offId a) (ob : offId b) (h : meetP b.path a.path = true) : checkS (pairS a b) = 71 := by
  unfold checkS
  rw [pair_formed ha hb, pair_touch oa ob]
  have hc : confL [] (placesL (pairS a b).ops) = true := by
    have e : placesL (pairS a b).ops = placesO a ++ placesO b := by unfold pairS; simp only [placesL_cons, placesL_nil, List.append_nil]
    rw [e]
    have l1 := (placesO_le a).2
    have l2 := (placesO_le b).2
    refine conf_true (i := (placesO a).length) (k := 0) (by rw [List.length_append]; omega) (by omega) ?_
    have h0 : (placesO a ++ placesO b)[0]? = some a.path := by rw [List.getElem?_append_left (by omega)]; exact head_place a
    have h1 : (placesO a ++ placesO b)[(placesO a).length]? = some b.path := by rw [List.getElem?_append_right (Nat.le_refl _), Nat.sub_self]; exact head_place b
    rw [(List.getElem?_eq_some_iff.1 h0).2, (List.getElem?_eq_some_iff.1 h1).2]
    exact h
  rw [hc]
  rfl
theorem begP_snoc (p q : List ByteArray) : begP p (p ++ q) = true := by
  unfold begP
  simp
theorem meet_pre {p q r : List ByteArray} (h : q = p ++ r) : meetP q p = true ∧ meetP p q = true := by
  subst h
  unfold meetP
  rw [begP_snoc]
  simp
/-- The law, plain. -/
theorem apart_conf {a b : OpT} {r : List ByteArray} (ha : mayO a = true) (hb : mayO b = true) (hr : mayP (a.path ++ r) = true) (h1 : a.path.head? ≠ some idN) (h2 : a.kind = 6 → a.to.head? ≠ some idN) (h3 : b.kind = 6 → b.to.head? ≠ some idN) :
    checkS (pairS a (withP b (a.path ++ r))) = 71 ∧ checkS (pairS (withP b (a.path ++ r)) a) = 71 := by
  have hb' : mayO (withP b (a.path ++ r)) = true := mayO_with hb hr
  have hpos := mayP_posA (mayO_path ha)
  have oa : offId a := ⟨h1, h2⟩
  have ob : offId (withP b (a.path ++ r)) := ⟨by
    show (a.path ++ r).head? ≠ some idN
    cases hp : a.path with
    | nil => rw [hp] at hpos; simp at hpos
    | cons x l => rw [hp] at h1; exact h1, h3⟩
  have hm := meet_pre (p := a.path) (q := a.path ++ r) (r := r) rfl
  exact ⟨pair_conf ha hb' oa ob hm.1, pair_conf hb' ha ob oa hm.2⟩
theorem pair_small {a b : OpT} {n : Nat} (h0 : 1 ≤ n) (ha : depthT a.val ≤ n) (hb : depthT b.val ≤ n) : depthT (pairS a b).doc ≤ n ∧ ∀ o ∈ (pairS a b).ops, depthT o.val ≤ n := by
  refine ⟨?_, fun o ho => ?_⟩
  · unfold pairS; rw [depthT_mk, depthL_nil]; exact h0
  · unfold pairS at ho
    simp only [List.mem_cons, List.not_mem_nil, or_false] at ho
    rcases ho with rfl | rfl
    · exact ha
    · exact hb
end Go.Proofs.Ytipiplnhbecjeaa
