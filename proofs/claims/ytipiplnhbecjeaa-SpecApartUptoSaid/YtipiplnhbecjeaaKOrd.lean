/- The order of values as trees: it is one. -/
import Derived.Test.YtipiplnhbecjeaaKVal
import Derived.Test.YtipiplnhbecjeaaKValS
namespace Go.Proofs.Ytipiplnhbecjeaa
set_option linter.unusedVariables false
set_option linter.unusedSimpArgs false
open Go.RowKit

def ore (x y : Int) : Int := if x = 0 then y else x
def cmpI (a b : Int) : Int := if a < b then -1 else if b < a then 1 else 0
def cmpB (x y : List UInt8) : Int := if Op.bytesLess x y = true then -1 else if x = y then 0 else 1
/-- x, y, z: how a stands to b, b to c, a to c. -/
def Tri (x y z : Int) : Prop := x ≤ 0 → y ≤ 0 → z ≤ 0 ∧ (z < 0 ↔ x < 0 ∨ y < 0)

theorem ore_neg (x y : Int) : ore (-x) (-y) = -(ore x y) := by unfold ore; split <;> split <;> omega
theorem ore_zero (x y : Int) : ore x y = 0 ↔ x = 0 ∧ y = 0 := by unfold ore; split <;> omega
theorem ore_assoc (x y z : Int) : ore (ore x y) z = ore x (ore y z) := by unfold ore; by_cases h : x = 0 <;> simp [h]
theorem ore_tri {x y z x' y' z' : Int} (h : Tri x y z) (h' : x = 0 → y = 0 → Tri x' y' z') : Tri (ore x x') (ore y y') (ore z z') := by
  unfold Tri ore at *
  intro hx hy
  by_cases x0 : x = 0
  · by_cases y0 : y = 0
    · have h1 := h (by omega) (by omega)
      have z0 : z = 0 := by omega
      rw [if_pos x0] at hx ⊢; rw [if_pos y0] at hy ⊢; rw [if_pos z0]
      exact h' x0 y0 hx hy
    · rw [if_neg y0] at hy ⊢
      have h1 := h (by omega) (by omega)
      have z0 : z ≠ 0 := by omega
      rw [if_neg z0, if_pos x0]
      rw [if_pos x0] at hx
      omega
  · rw [if_neg x0] at hx ⊢
    by_cases y0 : y = 0
    · have h1 := h (by omega) (by omega)
      have z0 : z ≠ 0 := by omega
      rw [if_pos y0] at hy ⊢; rw [if_neg z0]
      omega
    · rw [if_neg y0] at hy ⊢
      have h1 := h (by omega) (by omega)
      have z0 : z ≠ 0 := by omega
      rw [if_neg z0]
      omega
theorem tri_zero : Tri 0 0 0 := by unfold Tri; omega

theorem cmpI_neg (a b : Int) : cmpI b a = -(cmpI a b) := by unfold cmpI; split <;> split <;> first | omega | (split <;> omega)
theorem cmpI_zero (a b : Int) : cmpI a b = 0 ↔ a = b := by unfold cmpI; split <;> first | omega | (split <;> omega)
theorem cmpI_tri (a b c : Int) : Tri (cmpI a b) (cmpI b c) (cmpI a c) := by
  unfold Tri cmpI
  by_cases h1 : a < b <;> by_cases h2 : b < c <;> by_cases h3 : a < c <;> by_cases h4 : b < a <;> by_cases h5 : c < b <;> by_cases h6 : c < a <;> simp [h1, h2, h3, h4, h5, h6] <;> omega

theorem less_irrefl : ∀ x : List UInt8, Op.bytesLess x x = false
  | [] => rfl
  | a :: x => by simp [Op.bytesLess, less_irrefl x]
theorem less_total : ∀ x y : List UInt8, Op.bytesLess x y = true ∨ x = y ∨ Op.bytesLess y x = true
  | [], [] => by simp
  | [], b :: y => by simp [Op.bytesLess]
  | a :: x, [] => by simp [Op.bytesLess]
  | a :: x, b :: y => by
    simp only [Op.bytesLess, Bool.or_eq_true, Bool.and_eq_true, decide_eq_true_eq, beq_iff_eq, List.cons.injEq]
    rcases Nat.lt_trichotomy a.toNat b.toNat with h | h | h
    · exact .inl (.inl (UInt8.lt_iff_toNat_lt.2 h))
    · have e : a = b := UInt8.toNat_inj.1 h
      subst e
      rcases less_total x y with h | h | h
      · exact .inl (.inr ⟨rfl, h⟩)
      · exact .inr (.inl ⟨rfl, h⟩)
      · exact .inr (.inr (.inr ⟨rfl, h⟩))
    · exact .inr (.inr (.inl (UInt8.lt_iff_toNat_lt.2 h)))
theorem less_trans : ∀ x y z : List UInt8, Op.bytesLess x y = true → Op.bytesLess y z = true → Op.bytesLess x z = true
  | _, _, [], _, h => by rename_i y _; cases y <;> simp [Op.bytesLess] at h
  | _, [], c :: z, h, _ => by rename_i x _; cases x <;> simp [Op.bytesLess] at h
  | [], b :: y, c :: z, _, _ => by simp [Op.bytesLess]
  | a :: x, b :: y, c :: z, h, h' => by
    simp only [Op.bytesLess, Bool.or_eq_true, Bool.and_eq_true, decide_eq_true_eq, beq_iff_eq] at h h' ⊢
    rcases h with h | ⟨h, h1⟩
    · rcases h' with h' | ⟨h', h1'⟩
      · rw [UInt8.lt_iff_toNat_lt] at *; left; omega
      · subst h'; exact .inl h
    · subst h
      rcases h' with h' | ⟨h', h1'⟩
      · exact .inl h'
      · exact .inr ⟨h', less_trans x y z h1 h1'⟩
theorem less_asymm (x y : List UInt8) (h : Op.bytesLess x y = true) : Op.bytesLess y x = false := by
  rw [← Bool.not_eq_true]
  intro h2
  have := less_trans x y x h h2
  rw [less_irrefl] at this; cases this
theorem cmpB_neg (x y : List UInt8) : cmpB y x = -(cmpB x y) := by
  unfold cmpB
  rcases less_total x y with h | h | h
  · have h2 := less_asymm x y h
    have hne : ¬ y = x := by rintro rfl; rw [less_irrefl] at h; cases h
    rw [if_neg (by rw [h2]; exact Bool.false_ne_true), if_neg hne, if_pos h]; rfl
  · subst h
    rw [if_neg (by rw [less_irrefl]; exact Bool.false_ne_true), if_pos rfl]; rfl
  · have h2 := less_asymm y x h
    have hne : ¬ x = y := by rintro rfl; rw [less_irrefl] at h; cases h
    rw [if_pos h, if_neg (by rw [h2]; exact Bool.false_ne_true), if_neg hne]
theorem cmpB_zero (x y : List UInt8) : cmpB x y = 0 ↔ x = y := by
  unfold cmpB
  constructor
  · intro h
    by_cases h1 : Op.bytesLess x y = true
    · rw [if_pos h1] at h; cases h
    · rw [if_neg h1] at h
      by_cases h2 : x = y
      · exact h2
      · rw [if_neg h2] at h; cases h
  · rintro rfl
    rw [if_neg (by rw [less_irrefl]; exact Bool.false_ne_true), if_pos rfl]
theorem cmpB_le (x y : List UInt8) : cmpB x y ≤ 0 ↔ Op.bytesLess x y = true ∨ x = y := by
  unfold cmpB
  by_cases h1 : Op.bytesLess x y = true
  · rw [if_pos h1]; simp [h1]
  · rw [if_neg h1]
    by_cases h2 : x = y
    · rw [if_pos h2]; simp [h2]
    · rw [if_neg h2]; simp [h1, h2]
theorem cmpB_lt (x y : List UInt8) : cmpB x y < 0 ↔ Op.bytesLess x y = true := by
  unfold cmpB
  by_cases h1 : Op.bytesLess x y = true
  · rw [if_pos h1]; simp [h1]
  · rw [if_neg h1]
    by_cases h2 : x = y
    · rw [if_pos h2]; simp [h1]
    · rw [if_neg h2]; simp [h1]
theorem cmpB_tri (a b c : List UInt8) : Tri (cmpB a b) (cmpB b c) (cmpB a c) := by
  unfold Tri
  rw [cmpB_le, cmpB_le, cmpB_le, cmpB_lt, cmpB_lt, cmpB_lt]
  rintro (h | rfl) (h' | rfl)
  · have := less_trans _ _ _ h h'; simp [this, h]
  · simp [h]
  · simp [h']
  · simp [less_irrefl]

mutual
def cmpT : VT → VT → Int
  | .mk k i s l ns, .mk k' i' s' l' ns' => ore (ore (cmpI k k') (ore (cmpI i i') (cmpB s.toList s'.toList))) (cmpTL (decide (k = 7)) l ns l' ns')
def cmpTL (doc : Bool) : List VT → List ByteArray → List VT → List ByteArray → Int
  | [], _, [], _ => 0
  | [], _, _ :: _, _ => -1
  | _ :: _, _, [], _ => 1
  | x :: l, ns, y :: l', ns' => ore (if doc then cmpB (ns.headD ⟨#[]⟩).toList (ns'.headD ⟨#[]⟩).toList else 0) (ore (cmpT x y) (cmpTL doc l ns.tail l' ns'.tail))
end

theorem ore_neg2 {x y x' y' : Int} (h : x' = -x) (h2 : x = 0 → y' = -y) : ore x' y' = -(ore x y) := by
  unfold ore
  by_cases h0 : x = 0
  · rw [if_pos h0, if_pos (by omega), h2 h0]
  · rw [if_neg h0, if_neg (by omega), h]
theorem cmpT_mk (k i : Int) (s : ByteArray) (l : List VT) (ns : List ByteArray) (k' i' : Int) (s' : ByteArray) (l' : List VT) (ns' : List ByteArray) :
    cmpT (.mk k i s l ns) (.mk k' i' s' l' ns') = ore (ore (cmpI k k') (ore (cmpI i i') (cmpB s.toList s'.toList))) (cmpTL (decide (k = 7)) l ns l' ns') := by
  conv => lhs; unfold cmpT
mutual
theorem cmpT_neg : ∀ t u : VT, cmpT u t = -(cmpT t u)
  | .mk k i s l ns, .mk k' i' s' l' ns' => by
    rw [cmpT_mk, cmpT_mk]
    refine ore_neg2 (ore_neg2 (cmpI_neg _ _) fun _ => ore_neg2 (cmpI_neg _ _) fun _ => cmpB_neg _ _) fun h => ?_
    have hk : k = k' := (cmpI_zero _ _).1 ((ore_zero _ _).1 h).1
    rw [hk]
    exact cmpTL_neg _ l l' ns ns'
theorem cmpTL_neg (d : Bool) : ∀ (l l' : List VT) (ns ns' : List ByteArray), cmpTL d l' ns' l ns = -(cmpTL d l ns l' ns')
  | [], [], _, _ => by unfold cmpTL; rfl
  | [], _ :: _, _, _ => by unfold cmpTL; rfl
  | _ :: _, [], _, _ => by unfold cmpTL; rfl
  | x :: l, y :: l', ns, ns' => by
    unfold cmpTL
    refine ore_neg2 ?_ fun _ => ore_neg2 (cmpT_neg x y) fun _ => cmpTL_neg d l l' _ _
    cases d
    · rfl
    · exact cmpB_neg _ _
end
mutual
theorem cmpT_tri : ∀ a b c : VT, Tri (cmpT a b) (cmpT b c) (cmpT a c)
  | .mk k i s l ns, .mk k' i' s' l' ns', .mk k2 i2 s2 l2 ns2 => by
    rw [cmpT_mk, cmpT_mk, cmpT_mk]
    refine ore_tri (ore_tri (cmpI_tri _ _ _) fun _ _ => ore_tri (cmpI_tri _ _ _) fun _ _ => cmpB_tri _ _ _) fun h _ => ?_
    have hk : k = k' := (cmpI_zero _ _).1 ((ore_zero _ _).1 h).1
    rw [hk]
    exact cmpTL_tri _ l l' l2 ns ns' ns2
theorem cmpTL_tri (d : Bool) : ∀ (l l' l2 : List VT) (ns ns' ns2 : List ByteArray), Tri (cmpTL d l ns l' ns') (cmpTL d l' ns' l2 ns2) (cmpTL d l ns l2 ns2)
  | [], [], [], _, _, _ => by unfold cmpTL Tri; omega
  | [], [], _ :: _, _, _, _ => by unfold cmpTL Tri; omega
  | [], _ :: _, [], _, _, _ => by unfold cmpTL Tri; omega
  | [], _ :: _, _ :: _, _, _, _ => by
    have e1 : ∀ (x : VT) (l : List VT) (ns ns' : List ByteArray), cmpTL d [] ns (x :: l) ns' = -1 := fun _ _ _ _ => by unfold cmpTL; rfl
    rw [e1, e1]; unfold Tri; omega
  | _ :: _, [], [], _, _, _ => by unfold cmpTL Tri; omega
  | x :: l, [], y :: l', ns, n0, ns' => by
    have e1 : cmpTL d (x :: l) ns [] n0 = 1 := by unfold cmpTL; rfl
    rw [e1]; unfold Tri; omega
  | _ :: _, y :: r, [], _, ns', ns2 => by
    have e1 : cmpTL d (y :: r) ns' [] ns2 = 1 := by unfold cmpTL; rfl
    rw [e1]; unfold Tri; omega
  | x :: l, y :: l', z :: l2, ns, ns', ns2 => by
    unfold cmpTL
    refine ore_tri ?_ fun _ _ => ore_tri (cmpT_tri x y z) fun _ _ => cmpTL_tri d l l' l2 _ _ _
    cases d
    · exact tri_zero
    · exact cmpB_tri _ _ _
end
theorem toList_inj {a b : ByteArray} (h : a.toList = b.toList) : a = b := by rw [ByteArray.toList_eq, ByteArray.toList_eq] at h; exact data_inj h
theorem mayT_mk (k i : Int) (s : ByteArray) (l : List VT) (ns : List ByteArray) : mayT (.mk k i s l ns) = (fitsP k i s l.length ns && mayL l) := by conv => lhs; unfold mayT fitsT
theorem mayL_cons (x : VT) (l : List VT) : mayL (x :: l) = (mayT x && mayL l) := by conv => lhs; unfold mayL
theorem mayL_mem {x : VT} : ∀ {l : List VT}, mayL l = true → x ∈ l → mayT x = true
  | [], _, h => by cases h
  | t :: r, h, hx => by
    rw [mayL_cons, Bool.and_eq_true] at h
    rcases List.mem_cons.1 hx with rfl | hx
    · exact h.1
    · exact mayL_mem h.2 hx
/-- Of those that may be the names are as many as the items, in a document, and none elsewhere. -/
theorem may_names {k i : Int} {s : ByteArray} {l : List VT} {ns : List ByteArray} (h : mayT (.mk k i s l ns) = true) : (k = 7 → ns.length = l.length) ∧ (k ≠ 7 → ns = []) ∧ mayL l = true := by
  rw [mayT_mk, Bool.and_eq_true] at h
  have h1 := h.1
  refine ⟨fun hk => ?_, fun hk => ?_, h.2⟩
  · subst hk
    simp [fitsP] at h1
    exact h1.1.2
  · unfold fitsP at h1
    by_cases k1 : k = 1
    · simp [k1] at h1; exact h1.2.2
    by_cases k2 : k = 2
    · simp [k2] at h1; exact h1.2.2
    by_cases k3 : k = 3
    · simp [k3] at h1; exact h1.2.2
    by_cases k4 : k = 4 ∨ k = 5
    · rw [if_neg k1, if_neg k2, if_neg k3, if_pos k4] at h1; simp at h1; exact h1.2.2
    by_cases k6 : k = 6
    · simp [k6] at h1; exact h1.2
    simp [k1, k2, k3, k4, k6, hk] at h1
mutual
theorem cmpT_zero : ∀ a b : VT, mayT a = true → mayT b = true → (cmpT a b = 0 ↔ a = b)
  | .mk k i s l ns, .mk k' i' s' l' ns', ha, hb => by
    obtain ⟨a1, a2, a3⟩ := may_names ha
    obtain ⟨b1, b2, b3⟩ := may_names hb
    rw [cmpT_mk, ore_zero, ore_zero, ore_zero, cmpI_zero, cmpI_zero, cmpB_zero]
    constructor
    · rintro ⟨⟨rfl, rfl, hs⟩, h⟩
      rw [toList_inj hs]
      by_cases h7 : k = 7
      · rw [decide_eq_true h7] at h
        obtain ⟨rfl, hn⟩ := (cmpTL_zero true l l' ns ns' a3 b3 (fun _ => a1 h7) (fun _ => b1 h7)).1 h
        rw [hn rfl]
      · rw [decide_eq_false h7] at h
        obtain ⟨rfl, _⟩ := (cmpTL_zero false l l' ns ns' a3 b3 (fun h => by cases h) (fun h => by cases h)).1 h
        rw [a2 h7, b2 h7]
    · intro h
      injection h with h1 h2 h3 h4 h5
      subst h1 h2 h3 h4 h5
      exact ⟨⟨rfl, rfl, rfl⟩, (cmpTL_zero _ l l ns ns a3 a3 (fun h => a1 (of_decide_eq_true h)) (fun h => a1 (of_decide_eq_true h))).2 ⟨rfl, fun _ => rfl⟩⟩
theorem cmpTL_zero (d : Bool) : ∀ (l l' : List VT) (ns ns' : List ByteArray), mayL l = true → mayL l' = true → (d = true → ns.length = l.length) → (d = true → ns'.length = l'.length) → (cmpTL d l ns l' ns' = 0 ↔ l = l' ∧ (d = true → ns = ns'))
  | [], [], ns, ns', _, _, hn, hn' => by
    unfold cmpTL
    simp only [true_and, true_iff]
    intro hd
    rw [List.eq_nil_of_length_eq_zero (hn hd), List.eq_nil_of_length_eq_zero (hn' hd)]
  | [], y :: l', ns, ns', _, _, _, _ => by unfold cmpTL; simp
  | x :: l, [], ns, ns', _, _, _, _ => by unfold cmpTL; simp
  | x :: l, y :: l', ns, ns', ha, hb, hn, hn' => by
    rw [mayL_cons, Bool.and_eq_true] at ha hb
    conv => lhs; unfold cmpTL
    rw [ore_zero, ore_zero, cmpT_zero x y ha.1 hb.1, cmpTL_zero d l l' _ _ ha.2 hb.2 (fun h => by have := hn h; simp at this ⊢; omega) (fun h => by have := hn' h; simp at this ⊢; omega)]
    constructor
    · rintro ⟨h1, rfl, rfl, h2⟩
      refine ⟨rfl, fun hd => ?_⟩
      rw [if_pos hd, cmpB_zero] at h1
      have hl := hn hd
      have hl' := hn' hd
      rcases ns with _ | ⟨n, ns⟩
      · cases hl
      rcases ns' with _ | ⟨n', ns'⟩
      · cases hl'
      have := h2 hd
      simp only [List.tail_cons] at this
      simp only [List.headD_cons] at h1
      rw [toList_inj h1, this]
    · rintro ⟨h, h2⟩
      injection h with h3 h4
      subst h3 h4
      refine ⟨?_, rfl, rfl, fun hd => by rw [h2 hd]⟩
      cases d
      · rfl
      · rw [h2 rfl]; exact (cmpB_zero _ _).2 rfl
end
end Go.Proofs.Ytipiplnhbecjeaa

/- The order of numbers, of texts, and the first that is not nought. -/
namespace Go.Proofs.Ytipiplnhbecjeaa
set_option linter.unusedVariables false
set_option linter.unusedSimpArgs false
open Go.RowKit


end Go.Proofs.Ytipiplnhbecjeaa

/- The order of two values that may be, as the program has it. -/
namespace Go.Proofs.Ytipiplnhbecjeaa
set_option linter.unusedVariables false
set_option linter.unusedSimpArgs false
open Go.RowKit

theorem below_predrew {w w' : World} (h : Below w.heap.size w w') : Below w.drew.heap.size w.drew w' := ⟨h.os, h.tape, h.output, h.size, h.block⟩
theorem cmpT_parts (a b : VT) : cmpT a b = ore (ore (cmpI a.kind b.kind) (ore (cmpI a.num b.num) (cmpB a.text.toList b.text.toList))) (cmpTL (decide (a.kind = 7)) a.items a.names b.items b.names) := by
  cases a; cases b; exact cmpT_mk _ _ _ _ _ _ _ _ _ _

theorem Box.drew {w : World} {g : Nat} {a b c d e : Value} (h : Box w g a b c d e) : Box w.drew g a b c d e := h
theorem hid_box_drew {w : World} {g : Nat} {a b c d e : Value} (h : Hid (Box w g a b c d e)) : Hid (Box w.drew g a b c d e) := Lib.hid h.out.drew
theorem hid_cell_drew {w : World} {a : Addr} {v : Value} (h : Hid (w.cell? a = some v)) : Hid (w.drew.cell? a = some v) := Lib.hid h.out
theorem hid_lt_drew {w : World} {b : Nat} (h : Hid (b < w.heap.size)) : Hid (b < w.drew.heap.size) := Lib.hid h.out
theorem hid_sub_drew {w : World} {S : Nat → Prop} (h : Hid (∀ b, S b → b < w.heap.size)) : Hid (∀ b, S b → b < w.drew.heap.size) := Lib.hid h.out
theorem may_items {t : VT} (h : mayT t = true) : mayL t.items = true := by cases t; exact (may_names h).2.2
theorem cmpTL_step {l l' : List VT} {j : Nat} (d : Bool) (ns ns' : List ByteArray) (h : j < l.length) (h' : j < l'.length) :
    cmpTL d (l.drop j) (ns.drop j) (l'.drop j) (ns'.drop j) = ore (if d = true then cmpB ((ns.drop j).headD ⟨#[]⟩).toList ((ns'.drop j).headD ⟨#[]⟩).toList else 0) (ore (cmpT l[j] l'[j]) (cmpTL d (l.drop (j + 1)) (ns.drop (j + 1)) (l'.drop (j + 1)) (ns'.drop (j + 1)))) := by
  rw [List.drop_eq_getElem_cons h, List.drop_eq_getElem_cons h']
  conv => lhs; unfold cmpTL
  rw [List.tail_drop, List.tail_drop]
theorem cmpTL_end (d : Bool) (l l' : List VT) (ns ns' : List ByteArray) : cmpTL d (l.drop (min l.length l'.length)) (ns.drop (min l.length l'.length)) (l'.drop (min l.length l'.length)) (ns'.drop (min l.length l'.length)) = cmpI l.length l'.length := by
  rcases Nat.lt_trichotomy l.length l'.length with h | h | h
  · rw [Nat.min_eq_left (by omega), List.drop_eq_nil_of_le (Nat.le_refl _), List.drop_eq_getElem_cons h]
    unfold cmpTL cmpI
    rw [if_pos (by omega)]
  · rw [Nat.min_eq_left (by omega), List.drop_eq_nil_of_le (Nat.le_refl _), List.drop_eq_nil_of_le (by omega : l'.length ≤ l.length)]
    unfold cmpTL cmpI
    rw [if_neg (by omega), if_neg (by omega)]
  · rw [Nat.min_eq_right (by omega), List.drop_eq_nil_of_le (Nat.le_refl l'.length), List.drop_eq_getElem_cons h]
    unfold cmpTL cmpI
    rw [if_neg (by omega), if_pos (by omega)]

end Go.Proofs.Ytipiplnhbecjeaa

/- The order of any two values, as the program has it. -/
namespace Go.Proofs.Ytipiplnhbecjeaa
set_option linter.unusedVariables false
set_option linter.unusedSimpArgs false
open Go.RowKit

def cmpV (a b : VT) : Int := if mayT a = true ∧ mayT b = true then cmpT a b else if mayT b = true then -1 else if mayT a = true then 1 else 0
def dmax : Nat := 4611686018427387903


end Go.Proofs.Ytipiplnhbecjeaa
