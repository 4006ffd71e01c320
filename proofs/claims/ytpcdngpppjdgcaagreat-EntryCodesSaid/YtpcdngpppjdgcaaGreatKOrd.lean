/- The order of values as trees: it is one. -/
import Derived.Test.YtpcdngpppjdgcaaGreatKValB
import Derived.Test.YtpcdngpppjdgcaaGreatKValM
namespace Go.Proofs.YtpcdngpppjdgcaaGreat
set_option linter.unusedVariables false
set_option linter.unusedSimpArgs false
open Go.RowKit

def ore (x y : Int) : Int := if x = 0 then y else x
def cmpI (a b : Int) : Int := if a < b then -1 else if b < a then 1 else 0
def cmpB (x y : List UInt8) : Int := if Op.bytesLess x y = true then -1 else if x = y then 0 else 1
def Tri (x y z : Int) : Prop := x ≤ 0 → y ≤ 0 → z ≤ 0 ∧ (z < 0 ↔ x < 0 ∨ y < 0)

theorem ore_zero (x y : Int) : ore x y = 0 ↔ x = 0 ∧ y = 0 := by unfold ore; split <;> omega
theorem ore_tri {x y z x' y' z' : Int} (h : Tri x y z) (h' : x = 0 → y = 0 → Tri x' y' z') : Tri (ore x x') (ore y y') (ore z z') := by
  unfold Tri ore at *
  intro hx hy
  by_cases x0 : x = 0
  · by_cases y0 : y = 0
    · have h1 := h (by omega) (by omega)
      have z0 : z = 0 := by omega
      rw [if_pos x0] at hx ⊢; rw [if_pos y0] at hy ⊢; rw [if_pos z0]
      exact h' x0 y0 hx hy
    · rw [if_neg y0] at hy ⊢
      have h1 := h (by omega) (by omega)
      have z0 : z ≠ 0 := by omega
      rw [if_neg z0, if_pos x0]
      rw [if_pos x0] at hx
      omega
  · rw [if_neg x0] at hx ⊢
    by_cases y0 : y = 0
    · have h1 := h (by omega) (by omega)
      have z0 : z ≠ 0 := by omega
      rw [if_pos y0] at hy ⊢; rw [if_neg z0]
      omega
    · rw [if_neg y0] at hy ⊢
      have h1 := h (by omega) (by omega)
      have z0 : z ≠ 0 := by omega
      rw [if_neg z0]
      omega
theorem tri_zero : Tri 0 0 0 := by unfold Tri; omega

theorem cmpI_zero (a b : Int) : cmpI a b = 0 ↔ a = b := by unfold cmpI; split <;> first | omega | (split <;> omega)

theorem less_irrefl : ∀ x : List UInt8, Op.bytesLess x x = false
  | [] => rfl
  | a :: x => by simp [Op.bytesLess, less_irrefl x]
theorem less_total : ∀ x y : List UInt8, Op.bytesLess x y = true ∨ x = y ∨ Op.bytesLess y x = true
  | [], [] => by simp
  | [], b :: y => by simp [Op.bytesLess]
  | a :: x, [] => by simp [Op.bytesLess]
  | a :: x, b :: y => by
    simp only [Op.bytesLess, Bool.or_eq_true, Bool.and_eq_true, decide_eq_true_eq, beq_iff_eq, List.cons.injEq]
    rcases Nat.lt_trichotomy a.toNat b.toNat with h | h | h
    · exact .inl (.inl (UInt8.lt_iff_toNat_lt.2 h))
    · have e : a = b := UInt8.toNat_inj.1 h
      subst e
      rcases less_total x y with h | h | h
      · exact .inl (.inr ⟨rfl, h⟩)
      · exact .inr (.inl ⟨rfl, h⟩)
      · exact .inr (.inr (.inr ⟨rfl, h⟩))
    · exact .inr (.inr (.inl (UInt8.lt_iff_toNat_lt.2 h)))
theorem less_trans : ∀ x y z : List UInt8, Op.bytesLess x y = true → Op.bytesLess y z = true → Op.bytesLess x z = true
  | _, _, [], _, h => by rename_i y _; cases y <;> simp [Op.bytesLess] at h
  | _, [], c :: z, h, _ => by rename_i x _; cases x <;> simp [Op.bytesLess] at h
  | [], b :: y, c :: z, _, _ => by simp [Op.bytesLess]
  | a :: x, b :: y, c :: z, h, h' => by
    simp only [Op.bytesLess, Bool.or_eq_true, Bool.and_eq_true, decide_eq_true_eq, beq_iff_eq] at h h' ⊢
    rcases h with h | ⟨h, h1⟩
    · rcases h' with h' | ⟨h', h1'⟩
      · rw [UInt8.lt_iff_toNat_lt] at *; left; omega
      · subst h'; exact .inl h
    · subst h
      rcases h' with h' | ⟨h', h1'⟩
      · exact .inl h'
      · exact .inr ⟨h', less_trans x y z h1 h1'⟩
theorem less_asymm (x y : List UInt8) (h : Op.bytesLess x y = true) : Op.bytesLess y x = false := by
  rw [← Bool.not_eq_true]
  intro h2
  have := less_trans x y x h h2
  rw [less_irrefl] at this; cases this
theorem cmpB_neg (x y : List UInt8) : cmpB y x = -(cmpB x y) := by
  unfold cmpB
  rcases less_total x y with h | h | h
  · have h2 := less_asymm x y h
    have hne : ¬ y = x := by rintro rfl; rw [less_irrefl] at h; cases h
    rw [if_neg (by rw [h2]; exact Bool.false_ne_true), if_neg hne, if_pos h]; rfl
  · subst h
    rw [if_neg (by rw [less_irrefl]; exact Bool.false_ne_true), if_pos rfl]; rfl
  · have h2 := less_asymm y x h
    have hne : ¬ x = y := by rintro rfl; rw [less_irrefl] at h; cases h
    rw [if_pos h, if_neg (by rw [h2]; exact Bool.false_ne_true), if_neg hne]
theorem cmpB_zero (x y : List UInt8) : cmpB x y = 0 ↔ x = y := by
  unfold cmpB
  constructor
  · intro h
    by_cases h1 : Op.bytesLess x y = true
    · rw [if_pos h1] at h; cases h
    · rw [if_neg h1] at h
      by_cases h2 : x = y
      · exact h2
      · rw [if_neg h2] at h; cases h
  · rintro rfl
    rw [if_neg (by rw [less_irrefl]; exact Bool.false_ne_true), if_pos rfl]
theorem cmpB_le (x y : List UInt8) : cmpB x y ≤ 0 ↔ Op.bytesLess x y = true ∨ x = y := by
  unfold cmpB
  by_cases h1 : Op.bytesLess x y = true
  · rw [if_pos h1]; simp [h1]
  · rw [if_neg h1]
    by_cases h2 : x = y
    · rw [if_pos h2]; simp [h2]
    · rw [if_neg h2]; simp [h1, h2]
theorem cmpB_lt (x y : List UInt8) : cmpB x y < 0 ↔ Op.bytesLess x y = true := by
  unfold cmpB
  by_cases h1 : Op.bytesLess x y = true
  · rw [if_pos h1]; simp [h1]
  · rw [if_neg h1]
    by_cases h2 : x = y
    · rw [if_pos h2]; simp [h1]
    · rw [if_neg h2]; simp [h1]
theorem cmpB_tri (a b c : List UInt8) : Tri (cmpB a b) (cmpB b c) (cmpB a c) := by
  unfold Tri
  rw [cmpB_le, cmpB_le, cmpB_le, cmpB_lt, cmpB_lt, cmpB_lt]
  rintro (h | rfl) (h' | rfl)
  · have := less_trans _ _ _ h h'; simp [this, h]
  · simp [h]
  · simp [h']
  · simp [less_irrefl]

mutual
def cmpT : VT → VT → Int
  | .mk k i s l ns, .mk k' i' s' l' ns' => ore (ore (cmpI k k') (ore (cmpI i i') (cmpB s.toList s'.toList))) (cmpTL (decide (k = 7)) l ns l' ns')
def cmpTL (doc : Bool) : List VT → List ByteArray → List VT → List ByteArray → Int
  | [], _, [], _ => 0
  | [], _, _ :: _, _ => -1
  | _ :: _, _, [], _ => 1
  | x :: l, ns, y :: l', ns' => ore (if doc then cmpB (ns.headD ⟨#[]⟩).toList (ns'.headD ⟨#[]⟩).toList else 0) (ore (cmpT x y) (cmpTL doc l ns.tail l' ns'.tail))
end

theorem ore_neg2 {x y x' y' : Int} (h : x' = -x) (h2 : x = 0 → y' = -y) : ore x' y' = -(ore x y) := by
  unfold ore
  by_cases h0 : x = 0
  · rw [if_pos h0, if_pos (by omega), h2 h0]
  · rw [if_neg h0, if_neg (by omega), h]
theorem cmpT_mk (k i : Int) (s : ByteArray) (l : List VT) (ns : List ByteArray) (k' i' : Int) (s' : ByteArray) (l' : List VT) (ns' : List ByteArray) :
    cmpT (.mk k i s l ns) (.mk k' i' s' l' ns') = ore (ore (cmpI k k') (ore (cmpI i i') (cmpB s.toList s'.toList))) (cmpTL (decide (k = 7)) l ns l' ns') := by
  conv => lhs; unfold cmpT
theorem toList_inj {a b : ByteArray} (h : a.toList = b.toList) : a = b := by rw [ByteArray.toList_eq, ByteArray.toList_eq] at h; exact data_inj h
theorem mayT_mk (k i : Int) (s : ByteArray) (l : List VT) (ns : List ByteArray) : mayT (.mk k i s l ns) = (fitsP k i s l.length ns && mayL l) := by conv => lhs; unfold mayT fitsT
theorem mayL_cons (x : VT) (l : List VT) : mayL (x :: l) = (mayT x && mayL l) := by conv => lhs; unfold mayL
theorem mayL_mem {x : VT} : ∀ {l : List VT}, mayL l = true → x ∈ l → mayT x = true
  | [], _, h => by cases h
  | t :: r, h, hx => by
    rw [mayL_cons, Bool.and_eq_true] at h
    rcases List.mem_cons.1 hx with rfl | hx
    · exact h.1
    · exact mayL_mem h.2 hx
theorem may_names {k i : Int} {s : ByteArray} {l : List VT} {ns : List ByteArray} (h : mayT (.mk k i s l ns) = true) : (k = 7 → ns.length = l.length) ∧ (k ≠ 7 → ns = []) ∧ mayL l = true := by
  rw [mayT_mk, Bool.and_eq_true] at h
  have h1 := h.1
  refine ⟨fun hk => ?_, fun hk => ?_, h.2⟩
  · subst hk
    simp [fitsP] at h1
    exact h1.1.2
  · unfold fitsP at h1
    by_cases k1 : k = 1
    · simp [k1] at h1; exact h1.2.2
    by_cases k2 : k = 2
    · simp [k2] at h1; exact h1.2.2
    by_cases k3 : k = 3
    · simp [k3] at h1; exact h1.2.2
    by_cases k4 : k = 4 ∨ k = 5
    · rw [if_neg k1, if_neg k2, if_neg k3, if_pos k4] at h1; simp at h1; exact h1.2.2
    by_cases k6 : k = 6
    · simp [k6] at h1; exact h1.2
    simp [k1, k2, k3, k4, k6, hk] at h1
mutual
theorem cmpT_zero : ∀ a b : VT, mayT a = true → mayT b = true → (cmpT a b = 0 ↔ a = b)
  | .mk k i s l ns, .mk k' i' s' l' ns', ha, hb => by
    obtain ⟨a1, a2, a3⟩ := may_names ha
    obtain ⟨b1, b2, b3⟩ := may_names hb
    rw [cmpT_mk, ore_zero, ore_zero, ore_zero, cmpI_zero, cmpI_zero, cmpB_zero]
    constructor
    · rintro ⟨⟨rfl, rfl, hs⟩, h⟩
      rw [toList_inj hs]
      by_cases h7 : k = 7
      · rw [decide_eq_true h7] at h
        obtain ⟨rfl, hn⟩ := (cmpTL_zero true l l' ns ns' a3 b3 (fun _ => a1 h7) (fun _ => b1 h7)).1 h
        rw [hn rfl]
      · rw [decide_eq_false h7] at h
        obtain ⟨rfl, _⟩ := (cmpTL_zero false l l' ns ns' a3 b3 (fun h => by cases h) (fun h => by cases h)).1 h
        rw [a2 h7, b2 h7]
    · intro h
      injection h with h1 h2 h3 h4 h5
      subst h1 h2 h3 h4 h5
      exact ⟨⟨rfl, rfl, rfl⟩, (cmpTL_zero _ l l ns ns a3 a3 (fun h => a1 (of_decide_eq_true h)) (fun h => a1 (of_decide_eq_true h))).2 ⟨rfl, fun _ => rfl⟩⟩
theorem cmpTL_zero (d : Bool) : ∀ (l l' : List VT) (ns ns' : List ByteArray), mayL l = true → mayL l' = true → (d = true → ns.length = l.length) → (d = true → ns'.length = l'.length) → (cmpTL d l ns l' ns' = 0 ↔ l = l' ∧ (d = true → ns = ns'))
  | [], [], ns, ns', _, _, hn, hn' => by
    unfold cmpTL
    simp only [true_and, true_iff]
    intro hd
    rw [List.eq_nil_of_length_eq_zero (hn hd), List.eq_nil_of_length_eq_zero (hn' hd)]
  | [], y :: l', ns, ns', _, _, _, _ => by unfold cmpTL; simp
  | x :: l, [], ns, ns', _, _, _, _ => by unfold cmpTL; simp
  | x :: l, y :: l', ns, ns', ha, hb, hn, hn' => by
    rw [mayL_cons, Bool.and_eq_true] at ha hb
    conv => lhs; unfold cmpTL
    rw [ore_zero, ore_zero, cmpT_zero x y ha.1 hb.1, cmpTL_zero d l l' _ _ ha.2 hb.2 (fun h => by have := hn h; simp at this ⊢; omega) (fun h => by have := hn' h; simp at this ⊢; omega)]
    constructor
    · rintro ⟨h1, rfl, rfl, h2⟩
      refine ⟨rfl, fun hd => ?_⟩
      rw [if_pos hd, cmpB_zero] at h1
      have hl := hn hd
      have hl' := hn' hd
      rcases ns with _ | ⟨n, ns⟩
      · cases hl
      rcases ns' with _ | ⟨n', ns'⟩
      · cases hl'
      have := h2 hd
      simp only [List.tail_cons] at this
      simp only [List.headD_cons] at h1
      rw [toList_inj h1, this]
    · rintro ⟨h, h2⟩
      injection h with h3 h4
      subst h3 h4
      refine ⟨?_, rfl, rfl, fun hd => by rw [h2 hd]⟩
      cases d
      · rfl
      · rw [h2 rfl]; exact (cmpB_zero _ _).2 rfl
end
open Lib (hid)

set_option maxHeartbeats 400000 in
theorem nanI_any (x : Int) (w : World) : Calls Tryz.prog 206 #[.int .i64 x] w fun e w' => e = .returned (.bool false) ∧ w = w' := by
  go_enter Tryz.func206, Tryz.ntmps206
  go_wp2
  go_ret
  exact ⟨rfl, rfl⟩
set_option maxHeartbeats 400000 in
theorem nanS_any (x : ByteArray) (w : World) : Calls Tryz.prog 204 #[.string x] w fun e w' => e = .returned (.bool false) ∧ w = w' := by
  go_enter Tryz.func204, Tryz.ntmps204
  go_wp2
  go_ret
  exact ⟨rfl, rfl⟩
set_option maxHeartbeats 400000 in
theorem cmpI_any (a b : Int) (w : World) : Calls Tryz.prog 193 #[.int .i64 a, .int .i64 b] w fun e w' => e = .returned (.int .i64 (cmpI a b)) ∧ w = w' := by
  have e1 : a < b → cmpI a b = -1 := fun h => by unfold cmpI; rw [if_pos h]
  have e2 : ¬ a < b → b < a → cmpI a b = 1 := fun h h2 => by unfold cmpI; rw [if_neg h, if_pos h2]
  have e3 : ¬ a < b → ¬ b < a → cmpI a b = 0 := fun h h2 => by unfold cmpI; rw [if_neg h, if_neg h2]
  generalize cmpI a b = R at *
  have E1 := hid e1
  have E2 := hid e2
  have E3 := hid e3
  clear e1 e2 e3
  by_cases h1 : a < b
  · go_enter Tryz.func193, Tryz.ntmps193
    go_wp2_with (go_at_call 206; refine (nanI_any _ _).mono ?_; rintro e w' ⟨rfl, rfl⟩)
    go_ret
    exact ⟨ret_i64 (E1.out h1).symm, rfl⟩
  · by_cases h2 : b < a
    · go_enter Tryz.func193, Tryz.ntmps193
      go_wp2_with (go_at_call 206; refine (nanI_any _ _).mono ?_; rintro e w' ⟨rfl, rfl⟩)
      go_ret
      exact ⟨ret_i64 (E2.out h1 h2).symm, rfl⟩
    · go_enter Tryz.func193, Tryz.ntmps193
      go_wp2_with (go_at_call 206; refine (nanI_any _ _).mono ?_; rintro e w' ⟨rfl, rfl⟩)
      go_ret
      exact ⟨ret_i64 (E3.out h1 h2).symm, rfl⟩
set_option maxHeartbeats 400000 in
theorem cmpS_any (a b : ByteArray) (w : World) : Calls Tryz.prog 186 #[.string a, .string b] w fun e w' => e = .returned (.int .i64 (cmpB a.toList b.toList)) ∧ w = w' := by
  have e1 : Op.bytesLess a.toList b.toList = true → cmpB a.toList b.toList = -1 := fun h => by unfold cmpB; rw [if_pos h]
  have e2 : Op.bytesLess a.toList b.toList = false → (!a.toList == b.toList) = true → cmpB a.toList b.toList = 1 := fun h h2 => by unfold cmpB; rw [if_neg (by rw [h]; exact Bool.false_ne_true), if_neg (by simpa using h2)]
  have e3 : Op.bytesLess a.toList b.toList = false → (!a.toList == b.toList) = false → cmpB a.toList b.toList = 0 := fun h h2 => by unfold cmpB; rw [if_neg (by rw [h]; exact Bool.false_ne_true), if_pos (by simpa using h2)]
  generalize cmpB a.toList b.toList = R at *
  have E1 := hid e1
  have E2 := hid e2
  have E3 := hid e3
  clear e1 e2 e3
  go_enter Tryz.func186, Tryz.ntmps186
  go_wp2_with (go_at_call 204; refine (nanS_any _ _).mono ?_; rintro e w' ⟨rfl, rfl⟩)
  · go_ret
    exact ⟨ret_i64 (E1.out (by assumption)).symm, rfl⟩
  · go_ret
    exact ⟨ret_i64 (E2.out (by assumption) (by assumption)).symm, rfl⟩
  · go_ret
    exact ⟨ret_i64 (E3.out (by assumption) (by assumption)).symm, rfl⟩

set_option maxHeartbeats 400000 in
theorem or3_any (b : Nat) (c : Nat) (x y z : Int) (w : World) (h0 : w.cell? ⟨b, 0, none⟩ = some (.int .i64 x)) (h1 : w.cell? ⟨b, 1, none⟩ = some (.int .i64 y)) (h2 : w.cell? ⟨b, 2, none⟩ = some (.int .i64 z)) :
    Calls Tryz.prog 192 #[.slice (some ⟨b, 0, none⟩) 3 c] w fun e w' => e = .returned (.int .i64 (ore x (ore y z))) ∧ w = w' := by
  have H0 := hid h0
  have H1 := hid h1
  have H2 := hid h2
  have HE : Hid (∀ R, R = ore x (ore y z) → (x ≠ 0 → R = x) ∧ (x = 0 → y ≠ 0 → R = y) ∧ (x = 0 → y = 0 → R = z)) := by
    rintro R rfl
    unfold ore
    refine ⟨fun h => by rw [if_neg h], fun h h' => by rw [if_pos h, if_neg h'], fun h h' => by rw [if_pos h, if_pos h']⟩
  obtain ⟨R, hR⟩ : ∃ R, R = ore x (ore y z) := ⟨_, rfl⟩
  rw [← hR]
  have HF := hid (HE.out R hR)
  clear HE hR h0 h1 h2
  go_enter Tryz.func192, Tryz.ntmps192
  go_wp2_with fail
  go_loopw [8] (fun i wr => ∃ k : Nat, i = .int .i64 k ∧ k ≤ 3 ∧ wr = w ∧ (0 < k → x = 0) ∧ (1 < k → y = 0) ∧ (2 < k → z = 0)) (fun i _ => 3 - (intOf i).toNat)
  case atStart => exact ⟨0, rfl, by omega, rfl, fun h => absurd h (by omega), fun h => absurd h (by omega), fun h => absurd h (by omega)⟩
  case round =>
    obtain ⟨k, rfl, hk, rfl, k1, k2, k3⟩ := hrel
    obtain rfl | rfl | rfl | rfl : k = 0 ∨ k = 1 ∨ k = 2 ∨ k = 3 := by omega
    · have g0 := H0.out
      by_cases hx : x = 0
      · go_wp2_with fail
        go_roundw
        case rel => exact ⟨1, rfl, by omega, trivial, fun _ => hx, fun h => absurd h (by omega), fun h => absurd h (by omega)⟩
        case measure => simp [intOf]
      · go_wp2_with fail
        go_ret
        exact ⟨ret_i64 (HF.out.1 hx).symm, rfl⟩
    · have g0 := H1.out
      have hx := k1 (by omega)
      by_cases hy : y = 0
      · go_wp2_with fail
        go_roundw
        case rel => exact ⟨2, rfl, by omega, trivial, fun _ => hx, fun _ => hy, fun h => absurd h (by omega)⟩
        case measure => simp [intOf]
      · go_wp2_with fail
        go_ret
        exact ⟨ret_i64 (HF.out.2.1 hx hy).symm, rfl⟩
    · have g0 := H2.out
      have hx := k1 (by omega)
      have hy := k2 (by omega)
      by_cases hz : z = 0
      · go_wp2_with fail
        go_roundw
        case rel => exact ⟨3, rfl, by omega, trivial, fun _ => hx, fun _ => hy, fun _ => hz⟩
        case measure => simp [intOf]
      · go_wp2_with fail
        go_ret
        exact ⟨ret_i64 (HF.out.2.2 hx hy).symm, rfl⟩
    · have hx := k1 (by omega)
      have hy := k2 (by omega)
      have hz := k3 (by omega)
      go_wp2_with fail
      go_ret
      exact ⟨ret_i64 (by rw [HF.out.2.2 hx hy, hz]), rfl⟩
theorem below_predrew {w w' : World} (h : Below w.heap.size w w') : Below w.drew.heap.size w.drew w' := ⟨h.os, h.tape, h.output, h.size, h.block⟩
theorem cmpT_parts (a b : VT) : cmpT a b = ore (ore (cmpI a.kind b.kind) (ore (cmpI a.num b.num) (cmpB a.text.toList b.text.toList))) (cmpTL (decide (a.kind = 7)) a.items a.names b.items b.names) := by
  cases a; cases b; exact cmpT_mk _ _ _ _ _ _ _ _ _ _

theorem Box.drew {w : World} {g : Nat} {a b c d e : Value} (h : Box w g a b c d e) : Box w.drew g a b c d e := h
theorem hid_box_drew {w : World} {g : Nat} {a b c d e : Value} (h : Hid (Box w g a b c d e)) : Hid (Box w.drew g a b c d e) := hid h.out.drew
theorem hid_cell_drew {w : World} {a : Addr} {v : Value} (h : Hid (w.cell? a = some v)) : Hid (w.drew.cell? a = some v) := hid h.out
theorem hid_lt_drew {w : World} {b : Nat} (h : Hid (b < w.heap.size)) : Hid (b < w.drew.heap.size) := hid h.out
theorem hid_sub_drew {w : World} {S : Nat → Prop} (h : Hid (∀ b, S b → b < w.heap.size)) : Hid (∀ b, S b → b < w.drew.heap.size) := hid h.out
theorem may_items {t : VT} (h : mayT t = true) : mayL t.items = true := by cases t; exact (may_names h).2.2
theorem cmpTL_step {l l' : List VT} {j : Nat} (d : Bool) (ns ns' : List ByteArray) (h : j < l.length) (h' : j < l'.length) :
    cmpTL d (l.drop j) (ns.drop j) (l'.drop j) (ns'.drop j) = ore (if d = true then cmpB ((ns.drop j).headD ⟨#[]⟩).toList ((ns'.drop j).headD ⟨#[]⟩).toList else 0) (ore (cmpT l[j] l'[j]) (cmpTL d (l.drop (j + 1)) (ns.drop (j + 1)) (l'.drop (j + 1)) (ns'.drop (j + 1)))) := by
  rw [List.drop_eq_getElem_cons h, List.drop_eq_getElem_cons h']
  conv => lhs; unfold cmpTL
  rw [List.tail_drop, List.tail_drop]
theorem cmpTL_end (d : Bool) (l l' : List VT) (ns ns' : List ByteArray) : cmpTL d (l.drop (min l.length l'.length)) (ns.drop (min l.length l'.length)) (l'.drop (min l.length l'.length)) (ns'.drop (min l.length l'.length)) = cmpI l.length l'.length := by
  rcases Nat.lt_trichotomy l.length l'.length with h | h | h
  · rw [Nat.min_eq_left (by omega), List.drop_eq_nil_of_le (Nat.le_refl _), List.drop_eq_getElem_cons h]
    unfold cmpTL cmpI
    rw [if_pos (by omega)]
  · rw [Nat.min_eq_left (by omega), List.drop_eq_nil_of_le (Nat.le_refl _), List.drop_eq_nil_of_le (by omega : l'.length ≤ l.length)]
    unfold cmpTL cmpI
    rw [if_neg (by omega), if_neg (by omega)]
  · rw [Nat.min_eq_right (by omega), List.drop_eq_nil_of_le (Nat.le_refl l'.length), List.drop_eq_getElem_cons h]
    unfold cmpTL cmpI
    rw [if_neg (by omega), if_pos (by omega)]

set_option maxHeartbeats 4000000 in
set_option maxRecDepth 100000 in
theorem order_any (S : Nat → Prop) : ∀ (n : Nat) (a b : VT) (va vb : Value) (w : World), depthT a ≤ n → mayT a = true → mayT b = true → (∀ b, S b → b < w.heap.size) → LV w S a va → LV w S b vb →
    Calls Tryz.prog 183 #[va, vb] w fun e w' => e = .returned (.int .i64 (cmpT a b)) ∧ Below w.heap.size w w' := by
  intro n
  induction n with
  | zero => intro a b va vb w hd; cases a; rw [depthT_mk] at hd; omega
  | succ n ih =>
    intro a b va vb w hd hma hmb hS ha hb
    obtain ⟨A, ca, A', ca', rfl, a1, a2, a3, a4, a5, a6, a7⟩ := ha.shape
    obtain ⟨B, cb, B', cb', rfl, b1, b2, b3, b4, b5, b6, b7⟩ := hb.shape
    have hX2 : Box ((w.alloc (.cells #[.int .i64 a.kind, .int .i64 a.num, .string a.text, .slice A a.items.length ca, .slice A' a.names.length ca'] 25)).alloc (.cells #[.int .i64 b.kind, .int .i64 b.num, .string b.text, .slice B b.items.length cb, .slice B' b.names.length cb'] 25)) w.heap.size (.int .i64 a.kind) (.int .i64 a.num) (.string a.text) (.slice A a.items.length ca) (.slice A' a.names.length ca') := (Box.new _ _ _ _ _).alloc _
    have hX3 : Box ((w.alloc (.cells #[.int .i64 a.kind, .int .i64 a.num, .string a.text, .slice A a.items.length ca, .slice A' a.names.length ca'] 25)).alloc (.cells #[.int .i64 b.kind, .int .i64 b.num, .string b.text, .slice B b.items.length cb, .slice B' b.names.length cb'] 25)) (w.heap.size + 1) (.int .i64 b.kind) (.int .i64 b.num) (.string b.text) (.slice B b.items.length cb) (.slice B' b.names.length cb') := by
      have := Box.new (w := (w.alloc (.cells #[.int .i64 a.kind, .int .i64 a.num, .string a.text, .slice A a.items.length ca, .slice A' a.names.length ca'] 25))) (.int .i64 b.kind) (.int .i64 b.num) (.string b.text) (.slice B b.items.length cb) (.slice B' b.names.length cb')
      simpa using this
    have hB0 : Below w.heap.size w ((w.alloc (.cells #[.int .i64 a.kind, .int .i64 a.num, .string a.text, .slice A a.items.length ca, .slice A' a.names.length ca'] 25)).alloc (.cells #[.int .i64 b.kind, .int .i64 b.num, .string b.text, .slice B b.items.length cb, .slice B' b.names.length cb'] 25)) := (below_box _).alloc (by simp) _
    have X2 := hid hX2
    have X3 := hid hX3
    have HB0 := hid hB0
    have A7 := hid a7
    have B7 := hid b7
    have A6 := hid a6
    have B6 := hid b6
    have A4 := hid a4
    have B4 := hid b4
    have HR := hid (cmpT_parts a b)
    generalize cmpT a b = R at *
    clear ha hb hX2 hX3 hB0 a1 a2 a3 a4 a5 a6 a7 b1 b2 b3 b4 b5 b6 b7
    go_enter Tryz.func183, Tryz.ntmps183
    go_wp2_with fail
    obtain ⟨w1, hw1⟩ : ∃ w1 : World, w1 = ((w.alloc (.cells #[.int .i64 a.kind, .int .i64 a.num, .string a.text, .slice A a.items.length ca, .slice A' a.names.length ca'] 25)).alloc (.cells #[.int .i64 b.kind, .int .i64 b.num, .string b.text, .slice B b.items.length cb, .slice B' b.names.length cb'] 25)) := ⟨_, rfl⟩
    rw [← hw1] at X2 X3 HB0 ⊢
    have SZ1 : Hid (w1.heap.size = w.heap.size + 2) := hid (by rw [hw1]; simp)
    clear hw1
    refine wp_region_mix [0, 1, 2, 3, 5, 6, 7, 8, 10, 11, 12, 13, 4, 9, 14, 15, 16, 17] (by kernel_rfl) (by kernel_rfl) (fun _ d _ _ _ h => by cases d <;> exact h) ?_
    simp only [atR]
    have q0 := cell_later (B := w1.heap.size) (w := w1.drew) X2.out.c0 (by have := SZ1.out; simp; omega)
    have q1 := cell_later (B := w1.heap.size) (w := w1.drew) X2.out.c1 (by have := SZ1.out; simp; omega)
    have q2 := cell_later (B := w1.heap.size) (w := w1.drew) X2.out.c2 (by have := SZ1.out; simp; omega)
    have r0 := cell_later (B := w1.heap.size) (w := w1.drew) X3.out.c0 (by have := SZ1.out; simp; omega)
    have r1 := cell_later (B := w1.heap.size) (w := w1.drew) X3.out.c1 (by have := SZ1.out; simp; omega)
    have r2 := cell_later (B := w1.heap.size) (w := w1.drew) X3.out.c2 (by have := SZ1.out; simp; omega)
    first | refine mix_pure ?_ | refine mix_pureB ?_
    simp only [List.takeWhile, List.dropWhile, isPure, Nat.reduceBNe]
    repeat (go_big_quiet_step (fail))
    refine wpQuiet_nil ?_
    first | refine mix_call rfl (fun K hK => ?_) | refine mix_callB rfl (fun K hK => ?_)
    go_simp
    refine (cmpI_any _ _ _).mono ?_
    rintro e u ⟨rfl, rfl⟩
    refine hK _ _ (Below.refl _ _) ?_
    clear hK K
    try simp only [Act.put]
    first | refine mix_pure ?_ | refine mix_pureB ?_
    simp only [List.takeWhile, List.dropWhile, isPure, Nat.reduceBNe]
    repeat (go_big_quiet_step (fail))
    refine wpQuiet_nil ?_
    first | refine mix_call rfl (fun K hK => ?_) | refine mix_callB rfl (fun K hK => ?_)
    go_simp
    refine (cmpI_any _ _ _).mono ?_
    rintro e u ⟨rfl, rfl⟩
    refine hK _ _ (Below.refl _ _) ?_
    clear hK K
    try simp only [Act.put]
    first | refine mix_pure ?_ | refine mix_pureB ?_
    simp only [List.takeWhile, List.dropWhile, isPure, Nat.reduceBNe]
    repeat (go_big_quiet_step (fail))
    refine wpQuiet_nil ?_
    first | refine mix_call rfl (fun K hK => ?_) | refine mix_callB rfl (fun K hK => ?_)
    go_simp
    refine (cmpS_any _ _ _).mono ?_
    rintro e u ⟨rfl, rfl⟩
    refine hK _ _ (Below.refl _ _) ?_
    clear hK K
    try simp only [Act.put]
    first | refine mix_call rfl (fun K hK => ?_) | refine mix_callB rfl (fun K hK => ?_)
    go_simp
    refine hK _ _ (below_predrew (below_box _).drew) ?_
    clear hK K
    try simp only [Act.put]
    first | refine mix_pure ?_ | refine mix_pureB ?_
    simp only [List.takeWhile, List.dropWhile, isPure, Nat.reduceBNe]
    repeat (go_big_quiet_step (fail))
    refine wpQuiet_nil ?_
    first | refine mix_call rfl (fun K hK => ?_) | refine mix_callB rfl (fun K hK => ?_)
    go_simp
    refine (or3_any w1.heap.size 3 (cmpI a.kind b.kind) (cmpI a.num b.num) (cmpB a.text.toList b.text.toList) _ (by simp) (by simp) (by simp)).mono ?_
    rintro e u ⟨rfl, rfl⟩
    refine hK _ _ (Below.refl _ _) ?_
    clear hK K
    try simp only [Act.put]
    first | refine mix_pure ?_ | refine mix_pureB ?_
    simp only [List.takeWhile, List.dropWhile, isPure, Nat.reduceBNe]
    repeat (go_big_quiet_step (fail))
    refine wpQuiet_nil ?_
    unfold wpMix
    obtain ⟨w2, hw2⟩ : ∃ w2 : World, w2 = (w1.alloc (.cells #[.int .i64 (cmpI a.kind b.kind), .int .i64 (cmpI a.num b.num), .int .i64 (cmpB a.text.toList b.text.toList)] 3)).drew := ⟨_, rfl⟩
    rw [← hw2]
    have hb2 : Below w1.heap.size w1 w2 := by rw [hw2]; exact (below_box _).drew
    have X2' := hid (X2.out.call hb2)
    have X3' := hid (X3.out.call hb2)
    have HB2 := hid (toStart HB0.out hb2)
    have k3 := X2'.out.c3
    have k3' := X3'.out.c3
    clear q0 q1 q2 r0 r1 r2 X2 X3 HB0 hb2 hw2 SZ1
    have HK : Hid (ore (cmpI a.kind b.kind) (ore (cmpI a.num b.num) (cmpB a.text.toList b.text.toList)) = 0 → a.kind = b.kind) := hid (fun h => (cmpI_zero _ _).1 ((ore_zero _ _).1 h).1)
    generalize ore (cmpI a.kind b.kind) (ore (cmpI a.num b.num) (cmpB a.text.toList b.text.toList)) = X at *
    by_cases hX : X = 0
    · subst hX
      have NA : Hid (a.kind = 7 → a.names.length = a.items.length) := hid (fun h => by cases a; exact (may_names hma).1 h)
      have NB : Hid (a.kind = 7 → b.names.length = b.items.length) := hid (fun h => by have hk := HK.out rfl; cases b; exact (may_names hmb).1 (hk.symm.trans h))
      have HM : Hid (∀ j, j < min a.items.length b.items.length → j < a.items.length ∧ j < b.items.length) := hid (fun j h => by omega)
      have HE : Hid (cmpTL (decide (a.kind = 7)) (a.items.drop (min a.items.length b.items.length)) (a.names.drop (min a.items.length b.items.length)) (b.items.drop (min a.items.length b.items.length)) (b.names.drop (min a.items.length b.items.length)) = cmpI a.items.length b.items.length) := hid (cmpTL_end _ _ _ _ _)
      have HR0 : Hid (cmpTL (decide (a.kind = 7)) a.items a.names b.items b.names = R) := hid (by rw [HR.out]; simp [ore])
      have HML : Hid (min a.items.length b.items.length ≤ 140737488351232) := hid (by have := A4.out; omega)
      have HM1 : a.items.length ≤ b.items.length → min a.items.length b.items.length = a.items.length := fun h => by omega
      have HM2 : ¬ a.items.length ≤ b.items.length → min a.items.length b.items.length = b.items.length := fun h => by omega
      have HM3 := hid HM1
      have HM4 := hid HM2
      clear HR HM1 HM2
      generalize min a.items.length b.items.length = m at *
      by_cases hlen : a.items.length ≤ b.items.length
      · obtain rfl : m = a.items.length := HM3.out hlen
        go_wp2_with fail
        clear k3 k3' HM3 HM4
        go_loopw [5, 34] (fun cc i wr => ∃ j : Nat, cc = .int .i64 0 ∧ i = .int .i64 j ∧ j ≤ a.items.length ∧ Hid (cmpTL (decide (a.kind = 7)) (a.items.drop j) (a.names.drop j) (b.items.drop j) (b.names.drop j) = R ∧ Below w.heap.size w wr ∧
          Box wr w.heap.size (.int .i64 a.kind) (.int .i64 a.num) (.string a.text) (.slice A a.items.length ca) (.slice A' a.names.length ca') ∧ Box wr (w.heap.size + 1) (.int .i64 b.kind) (.int .i64 b.num) (.string b.text) (.slice B b.items.length cb) (.slice B' b.names.length cb'))) (fun _ i _ => a.items.length - (intOf i).toNat)
        case atStart =>
          exact ⟨0, rfl, rfl, Nat.zero_le _, by simpa using HR0.out, HB2.out, X2'.out, X3'.out⟩
        case round =>
          obtain ⟨j, rfl, rfl, hj, HI⟩ := hrel
          have hml := HML.out
          by_cases hlt : j < a.items.length
          · obtain ⟨ja, jb⟩ := HM.out j hlt
            have hla := A4.out
            have hlb := B4.out
            obtain ⟨pa, oa, rfl, hpa, hva⟩ := A7.out (by omega)
            obtain ⟨pb, ob, rfl, hpb, hvb⟩ := B7.out (by omega)
            obtain ⟨c0, c1, c2, c3, c4, h0, h1, h2, h3, h4, hxa⟩ := hva.at j ja
            obtain ⟨d0, d1, d2, d3, d4, g0, g1, g2, g3, g4, hxb⟩ := hvb.at j jb
            obtain ⟨A2, e2, A3, e3, hag, -⟩ := hxa.shape
            injection hag with hag; injection hag with hag
            injection hag with y0 hag; injection hag with y1 hag; injection hag with y2 hag; injection hag with y3 hag; injection hag with y4 hag
            subst y0 y1 y2 y3 y4
            obtain ⟨B2, f2, B3, f3, hbg, -⟩ := hxb.shape
            injection hbg with hbg; injection hbg with hbg
            injection hbg with y0 hbg; injection hbg with y1 hbg; injection hbg with y2 hbg; injection hbg with y3 hbg; injection hbg with y4 hbg
            subst y0 y1 y2 y3 y4
            have hka : ∀ o, wr.cell? ⟨pa, o, none⟩ = w.cell? ⟨pa, o, none⟩ := fun o => HI.out.2.1.cell (p := ⟨pa, o, none⟩) (hS pa hpa)
            have hkb : ∀ o, wr.cell? ⟨pb, o, none⟩ = w.cell? ⟨pb, o, none⟩ := fun o => HI.out.2.1.cell (p := ⟨pb, o, none⟩) (hS pb hpb)
            rw [← hka] at h0 h1 h2 h3 h4
            rw [← hkb] at g0 g1 g2 g3 g4
            have hxa := hid (hxa.below hS HI.out.2.1)
            have hxb := hid (hxb.below hS HI.out.2.1)
            have h0 := hid h0
            have h1 := hid h1
            have h2 := hid h2
            have h3 := hid h3
            have h4 := hid h4
            have g0 := hid g0
            have g1 := hid g1
            have g2 := hid g2
            have g3 := hid g3
            have g4 := hid g4
            have hba : Hid (pa < wr.heap.size) := hid (Nat.lt_of_lt_of_le (hS pa hpa) HI.out.2.1.size)
            have hbb : Hid (pb < wr.heap.size) := hid (Nat.lt_of_lt_of_le (hS pb hpb) HI.out.2.1.size)
            have x2 := hid HI.out.2.2.1
            have x3 := hid HI.out.2.2.2
            have HBW := hid HI.out.2.1
            have HDJ : Hid (depthT a.items[j] ≤ n) := hid (by
              have hdp := depthL_le (List.getElem_mem ja)
              have hdt : depthT a = depthL a.items + 1 := by cases a; exact depthT_mk _ _ _ _ _
              omega)
            have HMJ := hid (mayL_mem (may_items hma) (List.getElem_mem ja))
            have HMJ' := hid (mayL_mem (may_items hmb) (List.getElem_mem jb))
            have HSJ : Hid (∀ b, S b → b < wr.drew.heap.size) := hid (fun b hb => Nat.lt_of_lt_of_le (hS b hb) HI.out.2.1.size)
            have RR := hid (cmpTL_step (decide (a.kind = 7)) a.names b.names ja jb)
            have RR : Hid (R = _) := hid (HI.out.1.symm.trans RR.out)
            clear hva hvb hka hkb HI
            have k0 := x2.out.c0
            by_cases h7 : a.kind = 7
            · obtain ⟨na, hna⟩ : ∃ na, na = a.names.length := ⟨_, rfl⟩
              have e7 : a.names.length = a.items.length := NA.out h7
              have f7 : b.names.length = b.items.length := NB.out h7
              have ia : j < a.names.length := by omega
              have ib : j < b.names.length := by omega
              clear e7 f7 hna na
              obtain ⟨ua, va, rfl, hua, hsa⟩ := A6.out (by omega)
              obtain ⟨ub, vb, rfl, hub, hsb⟩ := B6.out (by omega)
              have t1 : wr.cell? ⟨ua, va + j, none⟩ = some (.string a.names[j]) := (HBW.out.cell (p := ⟨ua, va + j, none⟩) (hS ua hua)).trans (hsa j ia).1
              have t2 : wr.cell? ⟨ub, vb + j, none⟩ = some (.string b.names[j]) := (HBW.out.cell (p := ⟨ub, vb + j, none⟩) (hS ub hub)).trans (hsb j ib).1
              have RR : Hid (R = ore (cmpB a.names[j].toList b.names[j].toList) (ore (cmpT a.items[j] b.items[j]) (cmpTL (decide (a.kind = 7)) (a.items.drop (j + 1)) (a.names.drop (j + 1)) (b.items.drop (j + 1)) (b.names.drop (j + 1))))) := hid (by
                rw [RR.out, if_pos (by simpa using h7), List.drop_eq_getElem_cons ia, List.drop_eq_getElem_cons ib]
                simp only [List.headD_cons])
              have hub1 : ua < wr.heap.size := Nat.lt_of_lt_of_le (hS ua hua) HBW.out.size
              have hub2 : ub < wr.heap.size := Nat.lt_of_lt_of_le (hS ub hub) HBW.out.size
              have b7 : (a.kind == 7) = true := by simp [h7]
              clear h7
              generalize a.names[j] = sa at *
              generalize b.names[j] = sb at *
              go_wp2_with fail
              refine wp_region_mix [0, 1, 2, 3, 4, 5, 6, 7, 8, 9, 10, 11] (by kernel_rfl) (by kernel_rfl) (fun _ d _ _ _ h => by cases d <;> exact h) ?_
              simp only [atR]
              have q4 := cell_later (B := wr.heap.size) (w := wr.drew) x2.out.c4 x2.out.lt
              have q4' := cell_later (B := wr.heap.size) (w := wr.drew) x3.out.c4 x3.out.lt
              have u1 := cell_later (B := wr.heap.size) (w := wr.drew) t1 hub1
              have u2 := cell_later (B := wr.heap.size) (w := wr.drew) t2 hub2
              first | refine mix_pure ?_ | refine mix_pureB ?_
              simp only [List.takeWhile, List.dropWhile, isPure, Nat.reduceBNe]
              repeat (go_big_quiet_step (fail))
              refine wpQuiet_nil ?_
              first | refine mix_call rfl (fun K hK => ?_) | refine mix_callB rfl (fun K hK => ?_)
              go_simp
              refine (cmpS_any _ _ _).mono ?_
              rintro e u ⟨rfl, rfl⟩
              refine hK _ _ (Below.refl _ _) ?_
              clear hK K
              try simp only [Act.put]
              first | refine mix_pure ?_ | refine mix_pureB ?_
              simp only [List.takeWhile, List.dropWhile, isPure, Nat.reduceBNe]
              repeat (go_big_quiet_step (fail))
              refine wpQuiet_nil ?_
              unfold wpMix
              clear q4 q4' u1 u2 t1 t2 hsa hsb hub1 hub2 k0
              have x2 := hid_box_drew x2
              have x3 := hid_box_drew x3
              have h0 := hid_cell_drew h0
              have h1 := hid_cell_drew h1
              have h2 := hid_cell_drew h2
              have h3 := hid_cell_drew h3
              have h4 := hid_cell_drew h4
              have g0 := hid_cell_drew g0
              have g1 := hid_cell_drew g1
              have g2 := hid_cell_drew g2
              have g3 := hid_cell_drew g3
              have g4 := hid_cell_drew g4
              have hba := hid_lt_drew hba
              have hbb := hid_lt_drew hbb
              have hxa := hid hxa.out.drew
              have hxb := hid hxb.out.drew
              have HBW := hid HBW.out.drew
              have HSJ := hid_sub_drew HSJ
              generalize wr.drew = wq at *
              generalize cmpB sa.toList sb.toList = D at *
              by_cases hD : D = 0
              · subst hD
                go_wp2_with fail
                refine wp_region_mix [0, 1, 2, 3, 4, 5, 6, 7, 8, 9, 10, 11] (by kernel_rfl) (by kernel_rfl) (fun _ d _ _ _ h => by cases d <;> exact h) ?_
                simp only [atR]
                have q3 := cell_later (B := wq.heap.size) (w := wq.drew) x2.out.c3 x2.out.lt
                have q3' := cell_later (B := wq.heap.size) (w := wq.drew) x3.out.c3 x3.out.lt
                have p0 := cell_later (B := wq.heap.size) (w := wq.drew) h0.out hba.out
                have p1 := cell_later (B := wq.heap.size) (w := wq.drew) h1.out hba.out
                have p2 := cell_later (B := wq.heap.size) (w := wq.drew) h2.out hba.out
                have p3 := cell_later (B := wq.heap.size) (w := wq.drew) h3.out hba.out
                have p4 := cell_later (B := wq.heap.size) (w := wq.drew) h4.out hba.out
                have s0 := cell_later (B := wq.heap.size) (w := wq.drew) g0.out hbb.out
                have s1 := cell_later (B := wq.heap.size) (w := wq.drew) g1.out hbb.out
                have s2 := cell_later (B := wq.heap.size) (w := wq.drew) g2.out hbb.out
                have s3 := cell_later (B := wq.heap.size) (w := wq.drew) g3.out hbb.out
                have s4 := cell_later (B := wq.heap.size) (w := wq.drew) g4.out hbb.out
                first | refine mix_pure ?_ | refine mix_pureB ?_
                simp only [List.takeWhile, List.dropWhile, isPure, Nat.reduceBNe]
                repeat (go_big_quiet_step (fail))
                refine wpQuiet_nil ?_
                first | refine mix_call rfl (fun K hK => ?_) | refine mix_callB rfl (fun K hK => ?_)
                go_simp
                refine (ih a.items[j] b.items[j] _ _ wq.drew HDJ.out HMJ.out HMJ'.out HSJ.out hxa.out.drew hxb.out.drew).mono ?_
                rintro e w4 ⟨rfl, hb⟩
                refine hK _ _ hb ?_
                clear hK K
                try simp only [Act.put]
                first | refine mix_pure ?_ | refine mix_pureB ?_
                simp only [List.takeWhile, List.dropWhile, isPure, Nat.reduceBNe]
                repeat (go_big_quiet_step (fail))
                refine wpQuiet_nil ?_
                unfold wpMix
                have HB4 := hid (toStart HBW.out (below_undrew hb))
                have x2' := hid (x2.out.call (below_undrew hb))
                have x3' := hid (x3.out.call (below_undrew hb))
                clear q3 q3' p0 p1 p2 p3 p4 s0 s1 s2 s3 s4 hb x2 x3 h0 h1 h2 h3 h4 g0 g1 g2 g3 g4 hba hbb hxa hxb HDJ HMJ HMJ' HSJ HBW
                generalize cmpT a.items[j] b.items[j] = C at *
                by_cases hC : C = 0
                · subst hC
                  have HN : Hid (cmpTL (decide (a.kind = 7)) (a.items.drop (j + 1)) (a.names.drop (j + 1)) (b.items.drop (j + 1)) (b.names.drop (j + 1)) = R) := hid (by rw [RR.out]; simp [ore])
                  go_wp2_with fail
                  go_roundw
                  case rel => exact ⟨j + 1, rfl, by go_num, by omega, HN.out, HB4.out, x2'.out, x3'.out⟩
                  case measure => simp [intOf]; omega
                · have HN : Hid (R = C) := hid (by rw [RR.out]; simp [ore, hC])
                  go_wp2_with fail
                  go_ret
                  exact ⟨ret_i64 HN.out.symm, HB4.out⟩
              · have HN : Hid (R = D) := hid (by rw [RR.out]; simp [ore, hD])
                go_wp2_with fail
                go_ret
                exact ⟨ret_i64 HN.out.symm, HBW.out⟩
            · have RR : Hid (R = ore 0 (ore (cmpT a.items[j] b.items[j]) (cmpTL (decide (a.kind = 7)) (a.items.drop (j + 1)) (a.names.drop (j + 1)) (b.items.drop (j + 1)) (b.names.drop (j + 1))))) := hid (by rw [RR.out, if_neg (by simpa using h7)])
              have b7 : (a.kind == 7) = false := by simp [h7]
              go_wp2_with fail
              clear k0
              refine wp_region_mix [0, 1, 2, 3, 4, 5, 6, 7, 8, 9, 10, 11] (by kernel_rfl) (by kernel_rfl) (fun _ d _ _ _ h => by cases d <;> exact h) ?_
              simp only [atR]
              have q3 := cell_later (B := wr.heap.size) (w := wr.drew) x2.out.c3 x2.out.lt
              have q3' := cell_later (B := wr.heap.size) (w := wr.drew) x3.out.c3 x3.out.lt
              have p0 := cell_later (B := wr.heap.size) (w := wr.drew) h0.out hba.out
              have p1 := cell_later (B := wr.heap.size) (w := wr.drew) h1.out hba.out
              have p2 := cell_later (B := wr.heap.size) (w := wr.drew) h2.out hba.out
              have p3 := cell_later (B := wr.heap.size) (w := wr.drew) h3.out hba.out
              have p4 := cell_later (B := wr.heap.size) (w := wr.drew) h4.out hba.out
              have s0 := cell_later (B := wr.heap.size) (w := wr.drew) g0.out hbb.out
              have s1 := cell_later (B := wr.heap.size) (w := wr.drew) g1.out hbb.out
              have s2 := cell_later (B := wr.heap.size) (w := wr.drew) g2.out hbb.out
              have s3 := cell_later (B := wr.heap.size) (w := wr.drew) g3.out hbb.out
              have s4 := cell_later (B := wr.heap.size) (w := wr.drew) g4.out hbb.out
              first | refine mix_pure ?_ | refine mix_pureB ?_
              simp only [List.takeWhile, List.dropWhile, isPure, Nat.reduceBNe]
              repeat (go_big_quiet_step (fail))
              refine wpQuiet_nil ?_
              first | refine mix_call rfl (fun K hK => ?_) | refine mix_callB rfl (fun K hK => ?_)
              go_simp
              refine (ih a.items[j] b.items[j] _ _ wr.drew HDJ.out HMJ.out HMJ'.out HSJ.out hxa.out.drew hxb.out.drew).mono ?_
              rintro e w4 ⟨rfl, hb⟩
              refine hK _ _ hb ?_
              clear hK K
              try simp only [Act.put]
              first | refine mix_pure ?_ | refine mix_pureB ?_
              simp only [List.takeWhile, List.dropWhile, isPure, Nat.reduceBNe]
              repeat (go_big_quiet_step (fail))
              refine wpQuiet_nil ?_
              unfold wpMix
              have HB4 := hid (toStart HBW.out (below_undrew hb))
              have x2' := hid (x2.out.call (below_undrew hb))
              have x3' := hid (x3.out.call (below_undrew hb))
              clear q3 q3' p0 p1 p2 p3 p4 s0 s1 s2 s3 s4 hb x2 x3 h0 h1 h2 h3 h4 g0 g1 g2 g3 g4 hba hbb hxa hxb HDJ HMJ HMJ' HSJ HBW
              generalize cmpT a.items[j] b.items[j] = C at *
              by_cases hC : C = 0
              · subst hC
                have HN : Hid (cmpTL (decide (a.kind = 7)) (a.items.drop (j + 1)) (a.names.drop (j + 1)) (b.items.drop (j + 1)) (b.names.drop (j + 1)) = R) := hid (by rw [RR.out]; simp [ore])
                go_wp2_with fail
                go_roundw
                case rel => exact ⟨j + 1, rfl, by go_num, by omega, HN.out, HB4.out, x2'.out, x3'.out⟩
                case measure => simp [intOf]; omega
              · have HN : Hid (R = C) := hid (by rw [RR.out]; simp [ore, hC])
                go_wp2_with fail
                go_ret
                exact ⟨ret_i64 HN.out.symm, HB4.out⟩
          · obtain rfl : j = a.items.length := by omega
            have k3 := HI.out.2.2.1.c3
            have k3' := HI.out.2.2.2.c3
            have HE2 := hid (HI.out.1.symm.trans HE.out)
            have HBW := hid HI.out.2.1
            clear HI
            go_wp2_with (go_at_call 193; refine (cmpI_any _ _ _).mono ?_; rintro e w' ⟨rfl, rfl⟩)
            go_ret
            exact ⟨ret_i64 HE2.out.symm, HBW.out⟩
      · obtain rfl : m = b.items.length := HM4.out hlen
        go_wp2_with fail
        clear k3 k3' HM3 HM4
        go_loopw [5, 34] (fun cc i wr => ∃ j : Nat, cc = .int .i64 0 ∧ i = .int .i64 j ∧ j ≤ b.items.length ∧ Hid (cmpTL (decide (a.kind = 7)) (a.items.drop j) (a.names.drop j) (b.items.drop j) (b.names.drop j) = R ∧ Below w.heap.size w wr ∧
          Box wr w.heap.size (.int .i64 a.kind) (.int .i64 a.num) (.string a.text) (.slice A a.items.length ca) (.slice A' a.names.length ca') ∧ Box wr (w.heap.size + 1) (.int .i64 b.kind) (.int .i64 b.num) (.string b.text) (.slice B b.items.length cb) (.slice B' b.names.length cb'))) (fun _ i _ => b.items.length - (intOf i).toNat)
        case atStart =>
          exact ⟨0, rfl, rfl, Nat.zero_le _, by simpa using HR0.out, HB2.out, X2'.out, X3'.out⟩
        case round =>
          obtain ⟨j, rfl, rfl, hj, HI⟩ := hrel
          have hml := HML.out
          by_cases hlt : j < b.items.length
          · obtain ⟨ja, jb⟩ := HM.out j hlt
            have hla := A4.out
            have hlb := B4.out
            obtain ⟨pa, oa, rfl, hpa, hva⟩ := A7.out (by omega)
            obtain ⟨pb, ob, rfl, hpb, hvb⟩ := B7.out (by omega)
            obtain ⟨c0, c1, c2, c3, c4, h0, h1, h2, h3, h4, hxa⟩ := hva.at j ja
            obtain ⟨d0, d1, d2, d3, d4, g0, g1, g2, g3, g4, hxb⟩ := hvb.at j jb
            obtain ⟨A2, e2, A3, e3, hag, -⟩ := hxa.shape
            injection hag with hag; injection hag with hag
            injection hag with y0 hag; injection hag with y1 hag; injection hag with y2 hag; injection hag with y3 hag; injection hag with y4 hag
            subst y0 y1 y2 y3 y4
            obtain ⟨B2, f2, B3, f3, hbg, -⟩ := hxb.shape
            injection hbg with hbg; injection hbg with hbg
            injection hbg with y0 hbg; injection hbg with y1 hbg; injection hbg with y2 hbg; injection hbg with y3 hbg; injection hbg with y4 hbg
            subst y0 y1 y2 y3 y4
            have hka : ∀ o, wr.cell? ⟨pa, o, none⟩ = w.cell? ⟨pa, o, none⟩ := fun o => HI.out.2.1.cell (p := ⟨pa, o, none⟩) (hS pa hpa)
            have hkb : ∀ o, wr.cell? ⟨pb, o, none⟩ = w.cell? ⟨pb, o, none⟩ := fun o => HI.out.2.1.cell (p := ⟨pb, o, none⟩) (hS pb hpb)
            rw [← hka] at h0 h1 h2 h3 h4
            rw [← hkb] at g0 g1 g2 g3 g4
            have hxa := hid (hxa.below hS HI.out.2.1)
            have hxb := hid (hxb.below hS HI.out.2.1)
            have h0 := hid h0
            have h1 := hid h1
            have h2 := hid h2
            have h3 := hid h3
            have h4 := hid h4
            have g0 := hid g0
            have g1 := hid g1
            have g2 := hid g2
            have g3 := hid g3
            have g4 := hid g4
            have hba : Hid (pa < wr.heap.size) := hid (Nat.lt_of_lt_of_le (hS pa hpa) HI.out.2.1.size)
            have hbb : Hid (pb < wr.heap.size) := hid (Nat.lt_of_lt_of_le (hS pb hpb) HI.out.2.1.size)
            have x2 := hid HI.out.2.2.1
            have x3 := hid HI.out.2.2.2
            have HBW := hid HI.out.2.1
            have HDJ : Hid (depthT a.items[j] ≤ n) := hid (by
              have hdp := depthL_le (List.getElem_mem ja)
              have hdt : depthT a = depthL a.items + 1 := by cases a; exact depthT_mk _ _ _ _ _
              omega)
            have HMJ := hid (mayL_mem (may_items hma) (List.getElem_mem ja))
            have HMJ' := hid (mayL_mem (may_items hmb) (List.getElem_mem jb))
            have HSJ : Hid (∀ b, S b → b < wr.drew.heap.size) := hid (fun b hb => Nat.lt_of_lt_of_le (hS b hb) HI.out.2.1.size)
            have RR := hid (cmpTL_step (decide (a.kind = 7)) a.names b.names ja jb)
            have RR : Hid (R = _) := hid (HI.out.1.symm.trans RR.out)
            clear hva hvb hka hkb HI
            have k0 := x2.out.c0
            by_cases h7 : a.kind = 7
            · obtain ⟨na, hna⟩ : ∃ na, na = a.names.length := ⟨_, rfl⟩
              have e7 : a.names.length = a.items.length := NA.out h7
              have f7 : b.names.length = b.items.length := NB.out h7
              have ia : j < a.names.length := by omega
              have ib : j < b.names.length := by omega
              clear e7 f7 hna na
              obtain ⟨ua, va, rfl, hua, hsa⟩ := A6.out (by omega)
              obtain ⟨ub, vb, rfl, hub, hsb⟩ := B6.out (by omega)
              have t1 : wr.cell? ⟨ua, va + j, none⟩ = some (.string a.names[j]) := (HBW.out.cell (p := ⟨ua, va + j, none⟩) (hS ua hua)).trans (hsa j ia).1
              have t2 : wr.cell? ⟨ub, vb + j, none⟩ = some (.string b.names[j]) := (HBW.out.cell (p := ⟨ub, vb + j, none⟩) (hS ub hub)).trans (hsb j ib).1
              have RR : Hid (R = ore (cmpB a.names[j].toList b.names[j].toList) (ore (cmpT a.items[j] b.items[j]) (cmpTL (decide (a.kind = 7)) (a.items.drop (j + 1)) (a.names.drop (j + 1)) (b.items.drop (j + 1)) (b.names.drop (j + 1))))) := hid (by
                rw [RR.out, if_pos (by simpa using h7), List.drop_eq_getElem_cons ia, List.drop_eq_getElem_cons ib]
                simp only [List.headD_cons])
              have hub1 : ua < wr.heap.size := Nat.lt_of_lt_of_le (hS ua hua) HBW.out.size
              have hub2 : ub < wr.heap.size := Nat.lt_of_lt_of_le (hS ub hub) HBW.out.size
              have b7 : (a.kind == 7) = true := by simp [h7]
              clear h7
              generalize a.names[j] = sa at *
              generalize b.names[j] = sb at *
              go_wp2_with fail
              refine wp_region_mix [0, 1, 2, 3, 4, 5, 6, 7, 8, 9, 10, 11] (by kernel_rfl) (by kernel_rfl) (fun _ d _ _ _ h => by cases d <;> exact h) ?_
              simp only [atR]
              have q4 := cell_later (B := wr.heap.size) (w := wr.drew) x2.out.c4 x2.out.lt
              have q4' := cell_later (B := wr.heap.size) (w := wr.drew) x3.out.c4 x3.out.lt
              have u1 := cell_later (B := wr.heap.size) (w := wr.drew) t1 hub1
              have u2 := cell_later (B := wr.heap.size) (w := wr.drew) t2 hub2
              first | refine mix_pure ?_ | refine mix_pureB ?_
              simp only [List.takeWhile, List.dropWhile, isPure, Nat.reduceBNe]
              repeat (go_big_quiet_step (fail))
              refine wpQuiet_nil ?_
              first | refine mix_call rfl (fun K hK => ?_) | refine mix_callB rfl (fun K hK => ?_)
              go_simp
              refine (cmpS_any _ _ _).mono ?_
              rintro e u ⟨rfl, rfl⟩
              refine hK _ _ (Below.refl _ _) ?_
              clear hK K
              try simp only [Act.put]
              first | refine mix_pure ?_ | refine mix_pureB ?_
              simp only [List.takeWhile, List.dropWhile, isPure, Nat.reduceBNe]
              repeat (go_big_quiet_step (fail))
              refine wpQuiet_nil ?_
              unfold wpMix
              clear q4 q4' u1 u2 t1 t2 hsa hsb hub1 hub2 k0
              have x2 := hid_box_drew x2
              have x3 := hid_box_drew x3
              have h0 := hid_cell_drew h0
              have h1 := hid_cell_drew h1
              have h2 := hid_cell_drew h2
              have h3 := hid_cell_drew h3
              have h4 := hid_cell_drew h4
              have g0 := hid_cell_drew g0
              have g1 := hid_cell_drew g1
              have g2 := hid_cell_drew g2
              have g3 := hid_cell_drew g3
              have g4 := hid_cell_drew g4
              have hba := hid_lt_drew hba
              have hbb := hid_lt_drew hbb
              have hxa := hid hxa.out.drew
              have hxb := hid hxb.out.drew
              have HBW := hid HBW.out.drew
              have HSJ := hid_sub_drew HSJ
              generalize wr.drew = wq at *
              generalize cmpB sa.toList sb.toList = D at *
              by_cases hD : D = 0
              · subst hD
                go_wp2_with fail
                refine wp_region_mix [0, 1, 2, 3, 4, 5, 6, 7, 8, 9, 10, 11] (by kernel_rfl) (by kernel_rfl) (fun _ d _ _ _ h => by cases d <;> exact h) ?_
                simp only [atR]
                have q3 := cell_later (B := wq.heap.size) (w := wq.drew) x2.out.c3 x2.out.lt
                have q3' := cell_later (B := wq.heap.size) (w := wq.drew) x3.out.c3 x3.out.lt
                have p0 := cell_later (B := wq.heap.size) (w := wq.drew) h0.out hba.out
                have p1 := cell_later (B := wq.heap.size) (w := wq.drew) h1.out hba.out
                have p2 := cell_later (B := wq.heap.size) (w := wq.drew) h2.out hba.out
                have p3 := cell_later (B := wq.heap.size) (w := wq.drew) h3.out hba.out
                have p4 := cell_later (B := wq.heap.size) (w := wq.drew) h4.out hba.out
                have s0 := cell_later (B := wq.heap.size) (w := wq.drew) g0.out hbb.out
                have s1 := cell_later (B := wq.heap.size) (w := wq.drew) g1.out hbb.out
                have s2 := cell_later (B := wq.heap.size) (w := wq.drew) g2.out hbb.out
                have s3 := cell_later (B := wq.heap.size) (w := wq.drew) g3.out hbb.out
                have s4 := cell_later (B := wq.heap.size) (w := wq.drew) g4.out hbb.out
                first | refine mix_pure ?_ | refine mix_pureB ?_
                simp only [List.takeWhile, List.dropWhile, isPure, Nat.reduceBNe]
                repeat (go_big_quiet_step (fail))
                refine wpQuiet_nil ?_
                first | refine mix_call rfl (fun K hK => ?_) | refine mix_callB rfl (fun K hK => ?_)
                go_simp
                refine (ih a.items[j] b.items[j] _ _ wq.drew HDJ.out HMJ.out HMJ'.out HSJ.out hxa.out.drew hxb.out.drew).mono ?_
                rintro e w4 ⟨rfl, hb⟩
                refine hK _ _ hb ?_
                clear hK K
                try simp only [Act.put]
                first | refine mix_pure ?_ | refine mix_pureB ?_
                simp only [List.takeWhile, List.dropWhile, isPure, Nat.reduceBNe]
                repeat (go_big_quiet_step (fail))
                refine wpQuiet_nil ?_
                unfold wpMix
                have HB4 := hid (toStart HBW.out (below_undrew hb))
                have x2' := hid (x2.out.call (below_undrew hb))
                have x3' := hid (x3.out.call (below_undrew hb))
                clear q3 q3' p0 p1 p2 p3 p4 s0 s1 s2 s3 s4 hb x2 x3 h0 h1 h2 h3 h4 g0 g1 g2 g3 g4 hba hbb hxa hxb HDJ HMJ HMJ' HSJ HBW
                generalize cmpT a.items[j] b.items[j] = C at *
                by_cases hC : C = 0
                · subst hC
                  have HN : Hid (cmpTL (decide (a.kind = 7)) (a.items.drop (j + 1)) (a.names.drop (j + 1)) (b.items.drop (j + 1)) (b.names.drop (j + 1)) = R) := hid (by rw [RR.out]; simp [ore])
                  go_wp2_with fail
                  go_roundw
                  case rel => exact ⟨j + 1, rfl, by go_num, by omega, HN.out, HB4.out, x2'.out, x3'.out⟩
                  case measure => simp [intOf]; omega
                · have HN : Hid (R = C) := hid (by rw [RR.out]; simp [ore, hC])
                  go_wp2_with fail
                  go_ret
                  exact ⟨ret_i64 HN.out.symm, HB4.out⟩
              · have HN : Hid (R = D) := hid (by rw [RR.out]; simp [ore, hD])
                go_wp2_with fail
                go_ret
                exact ⟨ret_i64 HN.out.symm, HBW.out⟩
            · have RR : Hid (R = ore 0 (ore (cmpT a.items[j] b.items[j]) (cmpTL (decide (a.kind = 7)) (a.items.drop (j + 1)) (a.names.drop (j + 1)) (b.items.drop (j + 1)) (b.names.drop (j + 1))))) := hid (by rw [RR.out, if_neg (by simpa using h7)])
              have b7 : (a.kind == 7) = false := by simp [h7]
              go_wp2_with fail
              clear k0
              refine wp_region_mix [0, 1, 2, 3, 4, 5, 6, 7, 8, 9, 10, 11] (by kernel_rfl) (by kernel_rfl) (fun _ d _ _ _ h => by cases d <;> exact h) ?_
              simp only [atR]
              have q3 := cell_later (B := wr.heap.size) (w := wr.drew) x2.out.c3 x2.out.lt
              have q3' := cell_later (B := wr.heap.size) (w := wr.drew) x3.out.c3 x3.out.lt
              have p0 := cell_later (B := wr.heap.size) (w := wr.drew) h0.out hba.out
              have p1 := cell_later (B := wr.heap.size) (w := wr.drew) h1.out hba.out
              have p2 := cell_later (B := wr.heap.size) (w := wr.drew) h2.out hba.out
              have p3 := cell_later (B := wr.heap.size) (w := wr.drew) h3.out hba.out
              have p4 := cell_later (B := wr.heap.size) (w := wr.drew) h4.out hba.out
              have s0 := cell_later (B := wr.heap.size) (w := wr.drew) g0.out hbb.out
              have s1 := cell_later (B := wr.heap.size) (w := wr.drew) g1.out hbb.out
              have s2 := cell_later (B := wr.heap.size) (w := wr.drew) g2.out hbb.out
              have s3 := cell_later (B := wr.heap.size) (w := wr.drew) g3.out hbb.out
              have s4 := cell_later (B := wr.heap.size) (w := wr.drew) g4.out hbb.out
              first | refine mix_pure ?_ | refine mix_pureB ?_
              simp only [List.takeWhile, List.dropWhile, isPure, Nat.reduceBNe]
              repeat (go_big_quiet_step (fail))
              refine wpQuiet_nil ?_
              first | refine mix_call rfl (fun K hK => ?_) | refine mix_callB rfl (fun K hK => ?_)
              go_simp
              refine (ih a.items[j] b.items[j] _ _ wr.drew HDJ.out HMJ.out HMJ'.out HSJ.out hxa.out.drew hxb.out.drew).mono ?_
              rintro e w4 ⟨rfl, hb⟩
              refine hK _ _ hb ?_
              clear hK K
              try simp only [Act.put]
              first | refine mix_pure ?_ | refine mix_pureB ?_
              simp only [List.takeWhile, List.dropWhile, isPure, Nat.reduceBNe]
              repeat (go_big_quiet_step (fail))
              refine wpQuiet_nil ?_
              unfold wpMix
              have HB4 := hid (toStart HBW.out (below_undrew hb))
              have x2' := hid (x2.out.call (below_undrew hb))
              have x3' := hid (x3.out.call (below_undrew hb))
              clear q3 q3' p0 p1 p2 p3 p4 s0 s1 s2 s3 s4 hb x2 x3 h0 h1 h2 h3 h4 g0 g1 g2 g3 g4 hba hbb hxa hxb HDJ HMJ HMJ' HSJ HBW
              generalize cmpT a.items[j] b.items[j] = C at *
              by_cases hC : C = 0
              · subst hC
                have HN : Hid (cmpTL (decide (a.kind = 7)) (a.items.drop (j + 1)) (a.names.drop (j + 1)) (b.items.drop (j + 1)) (b.names.drop (j + 1)) = R) := hid (by rw [RR.out]; simp [ore])
                go_wp2_with fail
                go_roundw
                case rel => exact ⟨j + 1, rfl, by go_num, by omega, HN.out, HB4.out, x2'.out, x3'.out⟩
                case measure => simp [intOf]; omega
              · have HN : Hid (R = C) := hid (by rw [RR.out]; simp [ore, hC])
                go_wp2_with fail
                go_ret
                exact ⟨ret_i64 HN.out.symm, HB4.out⟩
          · obtain rfl : j = b.items.length := by omega
            have k3 := HI.out.2.2.1.c3
            have k3' := HI.out.2.2.2.c3
            have HE2 := hid (HI.out.1.symm.trans HE.out)
            have HBW := hid HI.out.2.1
            clear HI
            go_wp2_with (go_at_call 193; refine (cmpI_any _ _ _).mono ?_; rintro e w' ⟨rfl, rfl⟩)
            go_ret
            exact ⟨ret_i64 HE2.out.symm, HBW.out⟩
    · have HF : Hid (R = X) := hid (by rw [HR.out]; unfold ore; rw [if_neg hX])
      go_wp2_with fail
      go_ret
      exact ⟨ret_i64 HF.out.symm, HB2.out⟩
end Go.Proofs.YtpcdngpppjdgcaaGreat
