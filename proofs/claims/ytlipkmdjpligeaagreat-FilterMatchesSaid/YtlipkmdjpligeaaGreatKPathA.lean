/- Which steps are a path, call by call. -/
import Derived.Test.YtlipkmdjpligeaaGreatKValF
import Derived.Test.YtlipkmdjpligeaaGreatKMath
import Derived.Outline
import Derived.Deep.QuietTactic
import Derived.BigQuiet
namespace Go.Proofs.YtlipkmdjpligeaaGreat
open Lib (hid)
set_option linter.unusedVariables false
set_option linter.unusedSimpArgs false
open Go.RowKit

def mayP (ns : List ByteArray) : Bool := decide (1 ≤ ns.length) && decide (ns.length ≤ 8) && ns.all fun s => nameB s.data.toList

set_option maxHeartbeats 400000 in
theorem pmayC_any (s : ByteArray) (w : World) (hs : s.size ≤ 9223372036854775807) : Calls Tryz.prog 75 #[.string s] w fun e w' => e = .returned (.bool (!nameB s.data.toList)) ∧ w = w' := by
 have HS := hid hs
 clear hs
 go_enter Tryz.func75, Tryz.ntmps75
 go_wp2_with fail
 refine (name_any s _ HS.out).mono ?_
 rintro e u ⟨rfl, rfl⟩
 go_wp2_with fail
 go_ret
 exact ⟨rfl, rfl⟩

def BadAt (ns : List ByteArray) (w : World) (e : Ending) (w' : World) : Prop := ∃ i : Int, e = .returned (.int .i64 i) ∧ decide (0 ≤ i) = (!(ns.all fun s => nameB s.data.toList)) ∧ w = w'
theorem all_upto {ns : List ByteArray} (h : ∀ j (h : j < ns.length), nameB ns[j].data.toList = true) : (ns.all fun s => nameB s.data.toList) = true := by
 rw [List.all_eq_true]
 intro x hx
 obtain ⟨j, hj, rfl⟩ := List.mem_iff_getElem.1 hx
 exact h j hj
theorem all_not {ns : List ByteArray} {j : Nat} (hj : j < ns.length) (h : nameB ns[j].data.toList = false) : (ns.all fun s => nameB s.data.toList) = false := by
 rw [List.all_eq_false]
 exact ⟨ns[j], List.getElem_mem hj, by rw [h]; simp⟩

set_option maxHeartbeats 1000000 in
theorem indexF_any (A : Option Addr) (c : Nat) (ns : List ByteArray) (w : World) (S : Nat → Prop) (h : StrsAt w S A ns) (hn : ns.length ≤ 140737488351232) : Calls Tryz.prog 123 #[.slice A ns.length c, .func (.func 75) #[] #[]] w (BadAt ns w) := by
 have HS := hid h
 have HN := hid hn
 clear h
 go_enter Tryz.func123, Tryz.ntmps123
 go_wp2_with fail
 go_loopw [8] (fun i wr => ∃ k : Nat, i = .int .i64 k ∧ k ≤ ns.length ∧ wr = w ∧ Hid (∀ j (h : j < ns.length), j < k → nameB ns[j].data.toList = true)) (fun i _ => ns.length - (intOf i).toNat)
 case atStart => exact ⟨0, rfl, by omega, rfl, fun j _ h => absurd h (by omega)⟩
 case round =>
  obtain ⟨k, rfl, hk, rfl, HJ⟩ := hrel
  by_cases hlt : k < ns.length
  ·obtain ⟨p, o, rfl, -, hc⟩ := HS.out (by omega)
   have hck := (hc k hlt).1
   have Hz := hid (hc k hlt).2
   clear hc
   go_wp2_with fail
   refine (pmayC_any _ _ (by have := Hz.out; omega)).mono ?_
   rintro e u ⟨rfl, rfl⟩
   cases hb : nameB ns[k].data.toList
   ·go_wp2_with fail
    go_ret
    exact ⟨k, rfl, by rw [all_not hlt hb]; simp, rfl⟩
   ·have Hb := hid hb
    go_wp2_with fail
    go_roundw
    case rel => exact ⟨k + 1, by go_num, by omega, trivial, fun j h hjk => by
     by_cases e : j = k
     ·subst e; exact Hb.out
     ·exact HJ.out j h (by omega)⟩
    case measure => simp [intOf]; omega
  ·go_wp2_with fail
   go_ret
   exact ⟨-1, rfl, by rw [all_upto fun j h => HJ.out j h (by omega)]; rfl, rfl⟩
set_option maxHeartbeats 1000000 in
theorem contF_any (A : Option Addr) (c : Nat) (ns : List ByteArray) (w : World) (S : Nat → Prop) (h : StrsAt w S A ns) (hn : ns.length ≤ 140737488351232) : Calls Tryz.prog 74 #[.slice A ns.length c, .func (.func 75) #[] #[]] w fun e w' => e = .returned (.bool (!(ns.all fun s => nameB s.data.toList))) ∧ w = w' := by
 go_enter Tryz.func74, Tryz.ntmps74
 go_wp2_with fail
 refine (indexF_any A c ns _ S h hn).mono ?_
 rintro e u ⟨i, rfl, hi, rfl⟩
 have HI := hid hi
 clear hi
 go_wp2_with fail
 go_ret
 exact ⟨ret_bool HI.out, rfl⟩
set_option maxHeartbeats 1000000 in
theorem pmay_any (A : Option Addr) (c : Nat) (ns : List ByteArray) (w : World) (S : Nat → Prop) (h : StrsAt w S A ns) (hn : ns.length ≤ 140737488351232) : Calls Tryz.prog 35 #[.slice A ns.length c] w fun e w' => e = .returned (.bool (mayP ns)) ∧ w = w' := by
 by_cases h0 : ns.length = 0
 ·obtain rfl := List.eq_nil_of_length_eq_zero h0
  go_enter Tryz.func35, Tryz.ntmps35
  go_wp2_with fail
  go_ret
  exact ⟨ret_bool rfl, rfl⟩
 ·by_cases h8 : ns.length ≤ 8
  ·have e0 : ((ns.length : Int) == 0) = false := beq_eq_false_iff_ne.2 (by omega)
   have e8 : decide ((8 : Int) < (ns.length : Int)) = false := by simp; omega
   go_enter Tryz.func35, Tryz.ntmps35
   go_wp2_with fail
   refine (contF_any A c ns _ S h hn).mono ?_
   rintro e u ⟨rfl, rfl⟩
   go_wp2_with fail
   go_ret
   exact ⟨ret_bool (by unfold mayP; rw [decide_eq_true (by omega : 1 ≤ ns.length), decide_eq_true h8]; simp), rfl⟩
  ·have e8 : decide ((8 : Int) < (ns.length : Int)) = true := by simp; omega
   go_enter Tryz.func35, Tryz.ntmps35
   go_wp2_with fail
   go_ret
   exact ⟨ret_bool (by unfold mayP; simp [h8]), rfl⟩

set_option maxHeartbeats 1000000 in
theorem rpmay_any (A : Option Addr) (c : Nat) (ns : List ByteArray) (w : World) (S : Nat → Prop) (h : StrsAt w S A ns) (hn : ns.length ≤ 140737488351232) : Calls Tryz.prog 37 #[.slice A ns.length c] w fun e w' => e = .returned (.bool (mayP ns)) ∧ w = w' := by
 have HS := hid h
 have HN := hid hn
 clear h
 go_enter Tryz.func37, Tryz.ntmps37
 go_wp2_with fail
 go_loopw [3] (fun i wr => ∃ k : Nat, i = .int .i64 k ∧ k ≤ ns.length ∧ wr = w ∧ Hid (∀ j (h : j < ns.length), j < k → nameB ns[j].data.toList = true)) (fun i _ => ns.length - (intOf i).toNat)
 case atStart => exact ⟨0, rfl, by omega, rfl, fun j _ h => absurd h (by omega)⟩
 case round =>
  obtain ⟨k, rfl, hk, rfl, HJ⟩ := hrel
  by_cases hlt : k < ns.length
  ·obtain ⟨p, o, rfl, -, hc⟩ := HS.out (by omega)
   have hck := (hc k hlt).1
   have Hz := hid (hc k hlt).2
   clear hc
   go_wp2_with fail
   refine (rname_any _ _ (by have := Hz.out; omega)).mono ?_
   rintro e u ⟨rfl, rfl⟩
   cases hb : nameB ns[k].data.toList
   ·go_wp2_with fail
    go_ret
    exact ⟨ret_bool (by unfold mayP; rw [all_not hlt hb]; simp), rfl⟩
   ·have Hb := hid hb
    go_wp2_with fail
    go_roundw
    case rel => exact ⟨k + 1, by go_num, by omega, trivial, fun j h hjk => by
     by_cases e : j = k
     ·subst e; exact Hb.out
     ·exact HJ.out j h (by omega)⟩
    case measure => simp [intOf]; omega
  ·obtain rfl : k = ns.length := by omega
   clear hlt hk
   have HA := hid (all_upto fun j h => HJ.out j h h)
   go_wp2_with fail
   all_goals
    go_ret
    exact ⟨ret_bool (by unfold mayP; rw [HA.out, Bool.and_true, Bool.eq_iff_iff]; simp only [Bool.and_eq_true, decide_eq_true_eq, Bool.false_eq_true, false_iff]; omega), rfl⟩

/-! ### beginnings -/
def begP (a b : List ByteArray) : Bool := decide (a.length ≤ b.length) && decide (b.take a.length = a)
theorem begP_false {a b : List ByteArray} (j : Nat) (h : j < a.length) (hb : ∀ h' : j < b.length, a[j] ≠ b[j]) : begP a b = false := by
 unfold begP
 by_cases hl : a.length ≤ b.length
 ·have hj : j < b.length := by omega
  have : ¬ b.take a.length = a := fun he => hb hj (by
   have h1 : (b.take a.length)[j]? = a[j]? := by rw [he]
   rw [List.getElem?_take_of_lt h, List.getElem?_eq_getElem h, List.getElem?_eq_getElem hj] at h1
   injection h1 with h1; exact h1.symm)
  simp [this]
 ·simp [hl]
theorem begP_true {a b : List ByteArray} (hl : a.length ≤ b.length) (h : ∀ j (h : j < a.length) (h' : j < b.length), a[j] = b[j]) : begP a b = true := by
 unfold begP
 rw [decide_eq_true hl, Bool.true_and, decide_eq_true_eq]
 refine List.ext_getElem (by simp; omega) fun j h1 h2 => ?_
 rw [List.getElem_take]
 exact (h j h2 (by omega)).symm

theorem below_drewN {B : Nat} {a w : World} (h : Below B a w) (n : Nat) : Below B a (w.drewN n) := h.trans ⟨rfl, rfl, rfl, Nat.le_refl _, fun _ _ => rfl⟩
theorem str_beq (s t : ByteArray) : (s.toList == t.toList) = decide (s = t) := by
 rw [Bool.eq_iff_iff]; simp only [beq_iff_eq, decide_eq_true_eq]
 constructor
 ·intro h
  rw [ByteArray.toList_eq, ByteArray.toList_eq] at h
  cases s; cases t
  simp at h; rw [h]
 ·intro h; rw [h]

set_option maxHeartbeats 1000000 in
theorem rbegins_any (A B : Option Addr) (c d : Nat) (a b : List ByteArray) (w : World) (S T : Nat → Prop) (h : StrsAt w S A a) (k : StrsAt w T B b) (hS : ∀ b, S b → b < w.heap.size) (hT : ∀ b, T b → b < w.heap.size) (hn : a.length ≤ 140737488351232) (hm : b.length ≤ 140737488351232) :
  Calls Tryz.prog 43 #[.slice A a.length c, .slice B b.length d] w fun e w' => e = .returned (.bool (begP a b)) ∧ Below w.heap.size w w' := by
 have HS := hid h
 have HT := hid k
 have HN := hid hn
 clear h k
 go_enter Tryz.func43, Tryz.ntmps43
 go_wp2_with fail
 go_loopw [5] (fun i wr => ∃ k : Nat, i = .int .i64 k ∧ k ≤ a.length ∧ Hid (Below w.heap.size w wr) ∧ Hid (k ≤ b.length ∧ ∀ j (h : j < a.length) (h' : j < b.length), j < k → a[j] = b[j])) (fun i _ => a.length - (intOf i).toNat)
 case atStart => exact ⟨0, rfl, by omega, Below.refl _ _, by omega, fun j _ _ h => absurd h (by omega)⟩
 case round =>
  obtain ⟨k, rfl, hk, HB, HJ⟩ := hrel
  by_cases hlt : k < a.length
  ·by_cases hkb : k < b.length
   ·obtain ⟨p, o, rfl, hp, hc⟩ := HS.out (by omega)
    obtain ⟨q, r, rfl, hq, hd⟩ := HT.out (by omega)
    have hck := (HB.out.cell (p := ⟨p, o + k, none⟩) (hS p hp)).trans (hc k hlt).1
    have hdk := (HB.out.cell (p := ⟨q, r + k, none⟩) (hT q hq)).trans (hd k hkb).1
    clear hc hd
    have e1 : decide (b.length ≤ k) = false := by simp; omega
    by_cases he : a[k] = b[k]
    ·have e2 : (a[k].toList == b[k].toList) = true := by rw [str_beq]; exact decide_eq_true he
     have HE := hid he
     clear he
     go_wp2
     go_quiet (fail)
     go_wp2
     go_roundw
     case rel => exact ⟨k + 1, by go_num, by omega, below_drewN HB.out _, by omega, fun j h h' hjk => by
      by_cases e : j = k
      ·subst e; exact HE.out
      ·exact HJ.out.2 j h h' (by omega)⟩
     case measure => simp [intOf]; omega
    ·have e2 : (a[k].toList == b[k].toList) = false := by rw [str_beq]; exact decide_eq_false he
     have HE := hid he
     clear he
     go_wp2
     go_quiet (fail)
     go_wp2
     go_ret
     exact ⟨ret_bool (begP_false k hlt fun _ => HE.out).symm, below_drewN HB.out _⟩
   ·have e1 : decide (b.length ≤ k) = true := by simp; omega
    go_wp2
    go_quiet (fail)
    go_wp2
    go_ret
    exact ⟨ret_bool (begP_false k hlt fun h => absurd h hkb).symm, below_drewN HB.out _⟩
  ·obtain rfl : k = a.length := by omega
   clear hlt hk
   go_wp2_with fail
   go_ret
   exact ⟨ret_bool (begP_true HJ.out.1 fun j h h' => HJ.out.2 j h h' h).symm, HB.out⟩
set_option maxHeartbeats 1000000 in
theorem equal_any (A B : Option Addr) (c d n : Nat) (a b : List ByteArray) (w : World) (S T : Nat → Prop) (h : StrsAt w S A a) (k : StrsAt w T B b) (hS : ∀ b, S b → b < w.heap.size) (hT : ∀ b, T b → b < w.heap.size) (hn : a.length ≤ 140737488351232) (hab : a.length = b.length) (hnn : n = b.length) :
  Calls Tryz.prog 193 #[.slice A a.length c, .slice B n d] w fun e w' => e = .returned (.bool (decide (a = b))) ∧ Below w.heap.size w w' := by
 have HS := hid h
 have HT := hid k
 have HN := hid hn
 have HA := hid hab
 have HE := hid (hnn.trans hab.symm)
 obtain rfl : n = a.length := HE.out
 clear h k hab hnn HE
 go_enter Tryz.func193, Tryz.ntmps193
 go_wp2_with fail
 go_loopw [13] (fun i wr => ∃ k : Nat, i = .int .i64 k ∧ k ≤ a.length ∧ Hid (Below w.heap.size w wr) ∧ Hid (∀ j (h : j < a.length) (h' : j < b.length), j < k → a[j] = b[j])) (fun i _ => a.length - (intOf i).toNat)
 case atStart => exact ⟨0, rfl, by omega, Below.refl _ _, fun j _ _ h => absurd h (by omega)⟩
 case round =>
  obtain ⟨k, rfl, hk, HB, HJ⟩ := hrel
  by_cases hlt : k < a.length
  ·have hkb : k < b.length := by have := HA.out; omega
   obtain ⟨p, o, rfl, hp, hc⟩ := HS.out (by omega)
   obtain ⟨q, r, rfl, hq, hd⟩ := HT.out (by omega)
   have hck := (HB.out.cell (p := ⟨p, o + k, none⟩) (hS p hp)).trans (hc k hlt).1
   have hdk := (HB.out.cell (p := ⟨q, r + k, none⟩) (hT q hq)).trans (hd k hkb).1
   clear hc hd
   by_cases he : a[k] = b[k]
   ·have e2 : (a[k].toList == b[k].toList) = true := by rw [str_beq]; exact decide_eq_true he
    have HE := hid he
    clear he
    go_wp2
    go_quiet (fail)
    go_wp2
    go_roundw
    case rel => exact ⟨k + 1, by go_num, by omega, below_drewN HB.out _, fun j h h' hjk => by
     by_cases e : j = k
     ·subst e; exact HE.out
     ·exact HJ.out j h h' (by omega)⟩
    case measure => simp [intOf]; omega
   ·have e2 : (a[k].toList == b[k].toList) = false := by rw [str_beq]; exact decide_eq_false he
    have HE := hid he
    clear he
    go_wp2
    go_quiet (fail)
    go_wp2
    go_ret
    exact ⟨ret_bool (decide_eq_false fun h => HE.out (by subst h; rfl)).symm, below_drewN HB.out _⟩
  ·obtain rfl : k = a.length := by omega
   clear hlt hk
   go_wp2_with fail
   go_ret
   exact ⟨ret_bool (decide_eq_true (List.ext_getElem HA.out fun j h h' => HJ.out j h h' h)).symm, HB.out⟩

set_option maxHeartbeats 1000000 in
theorem begins_any (A B : Option Addr) (c d : Nat) (a b : List ByteArray) (w : World) (S T : Nat → Prop) (h : StrsAt w S A a) (k : StrsAt w T B b) (hS : ∀ b, S b → b < w.heap.size) (hT : ∀ b, T b → b < w.heap.size) (hn : a.length ≤ 140737488351232) (hm : b.length ≤ 140737488351232) (hd : b.length ≤ d) :
  Calls Tryz.prog 170 #[.slice A a.length c, .slice B b.length d] w fun e w' => e = .returned (.bool (begP a b)) ∧ Below w.heap.size w w' := by
 by_cases hl : a.length ≤ b.length
 ·have el : decide (a.length ≤ b.length) = true := by simpa using hl
  have ht : (b.take a.length).length = a.length := by simp; omega
  have HT := hid ht
  clear ht
  have HK := hid (k.take a.length)
  go_enter Tryz.func170, Tryz.ntmps170
  go_wp2_with fail
  refine (equal_any A B c d a.length a (b.take a.length) _ S T h HK.out hS hT hn HT.out.symm HT.out.symm).mono ?_
  rintro e w1 ⟨rfl, hb⟩
  have HB := hid hb
  clear hb
  go_wp2_with fail
  go_ret
  exact ⟨ret_bool (by unfold begP; rw [el, Bool.true_and]; exact decide_eq_decide.2 ⟨Eq.symm, Eq.symm⟩), HB.out⟩
 ·have el : decide (a.length ≤ b.length) = false := by simpa using hl
  go_enter Tryz.func170, Tryz.ntmps170
  go_wp2_with fail
  go_ret
  exact ⟨ret_bool (by unfold begP; rw [el]; rfl), Below.refl _ _⟩

set_option maxHeartbeats 1000000 in
theorem meet_any (A B : Option Addr) (c d : Nat) (a b : List ByteArray) (w : World) (S T : Nat → Prop) (h : StrsAt w S A a) (k : StrsAt w T B b) (hS : ∀ b, S b → b < w.heap.size) (hT : ∀ b, T b → b < w.heap.size) (hn : a.length ≤ 140737488351232) (hm : b.length ≤ 140737488351232) (hc : a.length ≤ c) (hd : b.length ≤ d) :
  Calls Tryz.prog 135 #[.slice A a.length c, .slice B b.length d] w fun e w' => e = .returned (.bool (begP a b || begP b a)) ∧ Below w.heap.size w w' := by
 have HS := hid h
 have HT := hid k
 clear h k
 go_enter Tryz.func135, Tryz.ntmps135
 go_wp2_with fail
 refine (begins_any A B c d a b _ S T HS.out HT.out hS hT hn hm hd).mono ?_
 rintro e w1 ⟨rfl, hb⟩
 have HB := hid hb
 clear hb
 cases hx : begP a b
 ·go_wp2_with fail
  refine (begins_any B A d c b a _ T S (HT.out.keep fun b hb => HB.out.block b (hT b hb)) (HS.out.keep fun b hb => HB.out.block b (hS b hb)) (fun b hb => Nat.lt_of_lt_of_le (hT b hb) HB.out.size) (fun b hb => Nat.lt_of_lt_of_le (hS b hb) HB.out.size) hm hn hc).mono ?_
  rintro e w2 ⟨rfl, hb⟩
  have HB2 := hid (grow_trans HB.out hb)
  clear hb
  go_wp2_with fail
  go_ret
  exact ⟨ret_bool (by rw [hx, Bool.false_or]), HB2.out⟩
 ·go_wp2_with fail
  go_ret
  exact ⟨ret_bool (by rw [hx, Bool.true_or]), HB.out⟩
def noneT (t : VT) : Bool := decide (t.kind = 0) && decide (t.num = 0) && decide (t.text.toList = []) && decide (t.items.length = 0) && decide (t.names.length = 0)
theorem noneT_iff (t : VT) : noneT t = true ↔ t = .mk 0 0 ⟨#[]⟩ [] [] := by
  obtain ⟨k, i, s, l, ns⟩ := t
  unfold noneT VT.kind VT.num VT.text VT.items VT.names
  simp only [Bool.and_eq_true, decide_eq_true_eq, VT.mk.injEq]
  constructor
  · rintro ⟨⟨⟨⟨h1, h2⟩, h3⟩, h4⟩, h5⟩
    refine ⟨h1, h2, ?_, List.eq_nil_of_length_eq_zero h4, List.eq_nil_of_length_eq_zero h5⟩
    rw [ByteArray.toList_eq] at h3
    obtain ⟨⟨x⟩⟩ := s
    simp at h3
    rw [h3]
  · rintro ⟨h1, h2, h3, h4, h5⟩
    subst h3 h4 h5
    exact ⟨⟨⟨⟨h1, h2⟩, by simp [ByteArray.toList_eq]⟩, rfl⟩, rfl⟩
def idN : ByteArray := ⟨#[95, 105, 100]⟩
def meetP (a b : List ByteArray) : Bool := begP a b || begP b a
def confL : List (List ByteArray) → List (List ByteArray) → Bool
  | _, [] => false
  | ahead, p :: r => (ahead.any fun q => meetP p q) || confL (ahead ++ [p]) r
def ore (x y : Int) : Int := if x = 0 then y else x
def cmpI (a b : Int) : Int := if a < b then -1 else if b < a then 1 else 0
def cmpB (x y : List UInt8) : Int := if Op.bytesLess x y = true then -1 else if x = y then 0 else 1
def Tri (x y z : Int) : Prop := x ≤ 0 → y ≤ 0 → z ≤ 0 ∧ (z < 0 ↔ x < 0 ∨ y < 0)

theorem ore_zero (x y : Int) : ore x y = 0 ↔ x = 0 ∧ y = 0 := by unfold ore; split <;> omega
theorem ore_tri {x y z x' y' z' : Int} (h : Tri x y z) (h' : x = 0 → y = 0 → Tri x' y' z') : Tri (ore x x') (ore y y') (ore z z') := by
 unfold Tri ore at *
 intro hx hy
 by_cases x0 : x = 0
 ·by_cases y0 : y = 0
  ·have h1 := h (by omega) (by omega)
   have z0 : z = 0 := by omega
   rw [if_pos x0] at hx ⊢; rw [if_pos y0] at hy ⊢; rw [if_pos z0]
   exact h' x0 y0 hx hy
  ·rw [if_neg y0] at hy ⊢
   have h1 := h (by omega) (by omega)
   have z0 : z ≠ 0 := by omega
   rw [if_neg z0, if_pos x0]
   rw [if_pos x0] at hx
   omega
 ·rw [if_neg x0] at hx ⊢
  by_cases y0 : y = 0
  ·have h1 := h (by omega) (by omega)
   have z0 : z ≠ 0 := by omega
   rw [if_pos y0] at hy ⊢; rw [if_neg z0]
   omega
  ·rw [if_neg y0] at hy ⊢
   have h1 := h (by omega) (by omega)
   have z0 : z ≠ 0 := by omega
   rw [if_neg z0]
   omega
theorem tri_zero : Tri 0 0 0 := by unfold Tri; omega

theorem cmpI_zero (a b : Int) : cmpI a b = 0 ↔ a = b := by unfold cmpI; split <;> first | omega | (split <;> omega)

theorem less_irrefl : ∀ x : List UInt8, Op.bytesLess x x = false
 | [] => rfl
 | a :: x => by simp [Op.bytesLess, less_irrefl x]
theorem less_total : ∀ x y : List UInt8, Op.bytesLess x y = true ∨ x = y ∨ Op.bytesLess y x = true
 | [], [] => by simp
 | [], b :: y => by simp [Op.bytesLess]
 | a :: x, [] => by simp [Op.bytesLess]
 | a :: x, b :: y => by
  simp only [Op.bytesLess, Bool.or_eq_true, Bool.and_eq_true, decide_eq_true_eq, beq_iff_eq, List.cons.injEq]
  rcases Nat.lt_trichotomy a.toNat b.toNat with h | h | h
  ·exact .inl (.inl (UInt8.lt_iff_toNat_lt.2 h))
  ·have e : a = b := UInt8.toNat_inj.1 h
   subst e
   rcases less_total x y with h | h | h
   ·exact .inl (.inr ⟨rfl, h⟩)
   ·exact .inr (.inl ⟨rfl, h⟩)
   ·exact .inr (.inr (.inr ⟨rfl, h⟩))
  ·exact .inr (.inr (.inl (UInt8.lt_iff_toNat_lt.2 h)))
theorem less_trans : ∀ x y z : List UInt8, Op.bytesLess x y = true → Op.bytesLess y z = true → Op.bytesLess x z = true
 | _, _, [], _, h => by rename_i y _; cases y <;> simp [Op.bytesLess] at h
 | _, [], c :: z, h, _ => by rename_i x _; cases x <;> simp [Op.bytesLess] at h
 | [], b :: y, c :: z, _, _ => by simp [Op.bytesLess]
 | a :: x, b :: y, c :: z, h, h' => by
  simp only [Op.bytesLess, Bool.or_eq_true, Bool.and_eq_true, decide_eq_true_eq, beq_iff_eq] at h h' ⊢
  rcases h with h | ⟨h, h1⟩
  ·rcases h' with h' | ⟨h', h1'⟩
   ·rw [UInt8.lt_iff_toNat_lt] at *; left; omega
   ·subst h'; exact .inl h
  ·subst h
   rcases h' with h' | ⟨h', h1'⟩
   ·exact .inl h'
   ·exact .inr ⟨h', less_trans x y z h1 h1'⟩
theorem less_asymm (x y : List UInt8) (h : Op.bytesLess x y = true) : Op.bytesLess y x = false := by
 rw [← Bool.not_eq_true]
 intro h2
 have := less_trans x y x h h2
 rw [less_irrefl] at this; cases this
theorem cmpB_neg (x y : List UInt8) : cmpB y x = -(cmpB x y) := by
 unfold cmpB
 rcases less_total x y with h | h | h
 ·have h2 := less_asymm x y h
  have hne : ¬ y = x := by rintro rfl; rw [less_irrefl] at h; cases h
  rw [if_neg (by rw [h2]; exact Bool.false_ne_true), if_neg hne, if_pos h]; rfl
 ·subst h
  rw [if_neg (by rw [less_irrefl]; exact Bool.false_ne_true), if_pos rfl]; rfl
 ·have h2 := less_asymm y x h
  have hne : ¬ x = y := by rintro rfl; rw [less_irrefl] at h; cases h
  rw [if_pos h, if_neg (by rw [h2]; exact Bool.false_ne_true), if_neg hne]
theorem cmpB_zero (x y : List UInt8) : cmpB x y = 0 ↔ x = y := by
 unfold cmpB
 constructor
 ·intro h
  by_cases h1 : Op.bytesLess x y = true
  ·rw [if_pos h1] at h; cases h
  ·rw [if_neg h1] at h
   by_cases h2 : x = y
   ·exact h2
   ·rw [if_neg h2] at h; cases h
 ·rintro rfl
  rw [if_neg (by rw [less_irrefl]; exact Bool.false_ne_true), if_pos rfl]
theorem cmpB_le (x y : List UInt8) : cmpB x y ≤ 0 ↔ Op.bytesLess x y = true ∨ x = y := by
 unfold cmpB
 by_cases h1 : Op.bytesLess x y = true
 ·rw [if_pos h1]; simp [h1]
 ·rw [if_neg h1]
  by_cases h2 : x = y
  ·rw [if_pos h2]; simp [h2]
  ·rw [if_neg h2]; simp [h1, h2]
theorem cmpB_lt (x y : List UInt8) : cmpB x y < 0 ↔ Op.bytesLess x y = true := by
 unfold cmpB
 by_cases h1 : Op.bytesLess x y = true
 ·rw [if_pos h1]; simp [h1]
 ·rw [if_neg h1]
  by_cases h2 : x = y
  ·rw [if_pos h2]; simp [h1]
  ·rw [if_neg h2]; simp [h1]
theorem cmpB_tri (a b c : List UInt8) : Tri (cmpB a b) (cmpB b c) (cmpB a c) := by
 unfold Tri
 rw [cmpB_le, cmpB_le, cmpB_le, cmpB_lt, cmpB_lt, cmpB_lt]
 rintro (h | rfl) (h' | rfl)
 ·have := less_trans _ _ _ h h'; simp [this, h]
 ·simp [h]
 ·simp [h']
 ·simp [less_irrefl]

mutual
def cmpT : VT → VT → Int
 | .mk k i s l ns, .mk k' i' s' l' ns' => ore (ore (cmpI k k') (ore (cmpI i i') (cmpB s.toList s'.toList))) (cmpTL (decide (k = 7)) l ns l' ns')
def cmpTL (doc : Bool) : List VT → List ByteArray → List VT → List ByteArray → Int
 | [], _, [], _ => 0
 | [], _, _ :: _, _ => -1
 | _ :: _, _, [], _ => 1
 | x :: l, ns, y :: l', ns' => ore (if doc then cmpB (ns.headD ⟨#[]⟩).toList (ns'.headD ⟨#[]⟩).toList else 0) (ore (cmpT x y) (cmpTL doc l ns.tail l' ns'.tail))
end

theorem ore_neg2 {x y x' y' : Int} (h : x' = -x) (h2 : x = 0 → y' = -y) : ore x' y' = -(ore x y) := by
 unfold ore
 by_cases h0 : x = 0
 ·rw [if_pos h0, if_pos (by omega), h2 h0]
 ·rw [if_neg h0, if_neg (by omega), h]
theorem cmpT_mk (k i : Int) (s : ByteArray) (l : List VT) (ns : List ByteArray) (k' i' : Int) (s' : ByteArray) (l' : List VT) (ns' : List ByteArray) :
  cmpT (.mk k i s l ns) (.mk k' i' s' l' ns') = ore (ore (cmpI k k') (ore (cmpI i i') (cmpB s.toList s'.toList))) (cmpTL (decide (k = 7)) l ns l' ns') := by
 conv => lhs; unfold cmpT
theorem toList_inj {a b : ByteArray} (h : a.toList = b.toList) : a = b := by rw [ByteArray.toList_eq, ByteArray.toList_eq] at h; exact data_inj h
theorem mayT_mk (k i : Int) (s : ByteArray) (l : List VT) (ns : List ByteArray) : mayT (.mk k i s l ns) = (fitsP k i s l.length ns && mayL l) := by conv => lhs; unfold mayT fitsT
theorem mayL_cons (x : VT) (l : List VT) : mayL (x :: l) = (mayT x && mayL l) := by conv => lhs; unfold mayL
theorem mayL_mem {x : VT} : ∀ {l : List VT}, mayL l = true → x ∈ l → mayT x = true
 | [], _, h => by cases h
 | t :: r, h, hx => by
  rw [mayL_cons, Bool.and_eq_true] at h
  rcases List.mem_cons.1 hx with rfl | hx
  ·exact h.1
  ·exact mayL_mem h.2 hx
theorem may_names {k i : Int} {s : ByteArray} {l : List VT} {ns : List ByteArray} (h : mayT (.mk k i s l ns) = true) : (k = 7 → ns.length = l.length) ∧ (k ≠ 7 → ns = []) ∧ mayL l = true := by
 rw [mayT_mk, Bool.and_eq_true] at h
 have h1 := h.1
 refine ⟨fun hk => ?_, fun hk => ?_, h.2⟩
 ·subst hk
  simp [fitsP] at h1
  exact h1.1.2
 ·unfold fitsP at h1
  by_cases k1 : k = 1
  ·simp [k1] at h1; exact h1.2.2
  by_cases k2 : k = 2
  ·simp [k2] at h1; exact h1.2.2
  by_cases k3 : k = 3
  ·simp [k3] at h1; exact h1.2.2
  by_cases k4 : k = 4 ∨ k = 5
  ·rw [if_neg k1, if_neg k2, if_neg k3, if_pos k4] at h1; simp at h1; exact h1.2.2
  by_cases k6 : k = 6
  ·simp [k6] at h1; exact h1.2
  simp [k1, k2, k3, k4, k6, hk] at h1
mutual
theorem cmpT_zero : ∀ a b : VT, mayT a = true → mayT b = true → (cmpT a b = 0 ↔ a = b)
 | .mk k i s l ns, .mk k' i' s' l' ns', ha, hb => by
  obtain ⟨a1, a2, a3⟩ := may_names ha
  obtain ⟨b1, b2, b3⟩ := may_names hb
  rw [cmpT_mk, ore_zero, ore_zero, ore_zero, cmpI_zero, cmpI_zero, cmpB_zero]
  constructor
  ·rintro ⟨⟨rfl, rfl, hs⟩, h⟩
   rw [toList_inj hs]
   by_cases h7 : k = 7
   ·rw [decide_eq_true h7] at h
    obtain ⟨rfl, hn⟩ := (cmpTL_zero true l l' ns ns' a3 b3 (fun _ => a1 h7) (fun _ => b1 h7)).1 h
    rw [hn rfl]
   ·rw [decide_eq_false h7] at h
    obtain ⟨rfl, _⟩ := (cmpTL_zero false l l' ns ns' a3 b3 (fun h => by cases h) (fun h => by cases h)).1 h
    rw [a2 h7, b2 h7]
  ·intro h
   injection h with h1 h2 h3 h4 h5
   subst h1 h2 h3 h4 h5
   exact ⟨⟨rfl, rfl, rfl⟩, (cmpTL_zero _ l l ns ns a3 a3 (fun h => a1 (of_decide_eq_true h)) (fun h => a1 (of_decide_eq_true h))).2 ⟨rfl, fun _ => rfl⟩⟩
theorem cmpTL_zero (d : Bool) : ∀ (l l' : List VT) (ns ns' : List ByteArray), mayL l = true → mayL l' = true → (d = true → ns.length = l.length) → (d = true → ns'.length = l'.length) → (cmpTL d l ns l' ns' = 0 ↔ l = l' ∧ (d = true → ns = ns'))
 | [], [], ns, ns', _, _, hn, hn' => by
  unfold cmpTL
  simp only [true_and, true_iff]
  intro hd
  rw [List.eq_nil_of_length_eq_zero (hn hd), List.eq_nil_of_length_eq_zero (hn' hd)]
 | [], y :: l', ns, ns', _, _, _, _ => by unfold cmpTL; simp
 | x :: l, [], ns, ns', _, _, _, _ => by unfold cmpTL; simp
 | x :: l, y :: l', ns, ns', ha, hb, hn, hn' => by
  rw [mayL_cons, Bool.and_eq_true] at ha hb
  conv => lhs; unfold cmpTL
  rw [ore_zero, ore_zero, cmpT_zero x y ha.1 hb.1, cmpTL_zero d l l' _ _ ha.2 hb.2 (fun h => by have := hn h; simp at this ⊢; omega) (fun h => by have := hn' h; simp at this ⊢; omega)]
  constructor
  ·rintro ⟨h1, rfl, rfl, h2⟩
   refine ⟨rfl, fun hd => ?_⟩
   rw [if_pos hd, cmpB_zero] at h1
   have hl := hn hd
   have hl' := hn' hd
   rcases ns with _ | ⟨n, ns⟩
   ·cases hl
   rcases ns' with _ | ⟨n', ns'⟩
   ·cases hl'
   have := h2 hd
   simp only [List.tail_cons] at this
   simp only [List.headD_cons] at h1
   rw [toList_inj h1, this]
  ·rintro ⟨h, h2⟩
   injection h with h3 h4
   subst h3 h4
   refine ⟨?_, rfl, rfl, fun hd => by rw [h2 hd]⟩
   cases d
   ·rfl
   ·rw [h2 rfl]; exact (cmpB_zero _ _).2 rfl
end
set_option maxHeartbeats 400000 in
theorem nanI_any (x : Int) (w : World) : Calls Tryz.prog 236 #[.int .i64 x] w fun e w' => e = .returned (.bool false) ∧ w = w' := by
 go_enter Tryz.func236, Tryz.ntmps236
 go_wp2
 go_ret
 exact ⟨rfl, rfl⟩
set_option maxHeartbeats 400000 in
theorem nanS_any (x : ByteArray) (w : World) : Calls Tryz.prog 227 #[.string x] w fun e w' => e = .returned (.bool false) ∧ w = w' := by
 go_enter Tryz.func227, Tryz.ntmps227
 go_wp2
 go_ret
 exact ⟨rfl, rfl⟩
set_option maxHeartbeats 400000 in
theorem cmpI_any (a b : Int) (w : World) : Calls Tryz.prog 216 #[.int .i64 a, .int .i64 b] w fun e w' => e = .returned (.int .i64 (cmpI a b)) ∧ w = w' := by
 have e1 : a < b → cmpI a b = -1 := fun h => by unfold cmpI; rw [if_pos h]
 have e2 : ¬ a < b → b < a → cmpI a b = 1 := fun h h2 => by unfold cmpI; rw [if_neg h, if_pos h2]
 have e3 : ¬ a < b → ¬ b < a → cmpI a b = 0 := fun h h2 => by unfold cmpI; rw [if_neg h, if_neg h2]
 generalize cmpI a b = R at *
 have E1 := hid e1
 have E2 := hid e2
 have E3 := hid e3
 clear e1 e2 e3
 by_cases h1 : a < b
 ·go_enter Tryz.func216, Tryz.ntmps216
  go_wp2_with (go_at_call 236; refine (nanI_any _ _).mono ?_; rintro e w' ⟨rfl, rfl⟩)
  go_ret
  exact ⟨ret_i64 (E1.out h1).symm, rfl⟩
 ·by_cases h2 : b < a
  ·go_enter Tryz.func216, Tryz.ntmps216
   go_wp2_with (go_at_call 236; refine (nanI_any _ _).mono ?_; rintro e w' ⟨rfl, rfl⟩)
   go_ret
   exact ⟨ret_i64 (E2.out h1 h2).symm, rfl⟩
  ·go_enter Tryz.func216, Tryz.ntmps216
   go_wp2_with (go_at_call 236; refine (nanI_any _ _).mono ?_; rintro e w' ⟨rfl, rfl⟩)
   go_ret
   exact ⟨ret_i64 (E3.out h1 h2).symm, rfl⟩
set_option maxHeartbeats 400000 in
theorem cmpS_any (a b : ByteArray) (w : World) : Calls Tryz.prog 207 #[.string a, .string b] w fun e w' => e = .returned (.int .i64 (cmpB a.toList b.toList)) ∧ w = w' := by
 have e1 : Op.bytesLess a.toList b.toList = true → cmpB a.toList b.toList = -1 := fun h => by unfold cmpB; rw [if_pos h]
 have e2 : Op.bytesLess a.toList b.toList = false → (!a.toList == b.toList) = true → cmpB a.toList b.toList = 1 := fun h h2 => by unfold cmpB; rw [if_neg (by rw [h]; exact Bool.false_ne_true), if_neg (by simpa using h2)]
 have e3 : Op.bytesLess a.toList b.toList = false → (!a.toList == b.toList) = false → cmpB a.toList b.toList = 0 := fun h h2 => by unfold cmpB; rw [if_neg (by rw [h]; exact Bool.false_ne_true), if_pos (by simpa using h2)]
 generalize cmpB a.toList b.toList = R at *
 have E1 := hid e1
 have E2 := hid e2
 have E3 := hid e3
 clear e1 e2 e3
 go_enter Tryz.func207, Tryz.ntmps207
 go_wp2_with (go_at_call 227; refine (nanS_any _ _).mono ?_; rintro e w' ⟨rfl, rfl⟩)
 ·go_ret
  exact ⟨ret_i64 (E1.out (by assumption)).symm, rfl⟩
 ·go_ret
  exact ⟨ret_i64 (E2.out (by assumption) (by assumption)).symm, rfl⟩
 ·go_ret
  exact ⟨ret_i64 (E3.out (by assumption) (by assumption)).symm, rfl⟩

set_option maxHeartbeats 400000 in
theorem or3_any (b : Nat) (c : Nat) (x y z : Int) (w : World) (h0 : w.cell? ⟨b, 0, none⟩ = some (.int .i64 x)) (h1 : w.cell? ⟨b, 1, none⟩ = some (.int .i64 y)) (h2 : w.cell? ⟨b, 2, none⟩ = some (.int .i64 z)) :
  Calls Tryz.prog 215 #[.slice (some ⟨b, 0, none⟩) 3 c] w fun e w' => e = .returned (.int .i64 (ore x (ore y z))) ∧ w = w' := by
 have H0 := hid h0
 have H1 := hid h1
 have H2 := hid h2
 have HE : Hid (∀ R, R = ore x (ore y z) → (x ≠ 0 → R = x) ∧ (x = 0 → y ≠ 0 → R = y) ∧ (x = 0 → y = 0 → R = z)) := by
  rintro R rfl
  unfold ore
  refine ⟨fun h => by rw [if_neg h], fun h h' => by rw [if_pos h, if_neg h'], fun h h' => by rw [if_pos h, if_pos h']⟩
 obtain ⟨R, hR⟩ : ∃ R, R = ore x (ore y z) := ⟨_, rfl⟩
 rw [← hR]
 have HF := hid (HE.out R hR)
 clear HE hR h0 h1 h2
 go_enter Tryz.func215, Tryz.ntmps215
 go_wp2_with fail
 go_loopw [8] (fun i wr => ∃ k : Nat, i = .int .i64 k ∧ k ≤ 3 ∧ wr = w ∧ (0 < k → x = 0) ∧ (1 < k → y = 0) ∧ (2 < k → z = 0)) (fun i _ => 3 - (intOf i).toNat)
 case atStart => exact ⟨0, rfl, by omega, rfl, fun h => absurd h (by omega), fun h => absurd h (by omega), fun h => absurd h (by omega)⟩
 case round =>
  obtain ⟨k, rfl, hk, rfl, k1, k2, k3⟩ := hrel
  obtain rfl | rfl | rfl | rfl : k = 0 ∨ k = 1 ∨ k = 2 ∨ k = 3 := by omega
  ·have g0 := H0.out
   by_cases hx : x = 0
   ·go_wp2_with fail
    go_roundw
    case rel => exact ⟨1, rfl, by omega, trivial, fun _ => hx, fun h => absurd h (by omega), fun h => absurd h (by omega)⟩
    case measure => simp [intOf]
   ·go_wp2_with fail
    go_ret
    exact ⟨ret_i64 (HF.out.1 hx).symm, rfl⟩
  ·have g0 := H1.out
   have hx := k1 (by omega)
   by_cases hy : y = 0
   ·go_wp2_with fail
    go_roundw
    case rel => exact ⟨2, rfl, by omega, trivial, fun _ => hx, fun _ => hy, fun h => absurd h (by omega)⟩
    case measure => simp [intOf]
   ·go_wp2_with fail
    go_ret
    exact ⟨ret_i64 (HF.out.2.1 hx hy).symm, rfl⟩
  ·have g0 := H2.out
   have hx := k1 (by omega)
   have hy := k2 (by omega)
   by_cases hz : z = 0
   ·go_wp2_with fail
    go_roundw
    case rel => exact ⟨3, rfl, by omega, trivial, fun _ => hx, fun _ => hy, fun _ => hz⟩
    case measure => simp [intOf]
   ·go_wp2_with fail
    go_ret
    exact ⟨ret_i64 (HF.out.2.2 hx hy).symm, rfl⟩
  ·have hx := k1 (by omega)
   have hy := k2 (by omega)
   have hz := k3 (by omega)
   go_wp2_with fail
   go_ret
   exact ⟨ret_i64 (by rw [HF.out.2.2 hx hy, hz]), rfl⟩
end Go.Proofs.YtlipkmdjpligeaaGreat
