/- Which steps are a path, call by call. -/
import Derived.Test.YtipiplnhbecjeaaKMath
import Derived.Outline
import Derived.Deep.QuietTactic
import Derived.BigQuiet
namespace Go.Proofs.Ytipiplnhbecjeaa
set_option linter.unusedVariables false
set_option linter.unusedSimpArgs false
open Go.RowKit

/-- Are the steps a path? -/
def mayP (ns : List ByteArray) : Bool := decide (1 ≤ ns.length) && decide (ns.length ≤ 8) && ns.all fun s => nameB s.data.toList

set_option maxHeartbeats 400000 in
theorem pmayC_any (s : ByteArray) (w : World) (hs : s.size ≤ 9223372036854775807) : Calls Try.prog 55 #[.string s] w fun e w' => e = .returned (.bool (!nameB s.data.toList)) ∧ w = w' := by
  have HS := Lib.hid hs
  clear hs
  go_enter Try.func55, Try.ntmps55
  go_wp2_with fail
  refine (name_any s _ HS.out).mono ?_
  rintro e u ⟨rfl, rfl⟩
  go_wp2_with fail
  go_ret
  exact ⟨rfl, rfl⟩

/-- The first step that is no name: below 0, if there is none. -/
def BadAt (ns : List ByteArray) (w : World) (e : Ending) (w' : World) : Prop := ∃ i : Int, e = .returned (.int .i64 i) ∧ decide (0 ≤ i) = (!(ns.all fun s => nameB s.data.toList)) ∧ w = w'
theorem all_upto {ns : List ByteArray} (h : ∀ j (h : j < ns.length), nameB ns[j].data.toList = true) : (ns.all fun s => nameB s.data.toList) = true := by
  rw [List.all_eq_true]
  intro x hx
  obtain ⟨j, hj, rfl⟩ := List.mem_iff_getElem.1 hx
  exact h j hj
theorem all_not {ns : List ByteArray} {j : Nat} (hj : j < ns.length) (h : nameB ns[j].data.toList = false) : (ns.all fun s => nameB s.data.toList) = false := by
  rw [List.all_eq_false]
  exact ⟨ns[j], List.getElem_mem hj, by rw [h]; simp⟩

set_option maxHeartbeats 1000000 in
theorem indexF_any (A : Option Addr) (c : Nat) (ns : List ByteArray) (w : World) (S : Nat → Prop) (h : StrsAt w S A ns) (hn : ns.length ≤ 140737488351232) : Calls Try.prog 77 #[.slice A ns.length c, .func (.func 55) #[] #[]] w (BadAt ns w) := by
  have HS := Lib.hid h
  have HN := Lib.hid hn
  clear h
  go_enter Try.func77, Try.ntmps77
  go_wp2_with fail
  go_loopw [8] (fun i wr => ∃ k : Nat, i = .int .i64 k ∧ k ≤ ns.length ∧ wr = w ∧ Hid (∀ j (h : j < ns.length), j < k → nameB ns[j].data.toList = true)) (fun i _ => ns.length - (intOf i).toNat)
  case atStart => exact ⟨0, rfl, by omega, rfl, fun j _ h => absurd h (by omega)⟩
  case round =>
    obtain ⟨k, rfl, hk, rfl, HJ⟩ := hrel
    by_cases hlt : k < ns.length
    · obtain ⟨p, o, rfl, -, hc⟩ := HS.out (by omega)
      have hck := (hc k hlt).1
      have Hz := Lib.hid (hc k hlt).2
      clear hc
      go_wp2_with fail
      refine (pmayC_any _ _ (by have := Hz.out; omega)).mono ?_
      rintro e u ⟨rfl, rfl⟩
      cases hb : nameB ns[k].data.toList
      · go_wp2_with fail
        go_ret
        exact ⟨k, rfl, by rw [all_not hlt hb]; simp, rfl⟩
      · have Hb := Lib.hid hb
        go_wp2_with fail
        go_roundw
        case rel => exact ⟨k + 1, by go_num, by omega, trivial, fun j h hjk => by
          by_cases e : j = k
          · subst e; exact Hb.out
          · exact HJ.out j h (by omega)⟩
        case measure => simp [intOf]; omega
    · go_wp2_with fail
      go_ret
      exact ⟨-1, rfl, by rw [all_upto fun j h => HJ.out j h (by omega)]; rfl, rfl⟩
set_option maxHeartbeats 1000000 in
theorem contF_any (A : Option Addr) (c : Nat) (ns : List ByteArray) (w : World) (S : Nat → Prop) (h : StrsAt w S A ns) (hn : ns.length ≤ 140737488351232) : Calls Try.prog 54 #[.slice A ns.length c, .func (.func 55) #[] #[]] w fun e w' => e = .returned (.bool (!(ns.all fun s => nameB s.data.toList))) ∧ w = w' := by
  go_enter Try.func54, Try.ntmps54
  go_wp2_with fail
  refine (indexF_any A c ns _ S h hn).mono ?_
  rintro e u ⟨i, rfl, hi, rfl⟩
  have HI := Lib.hid hi
  clear hi
  go_wp2_with fail
  go_ret
  exact ⟨ret_bool HI.out, rfl⟩
set_option maxHeartbeats 1000000 in
theorem pmay_any (A : Option Addr) (c : Nat) (ns : List ByteArray) (w : World) (S : Nat → Prop) (h : StrsAt w S A ns) (hn : ns.length ≤ 140737488351232) : Calls Try.prog 33 #[.slice A ns.length c] w fun e w' => e = .returned (.bool (mayP ns)) ∧ w = w' := by
  by_cases h0 : ns.length = 0
  · obtain rfl := List.eq_nil_of_length_eq_zero h0
    go_enter Try.func33, Try.ntmps33
    go_wp2_with fail
    go_ret
    exact ⟨ret_bool rfl, rfl⟩
  · by_cases h8 : ns.length ≤ 8
    · have e0 : ((ns.length : Int) == 0) = false := beq_eq_false_iff_ne.2 (by omega)
      have e8 : decide ((8 : Int) < (ns.length : Int)) = false := by simp; omega
      go_enter Try.func33, Try.ntmps33
      go_wp2_with fail
      refine (contF_any A c ns _ S h hn).mono ?_
      rintro e u ⟨rfl, rfl⟩
      go_wp2_with fail
      go_ret
      exact ⟨ret_bool (by unfold mayP; rw [decide_eq_true (by omega : 1 ≤ ns.length), decide_eq_true h8]; simp), rfl⟩
    · have e8 : decide ((8 : Int) < (ns.length : Int)) = true := by simp; omega
      go_enter Try.func33, Try.ntmps33
      go_wp2_with fail
      go_ret
      exact ⟨ret_bool (by unfold mayP; simp [h8]), rfl⟩

set_option maxHeartbeats 1000000 in
theorem rpmay_any (A : Option Addr) (c : Nat) (ns : List ByteArray) (w : World) (S : Nat → Prop) (h : StrsAt w S A ns) (hn : ns.length ≤ 140737488351232) : Calls Try.prog 6 #[.slice A ns.length c] w fun e w' => e = .returned (.bool (mayP ns)) ∧ w = w' := by
  have HS := Lib.hid h
  have HN := Lib.hid hn
  clear h
  go_enter Try.func6, Try.ntmps6
  go_wp2_with fail
  go_loopw [3] (fun i wr => ∃ k : Nat, i = .int .i64 k ∧ k ≤ ns.length ∧ wr = w ∧ Hid (∀ j (h : j < ns.length), j < k → nameB ns[j].data.toList = true)) (fun i _ => ns.length - (intOf i).toNat)
  case atStart => exact ⟨0, rfl, by omega, rfl, fun j _ h => absurd h (by omega)⟩
  case round =>
    obtain ⟨k, rfl, hk, rfl, HJ⟩ := hrel
    by_cases hlt : k < ns.length
    · obtain ⟨p, o, rfl, -, hc⟩ := HS.out (by omega)
      have hck := (hc k hlt).1
      have Hz := Lib.hid (hc k hlt).2
      clear hc
      go_wp2_with fail
      refine (rname_any _ _ (by have := Hz.out; omega)).mono ?_
      rintro e u ⟨rfl, rfl⟩
      cases hb : nameB ns[k].data.toList
      · go_wp2_with fail
        go_ret
        exact ⟨ret_bool (by unfold mayP; rw [all_not hlt hb]; simp), rfl⟩
      · have Hb := Lib.hid hb
        go_wp2_with fail
        go_roundw
        case rel => exact ⟨k + 1, by go_num, by omega, trivial, fun j h hjk => by
          by_cases e : j = k
          · subst e; exact Hb.out
          · exact HJ.out j h (by omega)⟩
        case measure => simp [intOf]; omega
    · obtain rfl : k = ns.length := by omega
      clear hlt hk
      have HA := Lib.hid (all_upto fun j h => HJ.out j h h)
      go_wp2_with fail
      all_goals
        go_ret
        exact ⟨ret_bool (by unfold mayP; rw [HA.out, Bool.and_true, Bool.eq_iff_iff]; simp only [Bool.and_eq_true, decide_eq_true_eq, Bool.false_eq_true, false_iff]; omega), rfl⟩

/-! ### beginnings -/
/-- Has b the steps of a ahead? -/
def begP (a b : List ByteArray) : Bool := decide (a.length ≤ b.length) && decide (b.take a.length = a)
theorem begP_false {a b : List ByteArray} (j : Nat) (h : j < a.length) (hb : ∀ h' : j < b.length, a[j] ≠ b[j]) : begP a b = false := by
  unfold begP
  by_cases hl : a.length ≤ b.length
  · have hj : j < b.length := by omega
    have : ¬ b.take a.length = a := fun he => hb hj (by
      have h1 : (b.take a.length)[j]? = a[j]? := by rw [he]
      rw [List.getElem?_take_of_lt h, List.getElem?_eq_getElem h, List.getElem?_eq_getElem hj] at h1
      injection h1 with h1; exact h1.symm)
    simp [this]
  · simp [hl]
theorem begP_true {a b : List ByteArray} (hl : a.length ≤ b.length) (h : ∀ j (h : j < a.length) (h' : j < b.length), a[j] = b[j]) : begP a b = true := by
  unfold begP
  rw [decide_eq_true hl, Bool.true_and, decide_eq_true_eq]
  refine List.ext_getElem (by simp; omega) fun j h1 h2 => ?_
  rw [List.getElem_take]
  exact (h j h2 (by omega)).symm

theorem below_drewN {B : Nat} {a w : World} (h : Below B a w) (n : Nat) : Below B a (w.drewN n) := h.trans ⟨rfl, rfl, rfl, Nat.le_refl _, fun _ _ => rfl⟩
theorem str_beq (s t : ByteArray) : (s.toList == t.toList) = decide (s = t) := by
  rw [Bool.eq_iff_iff]; simp only [beq_iff_eq, decide_eq_true_eq]
  constructor
  · intro h
    rw [ByteArray.toList_eq, ByteArray.toList_eq] at h
    cases s; cases t
    simp at h; rw [h]
  · intro h; rw [h]

set_option maxHeartbeats 1000000 in
theorem rbegins_any (A B : Option Addr) (c d : Nat) (a b : List ByteArray) (w : World) (S T : Nat → Prop) (h : StrsAt w S A a) (k : StrsAt w T B b) (hS : ∀ b, S b → b < w.heap.size) (hT : ∀ b, T b → b < w.heap.size) (hn : a.length ≤ 140737488351232) (hm : b.length ≤ 140737488351232) :
    Calls Try.prog 50 #[.slice A a.length c, .slice B b.length d] w fun e w' => e = .returned (.bool (begP a b)) ∧ Below w.heap.size w w' := by
  have HS := Lib.hid h
  have HT := Lib.hid k
  have HN := Lib.hid hn
  clear h k
  go_enter Try.func50, Try.ntmps50
  go_wp2_with fail
  go_loopw [5] (fun i wr => ∃ k : Nat, i = .int .i64 k ∧ k ≤ a.length ∧ Hid (Below w.heap.size w wr) ∧ Hid (k ≤ b.length ∧ ∀ j (h : j < a.length) (h' : j < b.length), j < k → a[j] = b[j])) (fun i _ => a.length - (intOf i).toNat)
  case atStart => exact ⟨0, rfl, by omega, Below.refl _ _, by omega, fun j _ _ h => absurd h (by omega)⟩
  case round =>
    obtain ⟨k, rfl, hk, HB, HJ⟩ := hrel
    by_cases hlt : k < a.length
    · by_cases hkb : k < b.length
      · obtain ⟨p, o, rfl, hp, hc⟩ := HS.out (by omega)
        obtain ⟨q, r, rfl, hq, hd⟩ := HT.out (by omega)
        have hck := (HB.out.cell (p := ⟨p, o + k, none⟩) (hS p hp)).trans (hc k hlt).1
        have hdk := (HB.out.cell (p := ⟨q, r + k, none⟩) (hT q hq)).trans (hd k hkb).1
        clear hc hd
        have e1 : decide (b.length ≤ k) = false := by simp; omega
        by_cases he : a[k] = b[k]
        · have e2 : (a[k].toList == b[k].toList) = true := by rw [str_beq]; exact decide_eq_true he
          have HE := Lib.hid he
          clear he
          go_wp2
          go_quiet (fail)
          go_wp2
          go_roundw
          case rel => exact ⟨k + 1, by go_num, by omega, below_drewN HB.out _, by omega, fun j h h' hjk => by
            by_cases e : j = k
            · subst e; exact HE.out
            · exact HJ.out.2 j h h' (by omega)⟩
          case measure => simp [intOf]; omega
        · have e2 : (a[k].toList == b[k].toList) = false := by rw [str_beq]; exact decide_eq_false he
          have HE := Lib.hid he
          clear he
          go_wp2
          go_quiet (fail)
          go_wp2
          go_ret
          exact ⟨ret_bool (begP_false k hlt fun _ => HE.out).symm, below_drewN HB.out _⟩
      · have e1 : decide (b.length ≤ k) = true := by simp; omega
        go_wp2
        go_quiet (fail)
        go_wp2
        go_ret
        exact ⟨ret_bool (begP_false k hlt fun h => absurd h hkb).symm, below_drewN HB.out _⟩
    · obtain rfl : k = a.length := by omega
      clear hlt hk
      go_wp2_with fail
      go_ret
      exact ⟨ret_bool (begP_true HJ.out.1 fun j h h' => HJ.out.2 j h h' h).symm, HB.out⟩
end Go.Proofs.Ytipiplnhbecjeaa
