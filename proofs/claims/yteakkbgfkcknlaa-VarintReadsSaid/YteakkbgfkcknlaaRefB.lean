/- The document's own source: bytes, numbers, counts and texts. -/
import Derived.Test.YteakkbgfkcknlaaRefA
namespace Go.Proofs.Yteakkbgfkcknlaa
open Go.RowKit

/-- What of a source's block is wanted in a walk. -/
structure RCells (w : World) (g : Nat) (v : Value) (b : Bool) : Prop where
  c0 : w.cell? ⟨g, 0, none⟩ = some v
  c1 : w.cell? ⟨g, 1, none⟩ = some (.bool b)
  f0 : w.frozen? ⟨g, 0, none⟩ = false
  f1 : w.frozen? ⟨g, 1, none⟩ = false
theorem rcells {w : World} {g : Nat} {v : Value} {b : Bool} (h : w.heap[g]? = some (.cells #[v, .bool b] 35 (0, 0))) : RCells w g v b :=
  ⟨Go.Joins.cell_of_block h 0, Go.Joins.cell_of_block h 1, Go.Joins.unfrozen_of_block h 0, Go.Joins.unfrozen_of_block h 1⟩

set_option maxHeartbeats 1000000 in
set_option maxRecDepth 1000000 in
theorem rsbyte_any (g B : Nat) (st : Option (List UInt8)) (w : World) (h : RS w g B st) (hg : B ≤ g) :
    Calls Try.prog 22 #[.pointer (some ⟨g, 0, none⟩)] w fun e w' => e = .returned (.int .i64 (rdByte st).1) ∧ RS w' g B (rdByte st).2 ∧ Only w w' g := by
  rcases st with _ | l
  · obtain ⟨Au, nu, cu, hu⟩ := h
    obtain ⟨c0, c1, f0, f1⟩ := rcells hu
    have HU := Lib.hid hu
    clear hu
    go_enter Try.func22, Try.ntmps22
    go_wp2
    go_ret
    exact ⟨rfl, ⟨_, _, _, set_rs1 HU.out⟩, (Only.refl w g).set _ _⟩
  · obtain ⟨v, hv, hrd⟩ := h
    obtain ⟨c0, c1, f0, f1⟩ := rcells hv
    have HV := Lib.hid hv
    have HR := Lib.hid hrd
    obtain ⟨A, cap, rfl, hcap, hmax, hA⟩ := hrd
    clear hv
    rcases l with _ | ⟨b0, r⟩
    · clear hA
      go_enter Try.func22, Try.ntmps22
      go_wp2
      go_ret
      exact ⟨rfl, ⟨_, _, _, set_rs1 HV.out⟩, (Only.refl w g).set _ _⟩
    · obtain ⟨b, off, rfl, hbB, hcell⟩ := hA (by simp)
      have hc : w.cell? ⟨b, off, none⟩ = some (.int .u8 (b0.toNat : Int)) := hcell 0 (by simp)
      have hb256 : (b0.toNat : Int) < 256 := by have := UInt8.toNat_lt b0; omega
      have HCut := Lib.hid (HR.out.cut (k := 1) (by simp))
      have hmax1 := hmax.1
      simp only [List.length_cons] at hcap
      clear hcell hA hmax
      by_cases hck : cap = 1
      · subst hck
        have hl0 : Hid (r.length = 0) := by show r.length = 0; omega
        go_enter Try.func22, Try.ntmps22
        go_wp2
        go_ret
        exact ⟨rfl, ⟨_, set_rs0 HV.out, (by have h1 := HCut.out; have h2 := hl0.out; simpa [h2] using h1 : Rd w B _ r).keep ((Below.refl _ _).setCell hg _)⟩, (Only.refl w g).set _ _⟩
      · go_enter Try.func22, Try.ntmps22
        go_wp2
        go_ret
        exact ⟨rfl, ⟨_, set_rs0 HV.out, (by have h1 := HCut.out; simpa [hck] using h1 : Rd w B _ r).keep ((Below.refl _ _).setCell hg _)⟩, (Only.refl w g).set _ _⟩

theorem zag_even (n : Nat) (h : n % 2 = 0) : zag n = ((n / 2 : Nat) : Int) := by unfold zag; rw [if_neg (by omega)]
theorem zag_odd (n : Nat) (h : ¬ n % 2 = 0) : zag n = -((n / 2 : Nat) : Int) - 1 := by unfold zag; rw [if_pos (by omega)]
set_option maxHeartbeats 1000000 in
set_option maxRecDepth 1000000 in
theorem rsint_any (g B : Nat) (st : Option (List UInt8)) (w : World) (h : RS w g B st) (hg : B ≤ g) :
    Calls Try.prog 24 #[.pointer (some ⟨g, 0, none⟩)] w fun e w' => e = .returned (.int .i64 (rdInt st).1) ∧ RS w' g B (rdInt st).2 ∧ Only w w' g := by
  rcases st with _ | l
  · obtain ⟨Au, nu, cu, hu⟩ := h
    obtain ⟨c0, c1, f0, f1⟩ := rcells hu
    have HU := Lib.hid hu
    clear hu
    go_enter Try.func24, Try.ntmps24
    go_wp2_with fail
    go_ret
    exact ⟨rfl, ⟨_, _, _, HU.out⟩, Only.refl w g⟩
  · have H := Lib.hid h
    obtain ⟨v, hv, hrd⟩ := h
    obtain ⟨c0, c1, f0, f1⟩ := rcells hv
    obtain ⟨x, st', hr⟩ : ∃ x st', rdN 18446744073709551615 (some l) = (x, st') := ⟨_, _, rfl⟩
    have hx := rdN_lt 18446744073709551615 (some l)
    rw [hr] at hx
    have HI : Hid (rdInt (some l) = (zag x, st')) := by show rdInt (some l) = (zag x, st'); unfold rdInt; rw [hr]
    have HR := Lib.hid hr
    have hx' : (x : Int) / 2 ≤ 9223372036854775807 := by simp only [] at hx; omega
    clear hv hrd hr hx
    by_cases hev : x % 2 = 0
    · have he : ((x : Int) % 2 == 0) = true := by simp; omega
      go_enter Try.func24, Try.ntmps24
      go_wp2_with fail
      refine (rsgroups_some g B l _ H.out hg).mono ?_
      rw [HR.out]
      rintro e w1 ⟨rfl, hs, ho⟩
      go_wp2_with fail
      go_ret
      rw [HI.out]
      exact ⟨ret_i64 (by rw [zag_even x hev]; omega), hs, ho⟩
    · have he : ((x : Int) % 2 == 0) = false := by simp; omega
      go_enter Try.func24, Try.ntmps24
      go_wp2_with fail
      refine (rsgroups_some g B l _ H.out hg).mono ?_
      rw [HR.out]
      rintro e w1 ⟨rfl, hs, ho⟩
      go_wp2_with fail
      go_ret
      rw [HI.out]
      exact ⟨ret_i64 (by rw [zag_odd x hev]; omega), hs, ho⟩

/-- The document's count: from the groups. -/
theorem rdCount_bad {n : Int} {l : List UInt8} (h : (rdN 18446744073709551615 (some l)).2 = none ∨ 4611686018427387904 < (rdN 18446744073709551615 (some l)).1 ∨ n < ((rdN 18446744073709551615 (some l)).1 : Int)) (hn : (rdN 18446744073709551615 (some l)).2 = none → (rdN 18446744073709551615 (some l)).1 = 0) :
    rdCount n (some l) = (0, none) := by
  unfold rdCount
  split
  · rfl
  · next h0 =>
    rw [rdN_max] at h
    simp only [rdN]
    by_cases hz : (getG 0 0 l).2 = 0
    · rw [if_pos (Or.inl hz)]
    · rw [if_neg hz] at h
      rw [if_pos]
      refine .inr ?_
      unfold mc
      rcases h with h | h | h
      · cases h
      · split <;> (simp only [] at h; omega)
      · split <;> (simp only [] at h; omega)
theorem rdCount_good {n : Int} {l r : List UInt8} (h1 : (rdN 18446744073709551615 (some l)).2 = some r) (h2 : (rdN 18446744073709551615 (some l)).1 ≤ 4611686018427387904) (h3 : ((rdN 18446744073709551615 (some l)).1 : Int) ≤ n) :
    rdCount n (some l) = rdN 18446744073709551615 (some l) := by
  unfold rdCount
  rw [if_neg (by omega), rdN_max]
  rw [rdN_max] at h1 h2 h3
  by_cases hz : (getG 0 0 l).2 = 0
  · rw [if_pos hz] at h1; cases h1
  · rw [if_neg hz] at h2 h3 ⊢
    simp only [rdN]
    rw [if_neg]
    unfold mc
    simp only [] at h2 h3
    split <;> omega
end Go.Proofs.Yteakkbgfkcknlaa
