/- The document's own source, on: counts and texts, what is left, whether all is read. -/
import Derived.Test.YtcbnjilkmdofnaaRefB
namespace Go.Proofs.Ytcbnjilkmdofnaa
set_option linter.unusedVariables false
set_option linter.unusedSimpArgs false
open Go.RowKit

def leftOf : Option (List UInt8) → Int
  | none => 0
  | some l => l.length
def doneOf : Option (List UInt8) → Int
  | none => 10
  | some l => if l.isEmpty then 0 else 10
theorem rdN_none (m : Nat) (st : Option (List UInt8)) (h : (rdN m st).2 = none) : (rdN m st).1 = 0 := by
  cases st with
  | none => rfl
  | some l =>
    simp only [rdN] at h ⊢
    split at h
    · next hc => rw [if_pos hc]
    · cases h

set_option maxHeartbeats 1000000 in
set_option maxRecDepth 1000000 in
theorem rscount_any (g B : Nat) (n : Int) (st : Option (List UInt8)) (w : World) (h : RS w g B st) (hg : B ≤ g) (hn : n ≤ 9223372036854775807) :
    Calls Try.prog 79 #[.pointer (some ⟨g, 0, none⟩), .int .i64 n] w fun e w' => e = .returned (.int .i64 (rdCount n st).1) ∧ RS w' g B (rdCount n st).2 ∧ Only w w' g := by
  rcases st with _ | l
  · obtain ⟨Au, nu, cu, hu⟩ := h
    obtain ⟨c0, c1, f0, f1⟩ := rcells hu
    have HU := Lib.hid hu
    have HR : Hid (rdCount n none = (0, none)) := by show rdCount n none = (0, none); unfold rdCount; split <;> rfl
    clear hu
    go_enter Try.func79, Try.ntmps79
    go_wp2_with fail
    go_ret
    rw [HR.out]
    exact ⟨rfl, ⟨_, _, _, HU.out⟩, Only.refl w g⟩
  · have H := Lib.hid h
    obtain ⟨v, hv, hrd⟩ := h
    obtain ⟨c0, c1, f0, f1⟩ := rcells hv
    obtain ⟨A, cap, rfl, _, _, _⟩ := hrd
    obtain ⟨x, st', hr⟩ : ∃ x st', rdN 18446744073709551615 (some l) = (x, st') := ⟨_, _, rfl⟩
    have hx := rdN_lt 18446744073709551615 (some l)
    have hx0 := rdN_none 18446744073709551615 (some l)
    have hbad := rdCount_bad (n := n) (l := l)
    have hgood := fun r => rdCount_good (n := n) (l := l) (r := r)
    rw [hr] at hx hx0 hbad hgood
    have HR := Lib.hid hr
    have HX := Lib.hid hx
    have HX0 := Lib.hid hx0
    have HBAD := Lib.hid hbad
    have HGOOD := fun r => Lib.hid (hgood r)
    clear hv hr hx hx0 hbad hgood
    rcases st' with _ | r
    · have HC := Lib.hid (HBAD.out (.inl rfl) HX0.out)
      go_enter Try.func79, Try.ntmps79
      go_wp2_with fail
      refine (rsgroups_some g B l _ H.out hg).mono ?_
      rw [HR.out]
      rintro e w1 ⟨rfl, ⟨Au, nu, cu, hu⟩, ho⟩
      obtain ⟨d0, d1, e0, e1⟩ := rcells hu
      have HU := Lib.hid hu
      clear hu c0 c1 f0 f1
      go_wp2_with fail
      go_ret
      rw [HC.out]
      exact ⟨rfl, ⟨_, _, _, set_rs1 (set_rs0 HU.out)⟩, (ho.set _ _).set _ _⟩
    · by_cases hbig : 4611686018427387904 < x
      · have HC := Lib.hid (HBAD.out (.inr (.inl hbig)) HX0.out)
        go_enter Try.func79, Try.ntmps79
        go_wp2_with fail
        refine (rsgroups_some g B l _ H.out hg).mono ?_
        rw [HR.out]
        rintro e w1 ⟨rfl, ⟨u, hu, hrd⟩, ho⟩
        obtain ⟨d0, d1, e0, e1⟩ := rcells hu
        have HU := Lib.hid hu
        clear hu c0 c1 f0 f1 hrd
        go_wp2_with fail
        go_ret
        rw [HC.out]
        exact ⟨rfl, ⟨_, _, _, set_rs1 (set_rs0 HU.out)⟩, (ho.set _ _).set _ _⟩
      · have hx2 : (x : Int) ≤ 4611686018427387904 := by omega
        by_cases hmost : n < (x : Int)
        · have HC := Lib.hid (HBAD.out (.inr (.inr hmost)) HX0.out)
          go_enter Try.func79, Try.ntmps79
          go_wp2_with fail
          refine (rsgroups_some g B l _ H.out hg).mono ?_
          rw [HR.out]
          rintro e w1 ⟨rfl, ⟨u, hu, hrd⟩, ho⟩
          obtain ⟨d0, d1, e0, e1⟩ := rcells hu
          have HU := Lib.hid hu
          clear hu c0 c1 f0 f1 hrd
          go_wp2_with fail
          go_ret
          rw [HC.out]
          exact ⟨rfl, ⟨_, _, _, set_rs1 (set_rs0 HU.out)⟩, (ho.set _ _).set _ _⟩
        · have HC := Lib.hid ((HGOOD r).out rfl (by simp only []; omega) (by simp only []; omega))
          go_enter Try.func79, Try.ntmps79
          go_wp2_with fail
          refine (rsgroups_some g B l _ H.out hg).mono ?_
          rw [HR.out]
          rintro e w1 ⟨rfl, ⟨u, hu, hrd⟩, ho⟩
          obtain ⟨d0, d1, e0, e1⟩ := rcells hu
          have HU : Hid (RS w1 g B (some r)) := ⟨u, hu, hrd⟩
          clear hu c0 c1 f0 f1 hrd
          go_wp2_with fail
          go_ret
          rw [HC.out]
          exact ⟨rfl, HU.out, ho⟩

end Go.Proofs.Ytcbnjilkmdofnaa
