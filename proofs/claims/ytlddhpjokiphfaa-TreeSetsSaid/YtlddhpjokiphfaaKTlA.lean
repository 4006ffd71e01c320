/- Too large to be looked at; steps that came in, with their room. -/
import Derived.Test.YtlddhpjokiphfaaKTsH
import Derived.Test.YtlddhpjokiphfaaKOpen
namespace Go.Proofs.Ytlddhpjokiphfaa
set_option linter.unusedVariables false
set_option linter.unusedSimpArgs false
open Go.ChangeShapes Go.WideShapes Go.RowKit Go.Joins Go.Deep
def large5 (t : VT) (n : Nat) : Bool := largeT t || decide (50 < n)
set_option maxHeartbeats 1000000 in
set_option maxRecDepth 100000 in
theorem large5_any (S : Nat → Prop) (t : VT) (v : Value) (A : Option Addr) (c n : Nat) (w : World) (hS : ∀ b, S b → b < w.heap.size) (h : LV w S t v) (hn : n ≤ 140737488351232) :
    Calls Try.prog 8 #[v, .slice A n c] w fun e w' => e = .returned (.bool (large5 t n)) ∧ Below w.heap.size w w' := by
  obtain ⟨A0, c0, A0', c0', rfl, -, -, -, v1, hb0⟩ := one_var hS h
  have HL := Lib.hid (large_any S t _ _ v1.s v1.v)
  have HB := Lib.hid hb0
  have q0 := v1.x.c0
  have q1 := v1.x.c1
  have q2 := v1.x.c2
  have q3 := v1.x.c3
  have q4 := v1.x.c4
  clear h v1 hb0
  obtain ⟨l, hl⟩ : ∃ l, l = largeT t := ⟨_, rfl⟩
  have hl5 : large5 t n = (l || decide (50 < n)) := by unfold large5; rw [hl]
  obtain ⟨R, hR⟩ : ∃ R, R = large5 t n := ⟨_, rfl⟩
  rw [← hR]
  have HR : Hid (R = (l || decide (50 < n))) := Lib.hid (hR.trans hl5)
  rw [← hl] at HL
  clear hl hl5 hR
  go_enter Try.func8, Try.ntmps8
  go_wp2_with fail
  refine HL.out.mono ?_
  rintro e w2 ⟨rfl, hb2⟩
  have HB2 := Lib.hid (toStart HB.out hb2)
  clear hb2 q0 q1 q2 q3 q4 HL
  cases l with
  | true =>
    go_wp2_with fail
    go_ret
    exact ⟨by rw [HR.out]; rfl, HB2.out⟩
  | false =>
    by_cases h50 : 50 < n
    · have hd : decide ((50 : Int) < (n : Int)) = true := decide_eq_true (by omega)
      have hd2 : decide (50 < n) = true := decide_eq_true h50
      have HR2 : Hid (R = decide (50 < n)) := Lib.hid (by rw [HR.out, Bool.false_or])
      have HD2 := Lib.hid hd2
      clear hd2
      go_wp2_with fail
      go_ret
      exact ⟨by rw [HR2.out, HD2.out]; rfl, HB2.out⟩
    · have hd : decide ((50 : Int) < (n : Int)) = false := decide_eq_false (by omega)
      have hd2 : decide (50 < n) = false := decide_eq_false h50
      have HR2 : Hid (R = decide (50 < n)) := Lib.hid (by rw [HR.out, Bool.false_or])
      have HD2 := Lib.hid hd2
      clear hd2
      go_wp2_with fail
      go_ret
      exact ⟨by rw [HR2.out, HD2.out]; rfl, HB2.out⟩
section
variable {H : Type} {enc : TypeId × Value → H} {W : World} {sp : Nat → Bool}
/-- Texts of a slice, and its room. -/
theorem open_names3 {fuel : Nat} {cs : List Value} {x : DataW H × List MemPlace} (h : DataW.trod enc Try.prog W 0 sp true fuel 23 cs = some x) (hw : ∀ n ∈ x.1.weights Try.prog 23, n ≤ reachBytes) :
    ∃ A c, ∃ ns : List ByteArray, cs = [.slice A ns.length c] ∧ ns.length ≤ c ∧ c ≤ 9223372036854775807 ∧ ns.length ≤ 8796093021952 ∧ StrsAt W (fun b => b < W.heap.size) A ns := by
  obtain ⟨A, c, ns, hcs, h1, h2, h3, h4⟩ := open_names2 h hw
  refine ⟨A, c, ns, hcs, h1, ?_, h3, h4⟩
  rcases open_strings Try.underlying23 Try.underlying9 cellsStr h with ⟨h0, _⟩ | ⟨a, len, cap, ss, h0, -, hl, hm, -⟩
  · rw [hcs] at h0
    injection h0 with h0
    injection h0 with e1 e2 e3
    omega
  · rw [hcs] at h0
    injection h0 with h0
    injection h0 with e1 e2 e3
    unfold maxLen at hm
    omega
end
end Go.Proofs.Ytlddhpjokiphfaa
