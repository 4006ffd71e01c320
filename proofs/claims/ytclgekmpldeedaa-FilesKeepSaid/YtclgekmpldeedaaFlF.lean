/- A change that is done, or at which the power goes; a disk's file by its name; a new disk; what reads. -/
import Derived.Test.YtclgekmpldeedaaFlE
import Derived.Carry
namespace Go.Proofs.Ytclgekmpldeedaa
set_option linter.unusedVariables false
set_option linter.unusedSimpArgs false
open Go.RowKit Go.Maps
set_option maxRecDepth 100000

section
variable {w : World} {Ft : Nat → Prop} {d m : Nat} {gs : List UInt8 → Option Nat} {rv : List UInt8 → Value} {D : DataW Unit} {M : DiskM}
set_option maxHeartbeats 2000000 in
theorem change_do (h : DiskAt w Ft d m gs rv D M) (hg : M.gone = false) (hl : M.left ≠ 0) (f : Nat) (caps : Array Value) (hcf0 : EntersF f) (ls : Value) (R : World → Prop)
    (hcall : ∀ w1, DiskAt w1 Ft d m gs rv D M.spent → w.grownBy w1 (some d) → w1.heap.size = w.heap.size → Calls Try.prog f caps w1 fun e w' => (∃ v, e = .returned v) ∧ R w') :
    Calls Try.prog 23 #[.pointer (some ⟨d, 0, none⟩), .func (.func f) #[] caps, ls] w fun e w' => e = .returned (.int .i64 0) ∧ R w' := by
  have hcf : ∀ (args : Array Value) (W : World), (callFunc f args).run Try.prog W = .ok (.enter f args) W := hcf0
  have HL := Lib.hid (lasts_any h hg)
  have hd : decide (M.left ≠ 0) = true := decide_eq_true hl
  have HZ := Lib.hid hl
  have HD := Lib.hid hd
  have HC := Lib.hid hcall
  clear h hg hcall hcf0 hl hd
  go_enter Try.func23, Try.ntmps23
  go_wp2_with fail
  refine HL.out.mono ?_
  rintro e w1 ⟨he, h1, hg1, hz1⟩
  rw [HD.out] at he
  subst he
  rw [if_neg HZ.out] at h1
  have HC1 := Lib.hid (HC.out w1 h1 hg1 hz1)
  clear h1 hg1 hz1
  go_wp2_with fail
  try rw [Array.empty_append]
  refine HC1.out.mono ?_
  rintro e w2 ⟨⟨v, rfl⟩, hR⟩
  have HR := Lib.hid hR
  clear hR
  go_wp2_with fail
  go_ret
  exact ⟨rfl, HR.out⟩
set_option maxHeartbeats 2000000 in
theorem change_off0 (h : DiskAt w Ft d m gs rv D M) (hg : M.gone = false) (hl : M.left = 0) (f : Value) :
    Calls Try.prog 23 #[.pointer (some ⟨d, 0, none⟩), f, .slice none 0 0] w fun e w' => e = .returned (.int .i64 90) ∧ DiskAt w' Ft d m gs rv D M.off ∧ w.grownBy w' (some d) ∧ w'.heap.size = w.heap.size := by
  have HL := Lib.hid (lasts_any h hg)
  have hd : decide (M.left ≠ 0) = false := decide_eq_false (by omega)
  have HZ := Lib.hid hl
  have HD := Lib.hid hd
  clear h hg hl hd
  go_enter Try.func23, Try.ntmps23
  go_wp2_with fail
  refine HL.out.mono ?_
  rintro e w1 ⟨he, h1, hg1, hz1⟩
  rw [HD.out] at he
  subst he
  rw [if_pos HZ.out] at h1
  have H1 := Lib.hid h1
  have HG1 := Lib.hid hg1
  have HZ1 := Lib.hid hz1
  clear h1 hg1 hz1
  go_wp2_with fail
  go_loopw [17] (fun i wr => i = .int .i64 0 ∧ wr = w1) (fun _ _ => 0)
  case atStart => exact ⟨rfl, rfl⟩
  case round =>
    obtain ⟨rfl, rfl⟩ := hrel
    go_wp2_with fail
    go_ret
    exact ⟨rfl, H1.out, HG1.out, HZ1.out⟩
set_option maxHeartbeats 2000000 in
theorem change_off1 (h : DiskAt w Ft d m gs rv D M) (hg : M.gone = false) (hl : M.left = 0) (fv : Value) (f : Nat) (caps : Array Value) (hcf0 : EntersF f) (b c : Nat) (hbF : ¬ Ft b) (hc : w.cell? ⟨b, 0, none⟩ = some (.func (.func f) #[] caps)) (R : World → Prop)
    (hcall : ∀ w1, DiskAt w1 Ft d m gs rv D M.off → w.grownBy w1 (some d) → w1.heap.size = w.heap.size → Calls Try.prog f caps w1 fun e w' => (∃ v, e = .returned v) ∧ R w') :
    Calls Try.prog 23 #[.pointer (some ⟨d, 0, none⟩), fv, .slice (some ⟨b, 0, none⟩) 1 c] w fun e w' => e = .returned (.int .i64 90) ∧ R w' := by
  have hcf : ∀ (args : Array Value) (W : World), (callFunc f args).run Try.prog W = .ok (.enter f args) W := hcf0
  have HL := Lib.hid (lasts_any h hg)
  have hd : decide (M.left ≠ 0) = false := decide_eq_false (by omega)
  have HZ := Lib.hid hl
  have HD := Lib.hid hd
  have HC := Lib.hid hcall
  have hbd : b ≠ d := fun e => hbF (e ▸ h.fd)
  have HC0 := Lib.hid hc
  clear h hg hl hd hcall hcf0 hc hbF
  go_enter Try.func23, Try.ntmps23
  go_wp2_with fail
  refine HL.out.mono ?_
  rintro e w1 ⟨he, h1, hg1, hz1⟩
  rw [HD.out] at he
  subst he
  rw [if_pos HZ.out] at h1
  have hc1 := hg1.cell HC0.out (by intro e; injection e with e; exact hbd e)
  have HC1 := Lib.hid (HC.out w1 h1 hg1 hz1)
  clear h1 hg1 hz1
  go_wp2_with fail
  go_loopw [17] (fun i wr => (i = .int .i64 0 ∧ wr = w1) ∨ (i = .int .i64 1 ∧ Hid (R wr))) (fun i _ => 1 - (intOf i).toNat)
  case atStart => exact .inl ⟨rfl, rfl⟩
  case round =>
    rcases hrel with ⟨rfl, rfl⟩ | ⟨rfl, hR⟩
    · go_wp2_with fail
      try rw [Array.empty_append]
      refine HC1.out.mono ?_
      rintro e w2 ⟨⟨v, rfl⟩, hR⟩
      have HR := Lib.hid hR
      clear hR
      go_wp2_with fail
      go_roundw
      case rel => exact .inr ⟨rfl, HR⟩
      case measure => simp [intOf]
    · go_wp2_with fail
      go_ret
      exact ⟨rfl, hR.out⟩
end
end Go.Proofs.Ytclgekmpldeedaa
