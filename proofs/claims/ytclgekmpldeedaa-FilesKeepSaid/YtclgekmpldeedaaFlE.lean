/- The power; a change that is done, or at which the power goes; a disk's file by its name; a new disk. -/
import Derived.Test.YtclgekmpldeedaaFlD
namespace Go.Proofs.Ytclgekmpldeedaa
set_option linter.unusedVariables false
set_option linter.unusedSimpArgs false
open Go.RowKit Go.Maps
set_option maxRecDepth 100000

def EntersF (f : Nat) : Prop := ∀ (args : Array Value) (W : World), (callFunc f args).run Try.prog W = .ok (.enter f args) W
section
variable {w : World} {Ft : Nat → Prop} {d m : Nat} {gs : List UInt8 → Option Nat} {rv : List UInt8 → Value} {D : DataW Unit} {M : DiskM}
theorem setCell_grown (w : World) (d i : Nat) (v : Value) : w.grownBy (w.setCell ⟨d, i, none⟩ v) (some d) := ⟨rfl, rfl, rfl, by simp, fun k _ hk => heap_setCell_other _ ⟨d, i, none⟩ k _ (fun e => hk (by rw [e]))⟩
theorem setCell_one {w : World} {d : Nat} {cs : Array Value} {t : TypeId} {fr : Nat × Nat} (h : w.heap[d]? = some (.cells cs t fr)) (i : Nat) (v : Value) : (w.setCell ⟨d, i, none⟩ v).heap[d]? = some (.cells (cs.setIfInBounds i v) t fr) := Go.Joins.block_setCell h v
theorem DiskAt.r1 (h : DiskAt w Ft d m gs rv D M) : M.left ≤ 9223372036854775807 := h.rng.2.1
theorem DiskAt.off (h : DiskAt w Ft d m gs rv D M) : DiskAt (w.setCell ⟨d, 3, none⟩ (.bool true)) Ft d m gs rv D M.off :=
  h.power M.off rfl rfl h.rng (setCell_one h.disk 3 _) fun b hb => heap_setCell_other _ ⟨d, 3, none⟩ b _ hb
theorem DiskAt.less (h : DiskAt w Ft d m gs rv D M) (hl : 0 < M.left) : DiskAt (w.setCell ⟨d, 1, none⟩ (.int .i64 (M.left - 1))) Ft d m gs rv D M.spent := by
  have e : M.spent.left = M.left - 1 := by unfold DiskM.spent; simp [hl]
  refine h.power M.spent rfl rfl ⟨by rw [e]; omega, by rw [e]; have := h.r1; omega, h.rng.2.2⟩ ?_ fun b hb => heap_setCell_other _ ⟨d, 1, none⟩ b _ hb
  rw [e]
  exact setCell_one h.disk 1 _
theorem DiskAt.same (h : DiskAt w Ft d m gs rv D M) (hl : M.left < 0) : DiskAt w Ft d m gs rv D M.spent := by
  have e : M.spent = M := by unfold DiskM.spent; rw [if_neg (by omega)]
  rw [e]; exact h
/-- What is asked of the power. -/
def LastsR (w : World) (Ft : Nat → Prop) (d m : Nat) (gs : List UInt8 → Option Nat) (rv : List UInt8 → Value) (D : DataW Unit) (M : DiskM) (e : Ending) (w' : World) : Prop :=
  e = .returned (.bool (decide (M.left ≠ 0))) ∧ DiskAt w' Ft d m gs rv D (if M.left = 0 then M.off else M.spent) ∧ w.grownBy w' (some d) ∧ w'.heap.size = w.heap.size
set_option maxHeartbeats 2000000 in
theorem lasts_any (h : DiskAt w Ft d m gs rv D M) (hg : M.gone = false) : Calls Try.prog 41 #[.pointer (some ⟨d, 1, none⟩)] w (LastsR w Ft d m gs rv D M) := by
  have H := Lib.hid h
  have h1 := h.c1
  have h3 := h.c3
  have f1 := h.uf 1
  have f3 := h.uf 3
  have hr := h.rng.2.1
  have hblk := Lib.hid h.disk
  rw [hg] at h3
  clear h
  obtain ⟨L, hL⟩ : ∃ L, L = M.left := ⟨_, rfl⟩
  have HL := Lib.hid hL
  rw [← hL] at h1 hr
  clear hL
  by_cases hz : L = 0
  · subst hz
    have ho := H.out.off
    have o3 := ho.c3
    have HO := Lib.hid ho
    clear ho
    have e3 : (w.setCell ⟨d, 3, none⟩ (.bool true)).cell? ⟨d, 3, none⟩ = some (.bool true) := o3
    go_enter Try.func41, Try.ntmps41
    go_wp2_with fail
    go_ret
    refine ⟨by rw [← HL.out]; rfl, by rw [if_pos HL.out.symm]; exact HO.out, setCell_grown _ _ _ _, by simp⟩
  · by_cases hp : 0 < L
    · have d1 : (L == 0) = false := by simp; omega
      have d2 : decide (0 < L) = true := decide_eq_true hp
      have ho := H.out.less (by rw [← HL.out]; exact hp)
      have o3 := ho.c3
      rw [← HL.out] at ho
      have e3 : (w.setCell ⟨d, 1, none⟩ (.int .i64 (L - 1))).cell? ⟨d, 3, none⟩ = some (.bool false) := by have := ho.c3; rw [this]; show some (Value.bool M.gone) = _; rw [hg]
      have HO := Lib.hid ho
      have hw : wrap64 (L - 1) = L - 1 := by unfold wrap64; omega
      clear ho o3
      go_enter Try.func41, Try.ntmps41
      go_wp2_with fail
      go_ret
      refine ⟨by rw [← HL.out, decide_eq_true (show L ≠ 0 by omega)]; rfl, by rw [if_neg (by rw [← HL.out]; exact hz)]; exact HO.out, setCell_grown _ _ _ _, by simp⟩
    · have d1 : (L == 0) = false := by simp; omega
      have d2 : decide (0 < L) = false := decide_eq_false hp
      have ho := H.out.same (by rw [← HL.out]; omega)
      have HO := Lib.hid ho
      clear ho
      go_enter Try.func41, Try.ntmps41
      go_wp2_with fail
      go_ret
      refine ⟨by rw [← HL.out, decide_eq_true (show L ≠ 0 by omega)]; rfl, by rw [if_neg (by rw [← HL.out]; exact hz)]; exact HO.out, ⟨rfl, rfl, rfl, Nat.le_refl _, fun _ _ _ => rfl⟩, rfl⟩
end
end Go.Proofs.Ytclgekmpldeedaa
