/- What a snapshot's file holds: the last one that was put, whole and sure. -/
import Derived.Test.YtflkaladkbkbgaaGreatKVoJ
import Derived.Test.YtflkaladkbkbgaaGreatKFlT
namespace Go.Proofs.YtflkaladkbkbgaaGreat
set_option linter.unusedVariables false
set_option linter.unusedSimpArgs false
open Go.RowKit Go.Maps
set_option maxRecDepth 100000
def SnapIs (M : DiskM) (o : Option (List UInt8)) : Prop := M.fs snapN = o.map fun b => ⟨frameF b, (frameF b).length⟩
theorem new_ne : newNm snapN ≠ snapN := by decide
theorem ne_new : snapN ≠ newNm snapN := by decide
theorem spent_fs (M : DiskM) : M.spent.fs = M.fs := rfl
theorem off_fs (M : DiskM) : M.off.fs = M.fs := rfl
theorem rem_other (M : DiskM) (a x : List UInt8) (h : x ≠ a) : (M.rem a).2.fs x = M.fs x := by
  unfold DiskM.rem
  split
  · rfl
  split
  · rfl
  split
  · rfl
  split
  · rfl
  · exact del_fs_other _ _ _ h
theorem rem_none (M : DiskM) (a : List UInt8) (h : (remZ a M).1 = 0) : (remZ a M).2.fs a = none := by
  unfold remZ at h ⊢
  unfold DiskM.rem at h ⊢
  by_cases hg : M.gone = true
  · rw [if_pos hg] at h; exact absurd h (by simp)
  rw [if_neg hg] at h ⊢
  by_cases hb : badNm a = true
  · rw [if_pos hb] at h; exact absurd h (by simp)
  rw [if_neg hb] at h ⊢
  cases hf : M.fs a with
  | none => exact hf
  | some f =>
    rw [hf] at h
    by_cases hl : M.left = 0
    · simp only [if_pos hl] at h; exact absurd h (by simp)
    · simp only [if_neg hl]
      exact del_fs_same _ _
theorem app_other (M : DiskM) (a b x : List UInt8) (h : x ≠ a) : (M.app a b).2.fs x = M.fs x := by
  unfold DiskM.app
  split
  · rfl
  split
  · rfl
  split
  · rfl
  split
  · rfl
  split
  · exact put_fs_other _ _ _ _ h
  · exact put_fs_other _ _ _ _ h
theorem app_same (M : DiskM) (a b : List UInt8) (h : (M.app a b).1 = 0) : (M.app a b).2.fs a = some ⟨(M.file a).b ++ b, (M.file a).sure⟩ := by
  unfold DiskM.app at h ⊢
  by_cases hg : M.gone = true
  · rw [if_pos hg] at h; exact absurd h (by simp)
  rw [if_neg hg] at h ⊢
  by_cases hb : badNm a = true
  · rw [if_pos hb] at h; exact absurd h (by simp)
  rw [if_neg hb] at h ⊢
  split at h
  · exact absurd h (by simp)
  next h1 =>
    rw [if_neg h1]
    split at h
    · exact absurd h (by simp)
    next h2 =>
      rw [if_neg h2]
      split at h
      · exact absurd h (by simp)
      next h3 =>
        rw [if_neg h3]
        exact put_fs_same _ _ _
theorem snc_other (M : DiskM) (a x : List UInt8) (h : x ≠ a) : (M.snc a).2.fs x = M.fs x := by
  unfold DiskM.snc
  split
  · rfl
  split
  · rfl
  split
  · rfl
  split
  · rfl
  · exact put_fs_other _ _ _ _ h
theorem snc_same (M : DiskM) (a : List UInt8) (f : FileM) (hf : M.fs a = some f) (h : (M.snc a).1 = 0) : (M.snc a).2.fs a = some ⟨f.b, f.b.length⟩ := by
  unfold DiskM.snc at h ⊢
  by_cases hg : M.gone = true
  · rw [if_pos hg] at h; exact absurd h (by simp)
  rw [if_neg hg] at h ⊢
  by_cases hb : badNm a = true
  · rw [if_pos hb] at h; exact absurd h (by simp)
  rw [if_neg hb] at h ⊢
  rw [hf] at h ⊢
  by_cases hl : M.left = 0
  · simp only [if_pos hl] at h; exact absurd h (by simp)
  · simp only [if_neg hl]
    exact put_fs_same _ _ _
theorem ren_done (M : DiskM) (a b : List UInt8) (f : FileM) (hf : M.fs a = some f) (h : (M.ren a b).1 = 0) : (M.ren a b).2.fs b = some f := by
  unfold DiskM.ren at h ⊢
  by_cases hg : M.gone = true
  · rw [if_pos hg] at h; exact absurd h (by simp)
  rw [if_neg hg] at h ⊢
  by_cases hb : (badNm a || badNm b) = true
  · rw [if_pos hb] at h; exact absurd h (by simp)
  rw [if_neg hb] at h ⊢
  rw [hf] at h ⊢
  by_cases he : a = b
  · simp only [if_pos he] at h; exact absurd h (by simp)
  by_cases hl : M.left = 0
  · simp only [if_neg he, if_pos hl] at h; exact absurd h (by simp)
  · simp only [if_neg he, if_neg hl]
    exact put_fs_same _ _ _
theorem ren_not (M : DiskM) (a b : List UInt8) (h : (M.ren a b).1 ≠ 0) : (M.ren a b).2.fs = M.fs := by
  unfold DiskM.ren at h ⊢
  by_cases hg : M.gone = true
  · rw [if_pos hg]
  rw [if_neg hg] at h ⊢
  by_cases hb : (badNm a || badNm b) = true
  · rw [if_pos hb]
  rw [if_neg hb] at h ⊢
  cases hf : M.fs a with
  | none => rfl
  | some f =>
    rw [hf] at h
    by_cases he : a = b
    · simp only [if_pos he]
    by_cases hl : M.left = 0
    · simp only [if_neg he, if_pos hl]; rfl
    · simp only [if_neg he, if_neg hl] at h; exact absurd rfl h
theorem rep_snap (b : List UInt8) (M : DiskM) (o : Option (List UInt8)) (h : SnapIs M o) :
    ((repM snapN (frameF b) M).1 = 0 → SnapIs (repM snapN (frameF b) M).2 (some b)) ∧ ((repM snapN (frameF b) M).1 ≠ 0 → SnapIs (repM snapN (frameF b) M).2 o) := by
  unfold repM
  obtain ⟨a, ha⟩ : ∃ a, a = newNm snapN := ⟨_, rfl⟩
  have hne : snapN ≠ a := by rw [ha]; exact ne_new
  rw [← ha]
  clear ha
  simp only [stepsM]
  have k1 : (remZ a M).2.fs snapN = M.fs snapN := rem_other M a snapN hne
  by_cases h1 : (remZ a M).1 = 0
  · rw [if_pos h1]
    have n1 := rem_none M a h1
    obtain ⟨M1, hM1⟩ : ∃ M1, M1 = (remZ a M).2 := ⟨_, rfl⟩
    rw [← hM1] at k1 n1 ⊢
    have k2 := app_other M1 a (frameF b) snapN hne
    by_cases h2 : (M1.app a (frameF b)).1 = 0
    · rw [if_pos h2]
      have n2 := app_same M1 a (frameF b) h2
      obtain ⟨M2, hM2⟩ : ∃ M2, M2 = (M1.app a (frameF b)).2 := ⟨_, rfl⟩
      rw [← hM2] at k2 n2 ⊢
      have hfile : M1.file a = ⟨[], 0⟩ := by unfold DiskM.file; rw [n1]; rfl
      rw [hfile] at n2
      have k3 := snc_other M2 a snapN hne
      by_cases h3 : (M2.snc a).1 = 0
      · rw [if_pos h3]
        have n3 := snc_same M2 a _ n2 h3
        obtain ⟨M3, hM3⟩ : ∃ M3, M3 = (M2.snc a).2 := ⟨_, rfl⟩
        rw [← hM3] at k3 n3 ⊢
        by_cases h4 : (M3.ren a snapN).1 = 0
        · rw [if_pos h4]
          refine ⟨fun _ => ?_, fun hn => absurd rfl hn⟩
          have n4 := ren_done M3 a snapN _ n3 h4
          unfold SnapIs
          rw [n4]
          simp
        · rw [if_neg h4]
          refine ⟨fun hn => absurd hn h4, fun _ => ?_⟩
          unfold SnapIs
          rw [ren_not M3 a snapN h4, k3, k2, k1]
          exact h
      · rw [if_neg h3]
        exact ⟨fun hn => absurd hn h3, fun _ => by unfold SnapIs; rw [k3, k2, k1]; exact h⟩
    · rw [if_neg h2]
      exact ⟨fun hn => absurd hn h2, fun _ => by unfold SnapIs; rw [k2, k1]; exact h⟩
  · rw [if_neg h1]
    exact ⟨fun hn => absurd hn h1, fun _ => by unfold SnapIs; rw [k1]; exact h⟩
theorem stop_snap (M : DiskM) (n t : Int) (o : Option (List UInt8)) (h : SnapIs M o) : SnapIs (M.stop n t).2 o := by
  unfold DiskM.stop
  split
  · exact h
  split
  · exact h
  · exact h
theorem crashF_whole (f : List UInt8) (n : Int) : crashF ⟨f, f.length⟩ n = ⟨f, f.length⟩ := by
  unfold crashF
  have e : ((f.length : Int) + min (max n 0) ((f.length : Int) - (f.length : Int))).toNat = f.length := by omega
  simp only [e, List.take_length]
/-- What such a file reads as. -/
def readOf : Option (List UInt8) → List UInt8 × Int
  | some b => (frameF b, 0)
  | none => ([], 4)
theorem crash_snap (M : DiskM) (l : List (List UInt8 × Int)) (o : Option (List UInt8)) (h : SnapIs M o) (hb : l.any (fun k => badNm k.1) = false) :
    (M.crash l).1 = 0 ∧ (M.crash l).2.read snapN = readOf o := by
  unfold DiskM.crash
  rw [hb, if_neg (by decide)]
  refine ⟨rfl, ?_⟩
  unfold DiskM.read
  rw [if_neg (by simp), if_neg (by decide)]
  show (match (M.fs snapN).map (fun f => crashF f (keepOf l snapN)) with | none => _ | some f => _) = _
  rw [h]
  cases o with
  | none => rfl
  | some b => simp only [Option.map_some]; rw [crashF_whole]; rfl
end Go.Proofs.YtflkaladkbkbgaaGreat
