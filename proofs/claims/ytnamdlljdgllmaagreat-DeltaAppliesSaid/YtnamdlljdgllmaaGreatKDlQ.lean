/- The code of a change, put behind bytes of the caller's own. -/
import Derived.Test.YtnamdlljdgllmaaGreatKDlT
import Derived.Test.YtnamdlljdgllmaaGreatKPathJ
import Derived.Test.YtnamdlljdgllmaaGreatKRegR
import Derived.Test.YtnamdlljdgllmaaGreatKSpRa
import Derived.Test.YtnamdlljdgllmaaGreatKCodM
import Derived.Test.YtnamdlljdgllmaaGreatKPathI
import Derived.Test.YtnamdlljdgllmaaGreatKDlI
import Derived.Test.YtnamdlljdgllmaaGreatKFive
import Derived.Lib.SliceRun
import Derived.Deep.RegionLaw
namespace Go.Proofs.YtnamdlljdgllmaaGreat
open Lib (hid)
set_option linter.unusedVariables false
set_option linter.unusedSimpArgs false
open Go.RowKit
set_option maxRecDepth 100000
def codeD1 (d : DelT) : List UInt8 := [UInt8.ofNat d.kind.toNat] ++ pathC d.path ++ (if d.kind = 1 then encO d.val else if d.kind = 3 then grp d.num.toNat else [])
theorem boxd_k8 {w w' : World} {g : Nat} {cs : Array Value} {fr : Nat × Nat} (hg : w.heap[g]? = some (.cells cs 31 fr)) (h : K8 w w') : w'.heap[g]? = some (.cells cs 31 fr) := h g _ hg (fun h => by cases h) (fun c fz h => by injection h with _ h; exact absurd h (by decide))
set_option maxHeartbeats 16000000 in
theorem dlputo_any (S : Nat → Prop) (d : DelT) (cs : Array Value) (B : Nat) (v : Value) (l : List UInt8) (w : World) (hSB : ∀ b, S b → b < B) (ho : DelL w S d cs) (hm : mayD d = true) (hd : depthT d.val ≤ 4611686018427387903) (hz : sizeT d.val ≤ 9223372036854775807) (hp : NamesOK d.path) (h : OwnB w B v l) (hB : B ≤ w.heap.size) (hl : l.length ≤ 140737470000000) :
    Calls Tryz.prog 64 #[v, .agg cs] w (PutsR B (l ++ codeD1 d) w) := by
  obtain ⟨PA, pc, VA, vc, VA', vc', rfl, hv, hpa, hpc, hpn, hk, hkn, hpl⟩ := ho
  obtain ⟨w1, hw1⟩ : ∃ W, W = w.alloc (.cells #[.int .i64 d.kind, .slice PA d.path.length pc, .int .i64 d.val.kind, .int .i64 d.val.num, .string d.val.text, .slice VA d.val.items.length vc, .slice VA' d.val.names.length vc', .int .i64 d.num] 31) := ⟨_, rfl⟩
  have hbk : w1.heap[w.heap.size]? = some (.cells #[.int .i64 d.kind, .slice PA d.path.length pc, .int .i64 d.val.kind, .int .i64 d.val.num, .string d.val.text, .slice VA d.val.items.length vc, .slice VA' d.val.names.length vc', .int .i64 d.num] 31 (0, 0)) := by rw [hw1]; exact heap_alloc_new w _
  have hb1 : Below w.heap.size w w1 := by rw [hw1]; exact (Below.refl _ _).alloc (Nat.le_refl _) _
  have hin : ∀ W, Below B w W → LV W S d.val (.agg #[.int .i64 d.val.kind, .int .i64 d.val.num, .string d.val.text, .slice VA d.val.items.length vc, .slice VA' d.val.names.length vc']) ∧ StrsAt W S PA d.path := fun W hW =>
    ⟨hv.keep fun b hb => hW.block b (hSB b hb), hpa.keep fun b hb => hW.block b (hSB b hb)⟩
  obtain ⟨i0, hi, hz0, hz1, hz2⟩ := info_parts Tryz.infoU8
  have HO1 := hid (h.below hb1)
  obtain ⟨Av, cv, rfl⟩ := h.slice
  obtain ⟨m, hmm⟩ : ∃ m, m = l.length := ⟨_, rfl⟩
  rw [← hmm] at HO1 ⊢
  have HM := hid hmm
  have HB1 := hid hb1
  have HBK := hid hbk
  have HW1 := hid hw1
  have HIN := hid hin
  have HSB := hid hSB
  have HPP := hid hp
  have HD := hid (And.intro hd hz)
  have HL := hid hl
  have HB := hid hB
  have hkk : d.kind = 1 ∨ d.kind = 2 ∨ (d.kind = 3 ∧ 0 ≤ d.num ∧ d.num ≤ 999) := by
    unfold mayD at hm
    rw [Bool.and_eq_true] at hm
    have h2 := hm.2
    split at h2
    · omega
    split at h2
    · omega
    split at h2
    · simp only [Bool.and_eq_true, decide_eq_true_eq] at h2
      exact .inr (.inr ⟨by omega, h2.2.1, h2.2.2⟩)
    · cases h2
  clear hv hpa hpc hpn hk hkn hpl hSB hin h hB hl hmm hd hz hp hm
  go_enter Tryz.func64, Tryz.ntmps64
  rcases hkk with hkk | hkk | hkk
  · have HKE := hid hkk
    have hbk := HBK.out
    rw [hkk] at hbk hw1 ⊢
    clear hkk
    have HBKK := hid hbk
    go_wp2_with fail
    first | rw [← hw1] | skip
    clear hw1
    have q0 := cell_k8 (i := 0) (show w1.drew.heap[w.heap.size]? = _ from HBKK.out) (by decide) rfl
    have q1 := cell_k8 (i := 1) (show w1.drew.heap[w.heap.size]? = _ from HBKK.out) (by decide) rfl
    refine wp_region_OT K8 (fun w => Lib.OthersKept.refl _ _ _) (fun a b c h k => h.trans k) [] (.pure [0, 1, 2, 3, 6, 7] (.step 4 (.step 5 (.step 8 (.free [9] (.tail [])))))) (by kernel_rfl) (by kernel_rfl) (fun _ d _ _ _ h => by cases d <;> exact h) ?_
    generalize hw2 : w1.drew = w2 at *
    have HW2 : Hid (Below w.heap.size w w2 ∧ OwnB w2 B (.slice Av m cv) l ∧ K8 w w2 ∧ w.heap.size < w2.heap.size) := hid (by
      rw [← hw2]
      exact ⟨HB1.out.drew, HO1.out, (k8_below HB1.out).drew, (Array.getElem?_eq_some_iff.1 HBKK.out).1⟩)
    have HBK2 := hid ((show w2.heap[w.heap.size]? = w1.heap[w.heap.size]? from by rw [← hw2]; rfl).trans HBKK.out)
    clear hw2 hbk
    refine ot_pure ?_
    simp only [atR]
    show wpQuiet _ _ _ _ [_, _, _, _, _, _] _
    try simp only [acR, Act.put] at *
    repeat (go_big_quiet_step (fail))
    refine wpQuiet_nil ?_
    clear q0 q1
    refine ot_step rfl (fun K hK => ?_)
    go_simp
    refine hK _ _ (.inr ((Lib.OthersKept.refl _ _ _).alloc _)) ?_
    clear hK K
    have hml : m ≤ 140737470000000 := by rw [HM.out]; exact HL.out
    have hB2 : B ≤ w2.heap.size := Nat.le_trans HB.out HW2.out.1.size
    have HOA : Hid (∀ X : Obj, OwnB (w2.alloc X) B (.slice Av m cv) l) := hid fun X => HW2.out.2.1.below ((Below.refl _ _).alloc (Nat.le_refl _) _)
    have hrow : ∀ X : Obj, (w2.alloc X).ownsRow B 5 1 (.slice Av m cv) m (bcells l) := fun X => by have h9 := HOA.out X; unfold OwnB at h9; rw [← HM.out] at h9; exact h9
    refine ot_step rfl (fun K hK => ?_)
    refine wp_append_moved _ _ _ 46 rfl B 5 i0 (.int .u8 0) 1 1 Tryz.underlying46 hi hz0 hz1 hz2 rfl (by decide) _ m (bcells l) rfl (hrow _) ⟨w2.heap.size, 0, none⟩ 1 1 [.int .u8 1] rfl rfl (cell_one_new _ _ _) (by simp [Value.oneCell']) (by unfold maxLen; omega) (by omega) (by simp; omega) ?_
    intro v4 w4 hv4 hg4 hwh4
    have hk5 : K8 (w2.alloc (.cells #[.int .u8 1] 5)) w4 := k8_grown (HOA.out _) hg4
    refine hK _ _ (.inr hk5) ?_
    clear hK K
    have HX4 : Hid (OwnB w4 B v4 (l ++ [1]) ∧ Below B w w4 ∧ K8 w w4) := hid ⟨by unfold OwnB; rw [List.length_append, ← HM.out, show bcells (l ++ [1]) = bcells l ++ [.int .u8 1] from by unfold bcells; rw [List.map_append]; rfl]; exact hv4, below_own ((HW2.out.1.mono HB.out).alloc hB2 _) (HOA.out _) (by simp; omega) hg4, (HW2.out.2.2.1.alloc _).trans hk5⟩
    have HBK4 := hid (boxd_k8 (w := w2.alloc (.cells #[.int .u8 1] 5)) ((Below.heap_alloc w2 _ _ HW2.out.2.2.2).trans HBK2.out) hk5)
    have HC := hid (pputpath_any S PA pc d.path B v4 (l ++ [1]) w4 HSB.out (HIN.out w4 HX4.out.2.1).2 HPP.out HX4.out.1 (Nat.le_trans HB.out HX4.out.2.1.size) (by have := HM.out; simp; omega))
    clear hv4 hg4 hwh4 hrow hk5 hB2
    refine ot_step rfl (fun K hK => ?_)
    go_simp
    refine HC.out.mono ?_
    rintro e w5 ⟨v5, rfl, hv5, hb5, hk5⟩
    go_simp
    refine hK _ _ (.inr hk5) ?_
    clear hK K
    have HX5 : Hid (OwnB w5 B v5 (l ++ [1] ++ pathC d.path) ∧ Below B w w5 ∧ K8 w w5) := hid ⟨hv5, HX4.out.2.1.trans hb5, HX4.out.2.2.trans hk5⟩
    have HBK5 := hid (boxd_k8 HBK4.out hk5)
    refine ot_free ?_
    simp only [atR]
    show wpQuiet _ _ _ _ [_] _
    try simp only [acR, Act.put] at *
    repeat (go_big_quiet_step (fail))
    refine wpQuiet_nil ?_
    refine ot_end ?_
    have r0 : w5.cell? ⟨w.heap.size, 0, none⟩ = some (.int .i64 1) := Go.Joins.cell_of_block HBK5.out 0
    have r1 : w5.cell? ⟨w.heap.size, 2, none⟩ = some (.int .i64 d.val.kind) := Go.Joins.cell_of_block HBK5.out 2
    have r2 : w5.cell? ⟨w.heap.size, 3, none⟩ = some (.int .i64 d.val.num) := Go.Joins.cell_of_block HBK5.out 3
    have r3 : w5.cell? ⟨w.heap.size, 4, none⟩ = some (.string d.val.text) := Go.Joins.cell_of_block HBK5.out 4
    have r4 : w5.cell? ⟨w.heap.size, 5, none⟩ = some (.slice VA d.val.items.length vc) := Go.Joins.cell_of_block HBK5.out 5
    have r5 : w5.cell? ⟨w.heap.size, 6, none⟩ = some (.slice VA' d.val.names.length vc') := Go.Joins.cell_of_block HBK5.out 6
    have r6 : w5.cell? ⟨w.heap.size, 7, none⟩ = some (.int .i64 d.num) := Go.Joins.cell_of_block HBK5.out 7
    have hL5 : Hid ((l ++ [1] ++ pathC d.path).length ≤ 140737480000000) := hid (by
      have h1 := (grp_length d.path.length).1
      have h2 := flat_small HPP.out.2
      have h3 := HPP.out.1
      have h4 := HL.out
      unfold pathC
      simp only [List.length_append, List.length_cons, List.length_nil]
      omega)
    have HC6 := hid (cencode_any S d.val _ w5 (fun b hb => Nat.lt_of_lt_of_le (HSB.out b hb) (Nat.le_trans HB.out HX5.out.2.1.size)) (HIN.out w5 HX5.out.2.1).1 HD.out.1 HD.out.2)
    go_wp2_with fail
    refine HC6.out.mono ?_
    rintro e w6 ⟨v6, rfl, hv6, hb6⟩
    have HB6 : Hid (Below B w w6) := hid (HX5.out.2.1.trans (hb6.mono (Nat.le_trans HB.out HX5.out.2.1.size)))
    have HK6 : Hid (K8 w w6) := hid (HX5.out.2.2.trans (k8_below hb6))
    have HO6 : Hid (OwnB w6 B v5 (l ++ [1] ++ pathC d.path)) := hid (HX5.out.1.below hb6)
    have HV6 := hid hv6
    have HZZ := hid HD.out.2
    clear hv6 hb6 HC6 r0 r1 r2 r3 r4 r5 r6
    go_wp2_with (at_builtin; go_must (refine wpList_append_bytes rfl _ _ rfl B _ (l ++ [1] ++ pathC d.path) rfl HO6.out w6.heap.size _ (encO d.val) rfl HV6.out.rd (Nat.le_trans HB.out HB6.out.size) (by have := hL5.out; have := encO_length (t := d.val) HZZ.out; omega) ?_))
    intro v7 w7 hv7 hg7
    have hfin : codeD1 d = [1] ++ pathC d.path ++ encO d.val := by unfold codeD1; rw [HKE.out]; simp
    have HX : Hid (OwnB w7 B v7 (l ++ codeD1 d) ∧ Below B w w7 ∧ K8 w w7) := hid ⟨by rw [hfin]; simpa [List.append_assoc] using hv7, below_own HB6.out HO6.out (Nat.le_trans HB.out HB6.out.size) hg7, HK6.out.trans (k8_grown HO6.out hg7)⟩
    clear hv7 hg7 hfin
    go_wp2_with fail
    go_ret
    exact ⟨_, rfl, HX.out⟩
  · have HKE := hid hkk
    have hbk := HBK.out
    rw [hkk] at hbk hw1 ⊢
    clear hkk
    have HBKK := hid hbk
    go_wp2_with fail
    first | rw [← hw1] | skip
    clear hw1
    have q0 := cell_k8 (i := 0) (show w1.drew.heap[w.heap.size]? = _ from HBKK.out) (by decide) rfl
    have q1 := cell_k8 (i := 1) (show w1.drew.heap[w.heap.size]? = _ from HBKK.out) (by decide) rfl
    refine wp_region_OT K8 (fun w => Lib.OthersKept.refl _ _ _) (fun a b c h k => h.trans k) [] (.pure [0, 1, 2, 3, 6, 7] (.step 4 (.step 5 (.step 8 (.free [9] (.tail [])))))) (by kernel_rfl) (by kernel_rfl) (fun _ d _ _ _ h => by cases d <;> exact h) ?_
    generalize hw2 : w1.drew = w2 at *
    have HW2 : Hid (Below w.heap.size w w2 ∧ OwnB w2 B (.slice Av m cv) l ∧ K8 w w2 ∧ w.heap.size < w2.heap.size) := hid (by
      rw [← hw2]
      exact ⟨HB1.out.drew, HO1.out, (k8_below HB1.out).drew, (Array.getElem?_eq_some_iff.1 HBKK.out).1⟩)
    have HBK2 := hid ((show w2.heap[w.heap.size]? = w1.heap[w.heap.size]? from by rw [← hw2]; rfl).trans HBKK.out)
    clear hw2 hbk
    refine ot_pure ?_
    simp only [atR]
    show wpQuiet _ _ _ _ [_, _, _, _, _, _] _
    try simp only [acR, Act.put] at *
    repeat (go_big_quiet_step (fail))
    refine wpQuiet_nil ?_
    clear q0 q1
    refine ot_step rfl (fun K hK => ?_)
    go_simp
    refine hK _ _ (.inr ((Lib.OthersKept.refl _ _ _).alloc _)) ?_
    clear hK K
    have hml : m ≤ 140737470000000 := by rw [HM.out]; exact HL.out
    have hB2 : B ≤ w2.heap.size := Nat.le_trans HB.out HW2.out.1.size
    have HOA : Hid (∀ X : Obj, OwnB (w2.alloc X) B (.slice Av m cv) l) := hid fun X => HW2.out.2.1.below ((Below.refl _ _).alloc (Nat.le_refl _) _)
    have hrow : ∀ X : Obj, (w2.alloc X).ownsRow B 5 1 (.slice Av m cv) m (bcells l) := fun X => by have h9 := HOA.out X; unfold OwnB at h9; rw [← HM.out] at h9; exact h9
    refine ot_step rfl (fun K hK => ?_)
    refine wp_append_moved _ _ _ 46 rfl B 5 i0 (.int .u8 0) 1 1 Tryz.underlying46 hi hz0 hz1 hz2 rfl (by decide) _ m (bcells l) rfl (hrow _) ⟨w2.heap.size, 0, none⟩ 1 1 [.int .u8 2] rfl rfl (cell_one_new _ _ _) (by simp [Value.oneCell']) (by unfold maxLen; omega) (by omega) (by simp; omega) ?_
    intro v4 w4 hv4 hg4 hwh4
    have hk5 : K8 (w2.alloc (.cells #[.int .u8 2] 5)) w4 := k8_grown (HOA.out _) hg4
    refine hK _ _ (.inr hk5) ?_
    clear hK K
    have HX4 : Hid (OwnB w4 B v4 (l ++ [2]) ∧ Below B w w4 ∧ K8 w w4) := hid ⟨by unfold OwnB; rw [List.length_append, ← HM.out, show bcells (l ++ [2]) = bcells l ++ [.int .u8 2] from by unfold bcells; rw [List.map_append]; rfl]; exact hv4, below_own ((HW2.out.1.mono HB.out).alloc hB2 _) (HOA.out _) (by simp; omega) hg4, (HW2.out.2.2.1.alloc _).trans hk5⟩
    have HBK4 := hid (boxd_k8 (w := w2.alloc (.cells #[.int .u8 2] 5)) ((Below.heap_alloc w2 _ _ HW2.out.2.2.2).trans HBK2.out) hk5)
    have HC := hid (pputpath_any S PA pc d.path B v4 (l ++ [2]) w4 HSB.out (HIN.out w4 HX4.out.2.1).2 HPP.out HX4.out.1 (Nat.le_trans HB.out HX4.out.2.1.size) (by have := HM.out; simp; omega))
    clear hv4 hg4 hwh4 hrow hk5 hB2
    refine ot_step rfl (fun K hK => ?_)
    go_simp
    refine HC.out.mono ?_
    rintro e w5 ⟨v5, rfl, hv5, hb5, hk5⟩
    go_simp
    refine hK _ _ (.inr hk5) ?_
    clear hK K
    have HX5 : Hid (OwnB w5 B v5 (l ++ [2] ++ pathC d.path) ∧ Below B w w5 ∧ K8 w w5) := hid ⟨hv5, HX4.out.2.1.trans hb5, HX4.out.2.2.trans hk5⟩
    have HBK5 := hid (boxd_k8 HBK4.out hk5)
    refine ot_free ?_
    simp only [atR]
    show wpQuiet _ _ _ _ [_] _
    try simp only [acR, Act.put] at *
    repeat (go_big_quiet_step (fail))
    refine wpQuiet_nil ?_
    refine ot_end ?_
    have r0 : w5.cell? ⟨w.heap.size, 0, none⟩ = some (.int .i64 2) := Go.Joins.cell_of_block HBK5.out 0
    have r1 : w5.cell? ⟨w.heap.size, 2, none⟩ = some (.int .i64 d.val.kind) := Go.Joins.cell_of_block HBK5.out 2
    have r2 : w5.cell? ⟨w.heap.size, 3, none⟩ = some (.int .i64 d.val.num) := Go.Joins.cell_of_block HBK5.out 3
    have r3 : w5.cell? ⟨w.heap.size, 4, none⟩ = some (.string d.val.text) := Go.Joins.cell_of_block HBK5.out 4
    have r4 : w5.cell? ⟨w.heap.size, 5, none⟩ = some (.slice VA d.val.items.length vc) := Go.Joins.cell_of_block HBK5.out 5
    have r5 : w5.cell? ⟨w.heap.size, 6, none⟩ = some (.slice VA' d.val.names.length vc') := Go.Joins.cell_of_block HBK5.out 6
    have r6 : w5.cell? ⟨w.heap.size, 7, none⟩ = some (.int .i64 d.num) := Go.Joins.cell_of_block HBK5.out 7
    have hL5 : Hid ((l ++ [2] ++ pathC d.path).length ≤ 140737480000000) := hid (by
      have h1 := (grp_length d.path.length).1
      have h2 := flat_small HPP.out.2
      have h3 := HPP.out.1
      have h4 := HL.out
      unfold pathC
      simp only [List.length_append, List.length_cons, List.length_nil]
      omega)
    go_wp2_with fail
    go_ret
    have hfin : codeD1 d = [2] ++ pathC d.path := by unfold codeD1; rw [HKE.out]; simp
    rw [hfin, ← List.append_assoc]
    exact ⟨_, rfl, HX5.out⟩
  · have HKE := hid hkk
    obtain ⟨nn, hnn⟩ : ∃ nn : Nat, d.num = (nn : Int) := ⟨d.num.toNat, by omega⟩
    have hn9 : nn ≤ 999 := by omega
    have HNN := hid hnn
    have hk3 := hkk.1
    have hbk := HBK.out
    rw [hk3, hnn] at hbk hw1 ⊢
    clear hkk hk3 hnn
    have HBKK := hid hbk
    go_wp2_with fail
    first | rw [← hw1] | skip
    clear hw1
    have q0 := cell_k8 (i := 0) (show w1.drew.heap[w.heap.size]? = _ from HBKK.out) (by decide) rfl
    have q1 := cell_k8 (i := 1) (show w1.drew.heap[w.heap.size]? = _ from HBKK.out) (by decide) rfl
    refine wp_region_OT K8 (fun w => Lib.OthersKept.refl _ _ _) (fun a b c h k => h.trans k) [] (.pure [0, 1, 2, 3, 6, 7] (.step 4 (.step 5 (.step 8 (.free [9] (.tail [])))))) (by kernel_rfl) (by kernel_rfl) (fun _ d _ _ _ h => by cases d <;> exact h) ?_
    generalize hw2 : w1.drew = w2 at *
    have HW2 : Hid (Below w.heap.size w w2 ∧ OwnB w2 B (.slice Av m cv) l ∧ K8 w w2 ∧ w.heap.size < w2.heap.size) := hid (by
      rw [← hw2]
      exact ⟨HB1.out.drew, HO1.out, (k8_below HB1.out).drew, (Array.getElem?_eq_some_iff.1 HBKK.out).1⟩)
    have HBK2 := hid ((show w2.heap[w.heap.size]? = w1.heap[w.heap.size]? from by rw [← hw2]; rfl).trans HBKK.out)
    clear hw2 hbk
    refine ot_pure ?_
    simp only [atR]
    show wpQuiet _ _ _ _ [_, _, _, _, _, _] _
    try simp only [acR, Act.put] at *
    repeat (go_big_quiet_step (fail))
    refine wpQuiet_nil ?_
    clear q0 q1
    refine ot_step rfl (fun K hK => ?_)
    go_simp
    refine hK _ _ (.inr ((Lib.OthersKept.refl _ _ _).alloc _)) ?_
    clear hK K
    have hml : m ≤ 140737470000000 := by rw [HM.out]; exact HL.out
    have hB2 : B ≤ w2.heap.size := Nat.le_trans HB.out HW2.out.1.size
    have HOA : Hid (∀ X : Obj, OwnB (w2.alloc X) B (.slice Av m cv) l) := hid fun X => HW2.out.2.1.below ((Below.refl _ _).alloc (Nat.le_refl _) _)
    have hrow : ∀ X : Obj, (w2.alloc X).ownsRow B 5 1 (.slice Av m cv) m (bcells l) := fun X => by have h9 := HOA.out X; unfold OwnB at h9; rw [← HM.out] at h9; exact h9
    refine ot_step rfl (fun K hK => ?_)
    refine wp_append_moved _ _ _ 46 rfl B 5 i0 (.int .u8 0) 1 1 Tryz.underlying46 hi hz0 hz1 hz2 rfl (by decide) _ m (bcells l) rfl (hrow _) ⟨w2.heap.size, 0, none⟩ 1 1 [.int .u8 3] rfl rfl (cell_one_new _ _ _) (by simp [Value.oneCell']) (by unfold maxLen; omega) (by omega) (by simp; omega) ?_
    intro v4 w4 hv4 hg4 hwh4
    have hk5 : K8 (w2.alloc (.cells #[.int .u8 3] 5)) w4 := k8_grown (HOA.out _) hg4
    refine hK _ _ (.inr hk5) ?_
    clear hK K
    have HX4 : Hid (OwnB w4 B v4 (l ++ [3]) ∧ Below B w w4 ∧ K8 w w4) := hid ⟨by unfold OwnB; rw [List.length_append, ← HM.out, show bcells (l ++ [3]) = bcells l ++ [.int .u8 3] from by unfold bcells; rw [List.map_append]; rfl]; exact hv4, below_own ((HW2.out.1.mono HB.out).alloc hB2 _) (HOA.out _) (by simp; omega) hg4, (HW2.out.2.2.1.alloc _).trans hk5⟩
    have HBK4 := hid (boxd_k8 (w := w2.alloc (.cells #[.int .u8 3] 5)) ((Below.heap_alloc w2 _ _ HW2.out.2.2.2).trans HBK2.out) hk5)
    have HC := hid (pputpath_any S PA pc d.path B v4 (l ++ [3]) w4 HSB.out (HIN.out w4 HX4.out.2.1).2 HPP.out HX4.out.1 (Nat.le_trans HB.out HX4.out.2.1.size) (by have := HM.out; simp; omega))
    clear hv4 hg4 hwh4 hrow hk5 hB2
    refine ot_step rfl (fun K hK => ?_)
    go_simp
    refine HC.out.mono ?_
    rintro e w5 ⟨v5, rfl, hv5, hb5, hk5⟩
    go_simp
    refine hK _ _ (.inr hk5) ?_
    clear hK K
    have HX5 : Hid (OwnB w5 B v5 (l ++ [3] ++ pathC d.path) ∧ Below B w w5 ∧ K8 w w5) := hid ⟨hv5, HX4.out.2.1.trans hb5, HX4.out.2.2.trans hk5⟩
    have HBK5 := hid (boxd_k8 HBK4.out hk5)
    refine ot_free ?_
    simp only [atR]
    show wpQuiet _ _ _ _ [_] _
    try simp only [acR, Act.put] at *
    repeat (go_big_quiet_step (fail))
    refine wpQuiet_nil ?_
    refine ot_end ?_
    have r0 : w5.cell? ⟨w.heap.size, 0, none⟩ = some (.int .i64 3) := Go.Joins.cell_of_block HBK5.out 0
    have r1 : w5.cell? ⟨w.heap.size, 2, none⟩ = some (.int .i64 d.val.kind) := Go.Joins.cell_of_block HBK5.out 2
    have r2 : w5.cell? ⟨w.heap.size, 3, none⟩ = some (.int .i64 d.val.num) := Go.Joins.cell_of_block HBK5.out 3
    have r3 : w5.cell? ⟨w.heap.size, 4, none⟩ = some (.string d.val.text) := Go.Joins.cell_of_block HBK5.out 4
    have r4 : w5.cell? ⟨w.heap.size, 5, none⟩ = some (.slice VA d.val.items.length vc) := Go.Joins.cell_of_block HBK5.out 5
    have r5 : w5.cell? ⟨w.heap.size, 6, none⟩ = some (.slice VA' d.val.names.length vc') := Go.Joins.cell_of_block HBK5.out 6
    have r6 : w5.cell? ⟨w.heap.size, 7, none⟩ = some (.int .i64 (nn : Int)) := Go.Joins.cell_of_block HBK5.out 7
    have hL5 : Hid ((l ++ [3] ++ pathC d.path).length ≤ 140737480000000) := hid (by
      have h1 := (grp_length d.path.length).1
      have h2 := flat_small HPP.out.2
      have h3 := HPP.out.1
      have h4 := HL.out
      unfold pathC
      simp only [List.length_append, List.length_cons, List.length_nil]
      omega)
    have HC6 := hid (pputone_any B nn v5 (l ++ [3] ++ pathC d.path) w5 HX5.out.1 (Nat.le_trans HB.out HX5.out.2.1.size) (by omega) (by have := hL5.out; omega))
    go_wp2_with fail
    refine HC6.out.mono ?_
    rintro e w6 ⟨v6, rfl, hv6, hb6, hk6⟩
    have hfin : codeD1 d = [3] ++ pathC d.path ++ grp nn := by unfold codeD1; rw [HKE.out.1, HNN.out]; simp
    have HX6 : Hid (OwnB w6 B v6 (l ++ codeD1 d) ∧ Below B w w6 ∧ K8 w w6) := hid ⟨by rw [hfin, ← List.append_assoc, ← List.append_assoc]; exact hv6, HX5.out.2.1.trans hb6, HX5.out.2.2.trans hk6⟩
    clear hfin hv6 hb6 hk6
    go_wp2_with fail
    go_ret
    exact ⟨_, rfl, HX6.out⟩
end Go.Proofs.YtnamdlljdgllmaaGreat

/- A list's code is read back: plain. -/
namespace Go.Proofs.YtnamdlljdgllmaaGreat
set_option linter.unusedVariables false
set_option linter.unusedSimpArgs false
set_option maxRecDepth 100000
def codeDs (l : List DelT) : List UInt8 := if checkD l = 0 then grp l.length ++ (l.map codeD1).flatten else []
theorem mayD_names {d : DelT} (h : mayD d = true) : NamesOK d.path := mayP_ok (mayD_path h)
theorem codeD1_small {d : DelT} (h : mayD d = true) (hz : sizeT d.val ≤ 9223372036854775807) : (codeD1 d).length ≤ 2100000 := by
  have h1 := pathC_small (mayD_names h)
  have h3 := encO_length hz
  have h4 := (grp_length d.num.toNat).1
  unfold codeD1
  rw [List.length_append, List.length_append]
  split
  · simp; omega
  split
  · simp; omega
  · simp; omega
theorem codeDs_small : ∀ {l : List DelT}, (∀ d ∈ l, mayD d = true ∧ sizeT d.val ≤ 9223372036854775807) → ((l.map codeD1).flatten).length ≤ 2100000 * l.length
  | [], _ => by simp
  | a :: r, h => by
    have h1 := codeD1_small (h a (by simp)).1 (h a (by simp)).2
    have h2 := codeDs_small (l := r) fun o ho => h o (List.mem_cons_of_mem _ ho)
    simp only [List.map_cons, List.flatten_cons, List.length_append, List.length_cons]
    omega
theorem checkD_zero {l : List DelT} (h : checkD l = 0) : l.length ≤ 64 ∧ ∀ d ∈ l, mayD d = true := by
  unfold checkD at h
  by_cases h1 : 64 < l.length
  · rw [if_pos h1] at h; omega
  · rw [if_neg h1] at h
    by_cases h2 : l.all mayD = true
    · exact ⟨by omega, fun d hd => List.all_eq_true.1 h2 d hd⟩
    · rw [if_neg h2] at h; omega
def SmallZD (l : List DelT) : Prop := ∀ d ∈ l, sizeT d.val ≤ 9223372036854775807
end Go.Proofs.YtnamdlljdgllmaaGreat

/- A value changed within: what is done at an item is done to the whole. -/
namespace Go.Proofs.YtnamdlljdgllmaaGreat
set_option linter.unusedVariables false
set_option linter.unusedSimpArgs false
open Go.RowKit
def setT : VT → Nat → VT → VT
  | .mk k i s l ns, j, u => .mk k i s (l.set j u) ns
def OAt (w : World) (F : Nat → Prop) (t : VT) (g o : Nat) : Prop := ∃ C ty A c A' c', w.heap[g]? = some (.cells C ty (0, 0)) ∧ C[o]? = some (.int .i64 t.kind) ∧ C[o + 1]? = some (.int .i64 t.num) ∧ C[o + 2]? = some (.string t.text) ∧ C[o + 3]? = some (.slice A t.items.length c) ∧ C[o + 4]? = some (.slice A' t.names.length c') ∧
  OV w F t (.agg #[.int .i64 t.kind, .int .i64 t.num, .string t.text, .slice A t.items.length c, .slice A' t.names.length c']) ∧ ¬ F g ∧ ∀ b, F b → b < w.heap.size
def Mut (F : Nat → Prop) (g o : Nat) (w w' : World) : Prop := w.heap.size ≤ w'.heap.size ∧ (∀ b, b < w.heap.size → ¬ F b → b ≠ g → w'.heap[b]? = w.heap[b]?) ∧
  (∀ C ty fz, w.heap[g]? = some (.cells C ty fz) → ∃ C', w'.heap[g]? = some (.cells C' ty fz) ∧ C'.size = C.size ∧ ∀ i, (i < o ∨ o + 5 ≤ i) → C'[i]? = C[i]?) ∧ w'.os = w.os ∧ w'.tape = w.tape ∧ w'.output = w.output
def Own (F : Nat → Prop) (w : World) (F' : Nat → Prop) : Prop := ∀ b, F' b → F b ∨ w.heap.size ≤ b
set_option maxHeartbeats 1000000 in
theorem OAt.item {w : World} {F : Nat → Prop} {t : VT} {g o : Nat} (h : OAt w F t g o) {j : Nat} (hj : j < t.items.length) :
    ∃ G Fj, (∃ c, w.cell? ⟨g, o + 3, none⟩ = some (.slice (some ⟨G, 0, none⟩) t.items.length c)) ∧ F G ∧ OAt w Fj t.items[j] G (j * 5) ∧ (∀ b, Fj b → F b) ∧ ∀ w' u F', Mut Fj G (j * 5) w w' → OAt w' F' u G (j * 5) → Own Fj w F' → ∃ F'', Own F w F'' ∧ OAt w' F'' (setT t j u) g o ∧ Mut F g o w w' := by
  obtain ⟨C, ty, A, c, A', c', hg, g0, g1, g2, g3, g4, hv, hFg, hlt⟩ := h
  cases t with
  | mk k i s l ns =>
  simp only [VT.kind, VT.num, VT.text, VT.items, VT.names] at *
  have hgs := (Array.getElem?_eq_some_iff.1 hg).1
  have hjl : j < l.length := hj
  unfold OV at hv
  obtain ⟨A1, c1, A1', c1', xs, hag, h1, h2, h3, h4, h5, h6, h7, h8, h9, h10, h11, h12⟩ := hv
  injection hag with hag; injection hag with hag
  injection hag with y0 hag; injection hag with y1 hag; injection hag with y2 hag; injection hag with y3 hag; injection hag with y4 hag
  injection y3 with e1 _ e3
  injection y4 with e4 _ e6
  subst e1 e3 e4 e6
  have h8' := h8
  obtain ⟨hxl, h8⟩ := h8
  rcases h8 with ⟨-, h⟩ | ⟨G, cap, cur, hv, -, hh, hn, hm, hsz, htk⟩
  · omega
  injection hv with e1 e2 e3
  subst e1 e3
  have hFG := h10 _ rfl
  have hGs := hlt _ hFG
  obtain ⟨Fs, k1, k2, k3⟩ := h12.at
  have hcur : ∀ m, m < l.length * 5 → xs[m]? = cur[m]? := fun m hm' => by rw [← htk, List.getElem?_take_of_lt hm', Array.getElem?_toList]
  obtain ⟨d0, d1, d2, d3, d4, e0, e1, e2, e3, e4, hi⟩ := k3 j hj
  obtain ⟨B, b, B', b', ys, hag2, -⟩ := hi.shape
  injection hag2 with hag2; injection hag2 with hag2
  injection hag2 with z0 hag2; injection hag2 with z1 hag2; injection hag2 with z2 hag2; injection hag2 with z3 hag2; injection hag2 with z4 hag2
  subst z0 z1 z2 z3 z4
  rw [hcur _ (by omega)] at e0 e1 e2 e3 e4
  refine ⟨G, Fs j, ⟨c, (Go.Joins.cell_of_block hg (o + 3)).trans g3⟩, hFG, ⟨cur, 29, B, b, B', b', hh, e0, e1, e2, e3, e4, hi, fun hb => (k2 _ _ hb).2.1 _ rfl rfl, fun x hx => hlt x (k2 _ _ hx).1⟩, fun x hx => (k2 _ _ hx).1, ?_⟩
  rintro w' u F' ⟨m1, m2, m3, m4, m5, m6⟩ hu hown
  obtain ⟨cur', hh', hsz', hout⟩ := m3 cur _ _ hh
  obtain ⟨C2, ty2, B2, b2, B2', b2', hg2, u0, u1, u2, u3, u4, huv, huF, hult⟩ := hu
  have hC2 : C2 = cur' := by
    have := hg2.symm.trans hh'
    injection this with this
    injection this
  subst hC2
  have hkeep : ∀ x, x < w.heap.size → ¬ Fs j x → x ≠ G → w'.heap[x]? = w.heap[x]? := m2
  have hnG : g ≠ G := fun e => hFg (e ▸ hFG)
  have hnj : ¬ Fs j g := fun e => hFg (k2 _ _ e).1
  have hgk := hkeep g hgs hnj hnG
  have hl5 : l.length * 5 ≤ C2.size := by rw [hsz', hsz]; exact Nat.mul_le_mul_right 5 hn
  have hxs' : ∀ m, m < l.length * 5 → (C2.toList.take (l.length * 5))[m]? = C2[m]? := fun m hm' => by rw [List.getElem?_take_of_lt hm', Array.getElem?_toList]
  have hxl' : (C2.toList.take (l.length * 5)).length = l.length * 5 := by
    have : C2.toList.length = C2.size := Array.length_toList
    rw [List.length_take]
    omega
  have hlen : (l.set j u).length = l.length := List.length_set ..
  have hrow : w'.ownsRow 0 29 5 (.slice (some ⟨G, 0, none⟩) l.length c) l.length (C2.toList.take (l.length * 5)) :=
    ⟨hxl', .inr ⟨G, c, C2, rfl, Nat.zero_le _, hh', hn, hm, by rw [hsz', hsz], rfl⟩⟩
  have hnames : w'.ownsRow 0 9 1 (.slice A' ns.length c') ns.length (ns.map Value.string) := row_keep h7 fun a ha => hkeep _ (hlt _ (h9 a ha)) (fun e => (k2 _ _ e).2.2 a ha rfl) (fun e => h11 _ a rfl ha e.symm)
  have hset : OV w' (fun x => F x ∨ (w.heap.size ≤ x ∧ x < w'.heap.size)) (.mk k i s (l.set j u) ns) (.agg #[.int .i64 k, .int .i64 i, .string s, .slice (some ⟨G, 0, none⟩) (l.set j u).length c, .slice A' ns.length c']) := by
    refine OV.mk h1 h2 h3 (by rw [hlen]; exact h4) h5 h6 hnames (by rw [hlen]; exact hrow) (fun a ha => .inl (h9 a ha)) (fun a ha => .inl (h10 a ha)) h11 ?_
    refine OVs.of (fun i x => (i = j ∧ F' x) ∨ (i ≠ j ∧ Fs i x)) (by rw [hlen]; exact hxl') ?_ ?_ ?_
    · rintro i i' x hne (⟨p1, p2⟩ | ⟨p1, p2⟩) (⟨p3, p4⟩ | ⟨p3, p4⟩)
      · omega
      · rcases hown x p2 with q | q
        · exact k1 _ _ x (fun e => p3 e.symm) q p4
        · have := hlt x (k2 _ _ p4).1; omega
      · rcases hown x p4 with q | q
        · exact k1 _ _ x (fun e => p1 e.symm) q p2
        · have := hlt x (k2 _ _ p2).1; omega
      · exact k1 _ _ x hne p2 p4
    · rintro i x (⟨p1, p2⟩ | ⟨p1, p2⟩)
      · rcases hown x p2 with q | q
        · exact ⟨.inl (k2 _ _ q).1, (k2 _ _ q).2⟩
        · refine ⟨.inr ⟨q, hult x p2⟩, fun a ha => ?_, fun a ha => ?_⟩
          · have := hlt _ (h10 a ha); omega
          · have := hlt _ (h9 a ha); omega
      · exact ⟨.inl (k2 _ _ p2).1, (k2 _ _ p2).2⟩
    · intro i hi'
      rw [hlen] at hi'
      by_cases e : i = j
      · subst e
        rw [hxs' _ (by omega), hxs' _ (by omega), hxs' _ (by omega), hxs' _ (by omega), hxs' _ (by omega)]
        refine ⟨_, _, _, _, _, u0, u1, u2, u3, u4, ?_⟩
        rw [List.getElem_set_self]
        exact huv.imp fun x hx => .inl ⟨rfl, hx⟩
      · obtain ⟨f0, f1, f2, f3, f4, v0, v1, v2, v3, v4, hvi⟩ := k3 i hi'
        rw [hcur _ (by omega)] at v0 v1 v2 v3 v4
        rw [hxs' _ (by omega), hxs' _ (by omega), hxs' _ (by omega), hxs' _ (by omega), hxs' _ (by omega), hout _ (by omega), hout _ (by omega), hout _ (by omega), hout _ (by omega), hout _ (by omega)]
        refine ⟨f0, f1, f2, f3, f4, v0, v1, v2, v3, v4, ?_⟩
        rw [List.getElem_set_ne (fun e' => e e'.symm)]
        refine (hvi.keep fun x hx => hkeep x (hlt x (k2 _ _ hx).1) (fun e' => k1 _ _ x e hx e') (fun e' => (k2 _ _ hx).2.1 _ rfl e'.symm)).imp fun x hx => .inr ⟨e, hx⟩
  refine ⟨_, fun x hx => hx.imp id And.left, ⟨C, ty, some ⟨G, 0, none⟩, c, A', c', hgk.trans hg, g0, g1, g2, ?_, g4, hset, ?_, ?_⟩, m1, fun x hx hF hne => hkeep x hx (fun e => hF (k2 _ _ e).1) (fun e => hF (e ▸ hFG)), ?_, m4, m5, m6⟩
  · show C[o + 3]? = some (.slice (some ⟨G, 0, none⟩) (l.set j u).length c)
    rw [hlen]; exact g3
  · rintro (e | e)
    · exact hFg e
    · omega
  · rintro x (e | e)
    · exact Nat.lt_of_lt_of_le (hlt x e) m1
    · exact e.2
  · intro C3 ty3 fz3 hC3
    exact ⟨C3, hgk.trans hC3, rfl, fun _ _ => rfl⟩
theorem five_block {w : World} {G o : Nat} {C : Array Value} {ty : TypeId} {fz : Nat × Nat} {c0 c1 c2 c3 c4 : Value} (h : w.heap[G]? = some (.cells C ty fz)) (ho : o + 4 < C.size) :
    ∃ C', (five w G o c0 c1 c2 c3 c4).heap[G]? = some (.cells C' ty fz) ∧ C'.size = C.size ∧ C'[o]? = some c0 ∧ C'[o + 1]? = some c1 ∧ C'[o + 2]? = some c2 ∧ C'[o + 3]? = some c3 ∧ C'[o + 4]? = some c4 ∧ ∀ i, (i < o ∨ o + 5 ≤ i) → C'[i]? = C[i]? := by
  have h1 := Go.Joins.block_setCell (i := o) h c0
  have h2 := Go.Joins.block_setCell (i := o + 1) h1 c1
  have h3 := Go.Joins.block_setCell (i := o + 2) h2 c2
  have h4 := Go.Joins.block_setCell (i := o + 3) h3 c3
  have h5 := Go.Joins.block_setCell (i := o + 4) h4 c4
  refine ⟨_, h5, by simp, ?_, ?_, ?_, ?_, ?_, fun i hi => ?_⟩
  all_goals simp only [Array.getElem?_setIfInBounds, Array.size_setIfInBounds]
  · rw [if_neg (by omega), if_neg (by omega), if_neg (by omega), if_neg (by omega), if_pos trivial, if_pos (by omega)]
  · rw [if_neg (by omega), if_neg (by omega), if_neg (by omega), if_pos trivial, if_pos (by omega)]
  · rw [if_neg (by omega), if_neg (by omega), if_pos trivial, if_pos (by omega)]
  · rw [if_neg (by omega), if_pos trivial, if_pos (by omega)]
  · rw [if_pos trivial, if_pos (by omega)]
  · rw [if_neg (by omega), if_neg (by omega), if_neg (by omega), if_neg (by omega), if_neg (by omega)]
theorem OAt.store {w : World} {F : Nat → Prop} {t : VT} {g o : Nat} (h : OAt w F t g o) {j : Nat} (hj : j < t.items.length) :
    ∃ G, (∃ c, w.cell? ⟨g, o + 3, none⟩ = some (.slice (some ⟨G, 0, none⟩) t.items.length c)) ∧ F G ∧ (∃ C ty, w.heap[G]? = some (.cells C ty (0, 0)) ∧ j * 5 + 4 < C.size) ∧
      ∀ w5 F' u A c A' c', Below w.heap.size w w5 → OV w5 F' u (.agg #[.int .i64 u.kind, .int .i64 u.num, .string u.text, .slice A u.items.length c, .slice A' u.names.length c']) → (∀ b, F' b → w.heap.size ≤ b ∧ b < w5.heap.size) →
        ∃ F'', Own F w F'' ∧ OAt (five w5 G (j * 5) (.int .i64 u.kind) (.int .i64 u.num) (.string u.text) (.slice A u.items.length c) (.slice A' u.names.length c')) F'' (setT t j u) g o ∧
          Mut F g o w (five w5 G (j * 5) (.int .i64 u.kind) (.int .i64 u.num) (.string u.text) (.slice A u.items.length c) (.slice A' u.names.length c')) := by
  obtain ⟨G, Fj, hc, hFG, hoj, hsub, hup⟩ := h.item hj
  obtain ⟨C, ty, B, b, B', b', hg, g0, g1, g2, g3, g4, hv, hFg, hlt⟩ := hoj
  have hGs := (Array.getElem?_eq_some_iff.1 hg).1
  have h4 : j * 5 + 4 < C.size := (Array.getElem?_eq_some_iff.1 g4).1
  refine ⟨G, hc, hFG, ⟨C, ty, hg, h4⟩, fun w5 F' u A c A' c' hb hu hF => ?_⟩
  have hr5 := five_rest w5 G (j * 5) (.int .i64 u.kind) (.int .i64 u.num) (.string u.text) (.slice A u.items.length c) (.slice A' u.names.length c')
  have hk := five_other w5 G (j * 5) (.int .i64 u.kind) (.int .i64 u.num) (.string u.text) (.slice A u.items.length c) (.slice A' u.names.length c')
  have hz := five_size w5 G (j * 5) (.int .i64 u.kind) (.int .i64 u.num) (.string u.text) (.slice A u.items.length c) (.slice A' u.names.length c')
  obtain ⟨C', hC', hsz, k0, k1, k2, k3, k4, kout⟩ := five_block (c0 := .int .i64 u.kind) (c1 := .int .i64 u.num) (c2 := .string u.text) (c3 := .slice A u.items.length c) (c4 := .slice A' u.names.length c') ((hb.block G hGs).trans hg) h4
  refine hup _ u F' ⟨by rw [hz]; exact hb.size, fun x hx _ hne => (hk x hne).trans (hb.block x hx), fun C2 ty2 fz2 h2 => ?_, hr5.1.trans hb.os, hr5.2.1.trans hb.tape, hr5.2.2.trans hb.output⟩ ⟨C', ty, A, c, A', c', hC', k0, k1, k2, k3, k4, hu.keep fun x hx => hk x (by have := (hF x hx).1; omega), fun hx => by have := (hF G hx).1; omega, fun x hx => by rw [hz]; exact (hF x hx).2⟩ fun x hx => .inr (hF x hx).1
  have := hg.symm.trans h2
  injection this with this
  injection this with e1 e2 e3
  subst e1 e2 e3
  exact ⟨C', hC', hsz, kout⟩
theorem run_clear_cells {P : Program} (w : World) (t e ty : TypeId) (z : Value) (ht : P.underlying t = some (.slice e)) (hv : ∀ w, (zeroValue e).run P w = .ok z w) (b o n c : Nat) (hn : 0 < n) (h1 : ∀ v ∈ (Builtin.zeroCells z.cells n).toList, v.oneCell' = true)
    (hc : ∀ j, j < (Builtin.zeroCells z.cells n).toList.length → (w.cell? ⟨b, o + j, none⟩).isSome = true) (hf : ∀ j, j < (Builtin.zeroCells z.cells n).toList.length → w.frozen? ⟨b, o + j, none⟩ = false) :
    (Builtin.clear_ #[t] ty #[.slice (some ⟨b, o, none⟩) n c]).run P w = .ok (.tuple #[]) (w.setCells b o (Builtin.zeroCells z.cells n).toList) := by
  have hst := run_storeCells_cells (P := P) b o (Builtin.zeroCells z.cells n).toList 0 w (by simpa only [Nat.add_zero] using hc) (by simpa only [Nat.add_zero] using hf) h1
  simp only [Nat.add_zero] at hst
  obtain ⟨m, rfl⟩ : ∃ m, n = m + 1 := ⟨n - 1, by omega⟩
  simp [Builtin.clear_, run_underlying ht, hv, hst]
def zeros5 (n : Nat) : List Value := (Builtin.zeroCells #[.int .i64 0, .int .i64 0, .string ⟨#[]⟩, .slice none 0 0, .slice none 0 0] n).toList
theorem zeros5_length (n : Nat) : (zeros5 n).length = n * 5 := by simp [zeros5, Builtin.zeroCells]
theorem zeros5_one (n : Nat) : ∀ v ∈ zeros5 n, v.oneCell' = true := by
  intro v hv
  simp only [zeros5, Builtin.zeroCells, Array.toList_map, List.mem_map] at hv
  obtain ⟨i, -, rfl⟩ := hv
  have h : i % 5 < 5 := Nat.mod_lt _ (by omega)
  show Value.oneCell' (#[Value.int .i64 0, .int .i64 0, .string ⟨#[]⟩, .slice none 0 0, .slice none 0 0][i % 5]!) = true
  generalize i % 5 = m at h
  match m, h with
  | 0, _ => rfl
  | 1, _ => rfl
  | 2, _ => rfl
  | 3, _ => rfl
  | 4, _ => rfl
theorem run_clear_vals (w : World) (ty : TypeId) (b o n c : Nat) (hn : 0 < n) (hc : ∀ j, j < n * 5 → (w.cell? ⟨b, o + j, none⟩).isSome = true) (hf : ∀ j, j < n * 5 → w.frozen? ⟨b, o + j, none⟩ = false) :
    (Builtin.clear_ #[27] ty #[.slice (some ⟨b, o, none⟩) n c]).run Tryz.prog w = .ok (.tuple #[]) (w.setCells b o (zeros5 n)) := by
  obtain ⟨i0, hi, hz, -, -⟩ := info_parts Tryz.infoVal
  have hv : ∀ w, (zeroValue 29).run Tryz.prog w = .ok (.agg #[.int .i64 0, .int .i64 0, .string ⟨#[]⟩, .slice none 0 0, .slice none 0 0]) w := fun w => by simp [zeroValue, typeInfo, hi, hz]
  have hl := zeros5_length n
  exact run_clear_cells w 27 29 ty _ Tryz.underlying27 hv b o n c hn (zeros5_one n) (fun j hj => hc j (by rw [← hl]; exact hj)) (fun j hj => hf j (by rw [← hl]; exact hj))
open Lib (hid)
theorem setCells_block {w : World} {b : Nat} {ty : TypeId} {fz : Nat × Nat} : ∀ (vs : List Value) (o : Nat) (C : Array Value), w.heap[b]? = some (.cells C ty fz) → o + vs.length ≤ C.size →
    ∃ C', (w.setCells b o vs).heap[b]? = some (.cells C' ty fz) ∧ C'.size = C.size ∧ ∀ m, C'[m]? = if o ≤ m ∧ m < o + vs.length then vs[m - o]? else C[m]? := by
  intro vs
  induction vs generalizing w with
  | nil => exact fun o C h _ => ⟨C, h, rfl, fun m => by rw [if_neg (by simp only [List.length_nil]; omega)]⟩
  | cons v r ih =>
    intro o C h hl
    simp only [List.length_cons] at hl
    obtain ⟨C', h1, h2, h3⟩ := ih (w := w.setCell ⟨b, o, none⟩ v) (o + 1) (C.setIfInBounds o v) (Go.Joins.block_setCell (i := o) h v) (by simp; omega)
    refine ⟨C', h1, by rw [h2]; simp, fun m => ?_⟩
    rw [h3 m]
    simp only [List.length_cons]
    by_cases hm : o + 1 ≤ m ∧ m < o + 1 + r.length
    · rw [if_pos hm, if_pos (by omega)]
      obtain ⟨q, rfl⟩ : ∃ q, m = o + 1 + q := ⟨m - (o + 1), by omega⟩
      rw [show o + 1 + q - (o + 1) = q by omega, show o + 1 + q - o = q + 1 by omega]
      rfl
    · rw [if_neg hm, Array.getElem?_setIfInBounds]
      by_cases e : o = m
      · subst e
        rw [if_pos rfl, if_pos (by omega), if_pos (by omega), Nat.sub_self]
        rfl
      · rw [if_neg e, if_neg (by omega)]
set_option maxHeartbeats 4000000 in
set_option maxRecDepth 100000 in
theorem sldelV_any (b n cap i j : Nat) (C : Array Value) (w : World) (hG : w.heap[b]? = some (.cells C 29 (0, 0))) (hsz : C.size = cap * 5) (hn : n ≤ cap) (hm : cap ≤ 9223372036854775807) (hn2 : n ≤ 1759218604390) (hij : i < j) (hj : j ≤ n) (h1 : ∀ v ∈ (C.toList.drop (j * 5)).take ((n - j) * 5), v.oneCell' = true) :
    Calls Tryz.prog 160 #[.slice (some ⟨b, 0, none⟩) n cap, .int .i64 i, .int .i64 j] w fun e w' => e = .returned (.slice (some ⟨b, 0, none⟩) (i + (n - j)) cap) ∧ w' = (w.drew.setCells b (i * 5) ((C.toList.drop (j * 5)).take ((n - j) * 5))).setCells b ((i + (n - j)) * 5) (zeros5 (n - (i + (n - j)))) := by
  obtain ⟨i0, hi, hi0, hi1, hi2⟩ := info_parts Tryz.infoVal
  obtain ⟨news, hnews⟩ : ∃ news, news = (C.toList.drop (j * 5)).take ((n - j) * 5) := ⟨_, rfl⟩
  rw [← hnews]
  have hlen : news.length = (n - j) * 5 := by
    rw [hnews, List.length_take, List.length_drop, Array.length_toList, hsz]
    omega
  have HN := hid hnews
  have hne : ((i : Int) == (j : Int)) = false := beq_false_of_ne (by omega)
  clear hnews
  go_enter Tryz.func160, Tryz.ntmps160
  go_wp2_with fail
  have hic : i ≤ cap := by omega
  have hjc : j ≤ cap := by omega
  refine wp_region_OT Always (fun _ => trivial) (fun _ _ _ _ _ => trivial) [] (.free [0, 1, 2, 3, 4, 5] (.step 6 (.step 7 (.tail [])))) (by kernel_rfl) (by kernel_rfl) (fun _ d _ _ _ h => by cases d <;> exact h) ?_
  refine ot_free ?_
  simp only [atR]
  show wpQuiet _ _ _ _ [_, _, _, _, _, _] _
  try simp only [acR, Act.put]
  repeat (go_big_quiet_step (fail))
  refine wpQuiet_nil ?_
  have hcell : ∀ m, m < C.size → w.drew.cell? ⟨b, m, none⟩ = C[m]? := fun m _ => Go.Joins.cell_of_block (w := w) hG m
  have hfr : ∀ m, w.drew.frozen? ⟨b, m, none⟩ = false := fun m => Go.Joins.unfrozen_of_block (w := w) hG m
  have hnew : ∀ m v, news[m]? = some v → C[j * 5 + m]? = some v ∧ m < (n - j) * 5 := by
    intro m v hv
    have hm' : m < (n - j) * 5 := by rw [← hlen]; exact (List.getElem?_eq_some_iff.1 hv).1
    rw [HN.out, List.getElem?_take_of_lt hm', List.getElem?_drop, Array.getElem?_toList] at hv
    exact ⟨hv, hm'⟩
  obtain ⟨ad, hA, hsrc⟩ : ∃ ad : Addr, (if cap = j then (some ⟨b, 0, none⟩ : Option Addr) else some ⟨b, j * 5, none⟩) = some ad ∧ ∀ m v, news[m]? = some v → w.drew.cell? (ad.add m) = some v := by
    by_cases hcj : cap = j
    · refine ⟨_, if_pos hcj, fun m v hv => ?_⟩
      have := (hnew m v hv).2
      omega
    · refine ⟨_, if_neg hcj, fun m v hv => ?_⟩
      have h2 := hnew m v hv
      rw [add_at]
      exact (hcell _ (Array.getElem?_eq_some_iff.1 h2.1).1).trans h2.1
  rw [hA]
  have hone : ∀ u ∈ news, u.oneCell' = true := fun u hu => h1 u (by rw [HN.out] at hu; exact hu)
  refine ot_step rfl (fun K hK => ?_)
  refine step_append_room rfl (.tmp 22) (.tmp 25) 27 rfl 29 i0 5 Tryz.underlying27 hi hi1 b 0 i cap rfl ad (n - j) (cap - j) news rfl hlen hsrc hone (by omega) (fun m hm' => ?_) ?_
  · rw [hlen] at hm'
    rw [Nat.zero_add, hcell _ (by omega), Array.getElem?_eq_getElem (by omega)]
    exact ⟨rfl, hfr _⟩
  refine hK _ _ (.inr trivial) ?_
  clear hK K
  simp only [acR, Act.put]
  rw [Nat.zero_add]
  refine ot_step rfl (fun K hK => ?_)
  go_simp
  refine hK _ _ (.inr trivial) ?_
  clear hK K
  refine ot_end ?_
  have hcl : ∀ ty, 0 < n - (i + (n - j)) → (Builtin.clear_ #[27] ty #[.slice (some ⟨b, (i + (n - j)) * 5, none⟩) (n - (i + (n - j))) (cap - (i + (n - j)))]).run Tryz.prog (w.drew.setCells b (i * 5) news) = .ok (.tuple #[]) ((w.drew.setCells b (i * 5) news).setCells b ((i + (n - j)) * 5) (zeros5 (n - (i + (n - j))))) := by
    intro ty hp
    obtain ⟨C', hC', hs', -⟩ := setCells_block (w := w.drew) news (i * 5) C hG (by rw [hlen]; omega)
    refine run_clear_vals _ ty b _ _ _ hp (fun m hm' => ?_) (fun m _ => Go.Joins.unfrozen_of_block hC' _)
    rw [Go.Joins.cell_of_block hC', Array.getElem?_eq_getElem (by omega)]
    rfl
  have hcl0 := fun ty => hcl ty (by omega)
  clear hcl hcell hfr hnew hsrc hone
  obtain ⟨w1, hw1⟩ : ∃ w1, w1 = w.drew.setCells b (i * 5) news := ⟨_, rfl⟩
  rw [← hw1] at hcl0 ⊢
  have HW1 := hid hw1
  clear hw1
  go_wp2_with fail
  go_ret
  exact ⟨rfl, by rw [HW1.out]⟩
def zeros1 (n : Nat) : List Value := (Builtin.zeroCells #[.string ⟨#[]⟩] n).toList
theorem zeros1_length (n : Nat) : (zeros1 n).length = n := by simp [zeros1, Builtin.zeroCells]
theorem zeros1_one (n : Nat) : ∀ v ∈ zeros1 n, v.oneCell' = true := by
  intro v hv
  simp only [zeros1, Builtin.zeroCells, Array.toList_map, List.mem_map] at hv
  obtain ⟨i, -, rfl⟩ := hv
  have h : i % 1 = 0 := Nat.mod_one i
  show Value.oneCell' (#[Value.string ⟨#[]⟩][i % 1]!) = true
  rw [h]
  rfl
theorem run_clear_strs (w : World) (ty : TypeId) (b o n c : Nat) (hn : 0 < n) (hc : ∀ j, j < n → (w.cell? ⟨b, o + j, none⟩).isSome = true) (hf : ∀ j, j < n → w.frozen? ⟨b, o + j, none⟩ = false) :
    (Builtin.clear_ #[23] ty #[.slice (some ⟨b, o, none⟩) n c]).run Tryz.prog w = .ok (.tuple #[]) (w.setCells b o (zeros1 n)) := by
  obtain ⟨i0, hi, hz, -, -⟩ := info_parts Tryz.infoStr
  have hv : ∀ w, (zeroValue 9).run Tryz.prog w = .ok (.string ⟨#[]⟩) w := fun w => by simp [zeroValue, typeInfo, hi, hz]
  have hl := zeros1_length n
  exact run_clear_cells w 23 9 ty _ Tryz.underlying23 hv b o n c hn (zeros1_one n) (fun j hj => hc j (by rw [← hl]; exact hj)) (fun j hj => hf j (by rw [← hl]; exact hj))
set_option maxHeartbeats 4000000 in
set_option maxRecDepth 100000 in
theorem sldelS_any (b n cap i j : Nat) (C : Array Value) (w : World) (hG : w.heap[b]? = some (.cells C 9 (0, 0))) (hsz : C.size = cap) (hn : n ≤ cap) (hm : cap ≤ 9223372036854775807) (hn2 : n ≤ 8796093021952) (hij : i < j) (hj : j ≤ n) (h1 : ∀ v ∈ (C.toList.drop j).take (n - j), v.oneCell' = true) :
    Calls Tryz.prog 159 #[.slice (some ⟨b, 0, none⟩) n cap, .int .i64 i, .int .i64 j] w fun e w' => e = .returned (.slice (some ⟨b, 0, none⟩) (i + (n - j)) cap) ∧ w' = (w.drew.setCells b i ((C.toList.drop j).take (n - j))).setCells b (i + (n - j)) (zeros1 (n - (i + (n - j)))) := by
  obtain ⟨i0, hi, hi0, hi1, hi2⟩ := info_parts Tryz.infoStr
  obtain ⟨news, hnews⟩ : ∃ news, news = (C.toList.drop j).take (n - j) := ⟨_, rfl⟩
  rw [← hnews]
  have hlen : news.length = n - j := by
    rw [hnews, List.length_take, List.length_drop, Array.length_toList, hsz]
    omega
  have HN := hid hnews
  have hne : ((i : Int) == (j : Int)) = false := beq_false_of_ne (by omega)
  clear hnews
  go_enter Tryz.func159, Tryz.ntmps159
  go_wp2_with fail
  have hic : i ≤ cap := by omega
  have hjc : j ≤ cap := by omega
  refine wp_region_OT Always (fun _ => trivial) (fun _ _ _ _ _ => trivial) [] (.free [0, 1, 2, 3, 4, 5] (.step 6 (.step 7 (.tail [])))) (by kernel_rfl) (by kernel_rfl) (fun _ d _ _ _ h => by cases d <;> exact h) ?_
  refine ot_free ?_
  simp only [atR]
  show wpQuiet _ _ _ _ [_, _, _, _, _, _] _
  try simp only [acR, Act.put]
  repeat (go_big_quiet_step (fail))
  refine wpQuiet_nil ?_
  have hcell : ∀ m, m < C.size → w.drew.cell? ⟨b, m, none⟩ = C[m]? := fun m _ => Go.Joins.cell_of_block (w := w) hG m
  have hfr : ∀ m, w.drew.frozen? ⟨b, m, none⟩ = false := fun m => Go.Joins.unfrozen_of_block (w := w) hG m
  have hnew : ∀ m v, news[m]? = some v → C[j + m]? = some v ∧ m < n - j := by
    intro m v hv
    have hm' : m < n - j := by rw [← hlen]; exact (List.getElem?_eq_some_iff.1 hv).1
    rw [HN.out, List.getElem?_take_of_lt hm', List.getElem?_drop, Array.getElem?_toList] at hv
    exact ⟨hv, hm'⟩
  obtain ⟨ad, hA, hsrc⟩ : ∃ ad : Addr, (if cap = j then (some ⟨b, 0, none⟩ : Option Addr) else some ⟨b, j, none⟩) = some ad ∧ ∀ m v, news[m]? = some v → w.drew.cell? (ad.add m) = some v := by
    by_cases hcj : cap = j
    · refine ⟨_, if_pos hcj, fun m v hv => ?_⟩
      have := (hnew m v hv).2
      omega
    · refine ⟨_, if_neg hcj, fun m v hv => ?_⟩
      have h2 := hnew m v hv
      rw [add_at]
      exact (hcell _ (Array.getElem?_eq_some_iff.1 h2.1).1).trans h2.1
  rw [hA]
  have hone : ∀ u ∈ news, u.oneCell' = true := fun u hu => h1 u (by rw [HN.out] at hu; exact hu)
  refine ot_step rfl (fun K hK => ?_)
  refine step_append_room rfl (.tmp 22) (.tmp 25) 23 rfl 9 i0 1 Tryz.underlying23 hi hi1 b 0 i cap rfl ad (n - j) (cap - j) news rfl (by rw [hlen]; omega) hsrc hone (by omega) (fun m hm' => ?_) ?_
  · rw [hlen] at hm'
    rw [Nat.zero_add, hcell _ (by omega), Array.getElem?_eq_getElem (by omega)]
    exact ⟨rfl, hfr _⟩
  refine hK _ _ (.inr trivial) ?_
  clear hK K
  simp only [acR, Act.put]
  rw [Nat.zero_add, Nat.mul_one]
  refine ot_step rfl (fun K hK => ?_)
  go_simp
  refine hK _ _ (.inr trivial) ?_
  clear hK K
  refine ot_end ?_
  have hcl : ∀ ty, 0 < n - (i + (n - j)) → (Builtin.clear_ #[23] ty #[.slice (some ⟨b, i + (n - j), none⟩) (n - (i + (n - j))) (cap - (i + (n - j)))]).run Tryz.prog (w.drew.setCells b i news) = .ok (.tuple #[]) ((w.drew.setCells b i news).setCells b (i + (n - j)) (zeros1 (n - (i + (n - j))))) := by
    intro ty hp
    obtain ⟨C', hC', hs', -⟩ := setCells_block (w := w.drew) news i C hG (by rw [hlen]; omega)
    refine run_clear_strs _ ty b _ _ _ hp (fun m hm' => ?_) (fun m _ => Go.Joins.unfrozen_of_block hC' _)
    rw [Go.Joins.cell_of_block hC', Array.getElem?_eq_getElem (by omega)]
    rfl
  have hcl0 := fun ty => hcl ty (by omega)
  clear hcl hcell hfr hnew hsrc hone
  obtain ⟨w1, hw1⟩ : ∃ w1, w1 = w.drew.setCells b i news := ⟨_, rfl⟩
  rw [← hw1] at hcl0 ⊢
  have HW1 := hid hw1
  clear hw1
  go_wp2_with fail
  go_ret
  exact ⟨rfl, by rw [HW1.out]⟩
def Keep2 (g h : Nat) (w w' : World) : Prop := w.heap.size ≤ w'.heap.size ∧ ∀ b, b < w.heap.size → b ≠ g → b ≠ h → w'.heap[b]? = w.heap[b]?
theorem Keep2.refl (g h : Nat) (w : World) : Keep2 g h w w := ⟨Nat.le_refl _, fun _ _ _ _ => rfl⟩
theorem Keep2.trans (g h : Nat) (a b c : World) (x : Keep2 g h a b) (y : Keep2 g h b c) : Keep2 g h a c := ⟨Nat.le_trans x.1 y.1, fun i hi hg hh => (y.2 i (Nat.lt_of_lt_of_le hi x.1) hg hh).trans (x.2 i hi hg hh)⟩
theorem Keep2.of {g h : Nat} {w w' : World} (x : Below w.heap.size w w') : Keep2 g h w w' := ⟨x.size, fun b hb _ _ => x.block b hb⟩
instance (g h : Nat) (w : World) : Inhabited (LaterR (Keep2 g h) w) := ⟨⟨w, Keep2.refl g h w⟩⟩
theorem wrong_zero {t : VT} {p : List ByteArray} (h : 0 = wrongT t p) : mayT t = true ∧ t.kind = 7 ∧ mayP p = true := by
  unfold wrongT at h
  cases hd : docB t with
  | false => rw [hd] at h; simp at h
  | true =>
    cases hp : mayP p with
    | false => rw [hd, hp] at h; simp at h
    | true =>
      unfold docB at hd
      simp only [Bool.and_eq_true, decide_eq_true_eq] at hd
      exact ⟨hd.2, hd.1, rfl⟩
theorem mayP_ne {p : List ByteArray} (h : mayP p = true) : p ≠ [] := by
  rintro rfl
  unfold mayP at h
  simp at h
theorem strs_sizes {w : World} {S : Nat → Prop} {A : Option Addr} {p : List ByteArray} (h : StrsAt w S A p) : ∀ s ∈ p, s.size ≤ 140737488351232 := by
  intro s hs
  obtain ⟨i, hi, rfl⟩ := List.mem_iff_getElem.1 hs
  obtain ⟨b, off, -, -, hx⟩ := h (by omega)
  exact (hx i hi).2
def goT (fin : VT → List ByteArray → Int × VT) : VT → List ByteArray → Int × VT
  | t, [] => (0, t)
  | t, s :: r => if placeT t s < 0 ∨ r = [] then fin t (s :: r) else match t.items[(placeT t s).toNat]? with
    | none => (0, t)
    | some x => ((goT fin x r).1, setT t (placeT t s).toNat (goT fin x r).2)
theorem goT_end {fin : VT → List ByteArray → Int × VT} {t : VT} {s : ByteArray} {r : List ByteArray} (h : placeT t s < 0 ∨ r = []) : goT fin t (s :: r) = fin t (s :: r) := by
  conv => lhs; unfold goT
  rw [if_pos h]
theorem goT_on {fin : VT → List ByteArray → Int × VT} {t : VT} {s : ByteArray} {r : List ByteArray} (h : 0 ≤ placeT t s) (hr : r ≠ []) (hj : (placeT t s).toNat < t.items.length) :
    goT fin t (s :: r) = ((goT fin (t.items[(placeT t s).toNat]) r).1, setT t (placeT t s).toNat (goT fin (t.items[(placeT t s).toNat]) r).2) := by
  conv => lhs; unfold goT
  rw [if_neg (fun e => e.elim (fun e => absurd e (by omega)) hr), List.getElem?_eq_getElem hj]
def DidAt (F : Nat → Prop) (g o : Nat) (w : World) (res : Int × VT) (e : Ending) (w' : World) : Prop := e = .returned (.int .i64 res.1) ∧ ∃ F', Own F w F' ∧ OAt w' F' res.2 g o ∧ Mut F g o w w'
theorem OAt.keep {w w' : World} {F : Nat → Prop} {t : VT} {g o : Nat} (h : OAt w F t g o) (hb : Below w.heap.size w w') : OAt w' F t g o := by
  obtain ⟨C, ty, A, c, A', c', hg, g0, g1, g2, g3, g4, hv, hFg, hlt⟩ := h
  exact ⟨C, ty, A, c, A', c', (hb.block g (Array.getElem?_eq_some_iff.1 hg).1).trans hg, g0, g1, g2, g3, g4, hv.keep fun b hb' => hb.block b (hlt b hb'), hFg, fun b hb' => Nat.lt_of_lt_of_le (hlt b hb') hb.size⟩
theorem OAt.lt {w : World} {F : Nat → Prop} {t : VT} {g o : Nat} (h : OAt w F t g o) : g < w.heap.size := by
  obtain ⟨C, ty, A, c, A', c', hg, -⟩ := h
  exact (Array.getElem?_eq_some_iff.1 hg).1
theorem OAt.at {w : World} {F : Nat → Prop} {t : VT} {g o : Nat} (h : OAt w F t g o) : ∃ A c A' c', AtV w F t g o A c A' c' := by
  obtain ⟨C, ty, A, c, A', c', hg, g0, g1, g2, g3, g4, hv, hFg, hlt⟩ := h
  exact ⟨A, c, A', c', (Go.Joins.cell_of_block hg o).trans g0, (Go.Joins.cell_of_block hg _).trans g1, (Go.Joins.cell_of_block hg _).trans g2, (Go.Joins.cell_of_block hg _).trans g3, (Go.Joins.cell_of_block hg _).trans g4, hv.lv⟩
theorem DidAt.from {F : Nat → Prop} {g o : Nat} {w w1 : World} {res : Int × VT} {e : Ending} {w' : World} (h : DidAt F g o w1 res e w') (hb : Below w.heap.size w w1) (hg : g < w.heap.size) : DidAt F g o w res e w' := by
  obtain ⟨h0, F', h1, h2, m1, m2, m3, m4, m5, m6⟩ := h
  refine ⟨h0, F', fun b hb' => (h1 b hb').imp id fun hx => Nat.le_trans hb.size hx, h2, Nat.le_trans hb.size m1, fun b hb1 hF hne => (m2 b (Nat.lt_of_lt_of_le hb1 hb.size) hF hne).trans (hb.block b hb1), fun C ty fz hC => m3 C ty fz ((hb.block g hg).trans hC), m4.trans hb.os, m5.trans hb.tape, m6.trans hb.output⟩
theorem alongM_any (f : Nat) (caps : Array Value) (fin : VT → List ByteArray → Int × VT) (S : Nat → Prop) (J : World → Prop) (Q : VT → Prop) (hQ : ∀ t (j : Nat) (hj : j < t.items.length), Q t → Q t.items[j]) (hcf0 : Enters f) (hJ : ∀ w w', J w → Below w.heap.size w w' → J w')
    (hleaf : ∀ w t g o A c s r F, J w → OAt w F t g o → mayT t = true → Q t → StrsAt w S A (s :: r) → r.length + 1 ≤ c → c ≤ 9223372036854775807 → (∀ b, S b → b < w.heap.size) → (∀ b, S b → ¬ F b ∧ b ≠ g) → (placeT t s < 0 ∨ r = []) →
      Calls Tryz.prog f (#[.agg #[.pointer (some ⟨g, o, none⟩), .int .i64 (placeT t s), .slice A (r.length + 1) c]] ++ caps) w (DidAt F g o w (fin t (s :: r))))
    (t : VT) (g o : Nat) (A : Option Addr) (c : Nat) (p : List ByteArray) (w : World) (F : Nat → Prop) (hj : J w) (h : OAt w F t g o) (hm : mayT t = true) (hq : Q t) (hp : StrsAt w S A p) (hne : p ≠ []) (hpc : p.length ≤ c) (h63 : c ≤ 9223372036854775807) (hS : ∀ b, S b → b < w.heap.size) (hSF : ∀ b, S b → ¬ F b ∧ b ≠ g) :
    Calls Tryz.prog 156 #[.pointer (some ⟨g, o, none⟩), .slice A p.length c, .func (.func f) #[] caps] w (DidAt F g o w (goT fin t p)) := by
  refine along_any f caps (DidAt F g o w (goT fin t p)) (fun w1 t1 g1 o1 A1 c1 p1 => J w1 ∧ (∃ F1, OAt w1 F1 t1 g1 o1 ∧ (∀ b, S b → ¬ F1 b ∧ b ≠ g1) ∧ ∀ e w2, DidAt F1 g1 o1 w1 (goT fin t1 p1) e w2 → DidAt F g o w (goT fin t p) e w2) ∧ mayT t1 = true ∧ Q t1 ∧ StrsAt w1 S A1 p1 ∧ p1 ≠ [] ∧ p1.length ≤ c1 ∧ c1 ≤ 9223372036854775807 ∧ ∀ b, S b → b < w1.heap.size)
    hcf0 (fun e w' h => ⟨_, h.1⟩) ?_ ?_ ?_ ?_ ?_ p t g o A c w ⟨hj, ⟨F, h, hSF, fun _ _ h => h⟩, hm, hq, hp, hne, hpc, h63, hS⟩
  · rintro w1 t1 g1 o1 A1 c1 p1 ⟨-, ⟨F1, ho, -, -⟩, hm1, -, -⟩
    obtain ⟨B, k, B', k', hv⟩ := ho.at
    exact ⟨F1, B, k, B', k', hv, ho.lt, may_nl hm1⟩
  · rintro w1 t1 g1 o1 A1 c1 p1 ⟨-, -, -, -, hs, hn, hc, h63, -⟩
    exact ⟨S, hs, hc, h63, hn, strs_sizes hs⟩
  · rintro w1 w2 t1 g1 o1 A1 c1 p1 ⟨hj1, ⟨F1, ho, hSF1, hR⟩, hm1, hq1, hs, hn, hc, h63, hS1⟩ hb
    exact ⟨hJ _ _ hj1 hb, ⟨F1, ho.keep hb, hSF1, fun e w3 hd => hR e w3 (hd.from hb ho.lt)⟩, hm1, hq1, hs.keep fun b hb' => hb.block b (hS1 b hb'), hn, hc, h63, fun b hb' => Nat.lt_of_lt_of_le (hS1 b hb') hb.size⟩
  · rintro w1 t1 g1 o1 A1 c1 s r G off B k B' k' S' hjl ⟨hj1, ⟨F1, ho, hSF1, hR⟩, hm1, hq1, hs, hn, hc, h63, hS1⟩ hr hpl hat rfl
    obtain ⟨G', Fj, ⟨c', hcell⟩, hFG, hoj, hsub, hup⟩ := ho.item hjl
    have h1 := hcell.symm.trans hat.c3
    injection h1 with h1
    injection h1 with h1 _ _
    injection h1 with h1
    injection h1 with h1 h2
    subst h1 h2
    have hrl : 0 < r.length := by cases r with | nil => exact absurd rfl hr | cons a b => simp
    simp only [List.length_cons] at hc
    refine ⟨hj1, ⟨Fj, by rw [Nat.zero_add]; exact hoj, fun b hb => ⟨fun e => (hSF1 b hb).1 (hsub b e), fun e => (hSF1 b hb).1 (e ▸ hFG)⟩, fun e w2 hd => hR e w2 ?_⟩, may_item hm1 hjl, hQ _ _ hjl hq1, hs.tail (.inr (by omega)), hr, by omega, by omega, hS1⟩
    rw [Nat.zero_add] at hd
    obtain ⟨h0, F', k1, k2, k3⟩ := hd
    obtain ⟨F'', j1, j2, j3⟩ := hup w2 _ F' k3 k2 k1
    rw [goT_on hpl hr hjl]
    exact ⟨h0, F'', j1, j2, j3⟩
  · rintro w1 t1 g1 o1 A1 c1 s r ⟨hj1, ⟨F1, ho, hSF1, hR⟩, hm1, hq1, hs, hn, hc, h63, hS1⟩ hend
    refine (hleaf w1 t1 g1 o1 A1 c1 s r F1 hj1 ho hm1 hq1 hs (by simpa using hc) h63 hS1 hSF1 hend).mono fun e w2 hd => hR e w2 ?_
    rw [goT_end hend]
    exact hd
end Go.Proofs.YtnamdlljdgllmaaGreat
