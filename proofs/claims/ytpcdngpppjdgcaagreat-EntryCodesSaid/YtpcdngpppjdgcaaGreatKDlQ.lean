/- The code of a change, put behind bytes of the caller's own. -/
import Derived.Test.YtpcdngpppjdgcaaGreatKDlT
import Derived.Test.YtpcdngpppjdgcaaGreatKCodG
import Derived.Test.YtpcdngpppjdgcaaGreatKRegR
import Derived.Test.YtpcdngpppjdgcaaGreatKCodA
import Derived.Test.YtpcdngpppjdgcaaGreatKCodM
import Derived.Test.YtpcdngpppjdgcaaGreatKTrA
import Derived.Test.YtpcdngpppjdgcaaGreatKValM
import Derived.Test.YtpcdngpppjdgcaaGreatKDlH
namespace Go.Proofs.YtpcdngpppjdgcaaGreat
open Lib (hid)
set_option linter.unusedVariables false
set_option linter.unusedSimpArgs false
open Go.RowKit
set_option maxRecDepth 100000
def codeD1 (d : DelT) : List UInt8 := [UInt8.ofNat d.kind.toNat] ++ pathC d.path ++ (if d.kind = 1 then encO d.val else if d.kind = 3 then grp d.num.toNat else [])
theorem boxd_k8 {w w' : World} {g : Nat} {cs : Array Value} {fr : Nat × Nat} (hg : w.heap[g]? = some (.cells cs 95 fr)) (h : K8 w w') : w'.heap[g]? = some (.cells cs 95 fr) := h g _ hg (fun h => by cases h) (fun c fz h => by injection h with _ h; exact absurd h (by decide))
set_option maxHeartbeats 16000000 in
theorem dlputo_any (S : Nat → Prop) (d : DelT) (cs : Array Value) (B : Nat) (v : Value) (l : List UInt8) (w : World) (hSB : ∀ b, S b → b < B) (ho : DelL w S d cs) (hm : mayD d = true) (hd : depthT d.val ≤ 4611686018427387903) (hz : sizeT d.val ≤ 9223372036854775807) (hp : NamesOK d.path) (h : OwnB w B v l) (hB : B ≤ w.heap.size) (hl : l.length ≤ 140737470000000) :
    Calls Tryz.prog 133 #[v, .agg cs] w (PutsR B (l ++ codeD1 d) w) := by
  obtain ⟨PA, pc, VA, vc, VA', vc', rfl, hv, hpa, hpc, hpn, hk, hkn, hpl⟩ := ho
  obtain ⟨w1, hw1⟩ : ∃ W, W = w.alloc (.cells #[.int .i64 d.kind, .slice PA d.path.length pc, .int .i64 d.val.kind, .int .i64 d.val.num, .string d.val.text, .slice VA d.val.items.length vc, .slice VA' d.val.names.length vc', .int .i64 d.num] 95) := ⟨_, rfl⟩
  have hbk : w1.heap[w.heap.size]? = some (.cells #[.int .i64 d.kind, .slice PA d.path.length pc, .int .i64 d.val.kind, .int .i64 d.val.num, .string d.val.text, .slice VA d.val.items.length vc, .slice VA' d.val.names.length vc', .int .i64 d.num] 95 (0, 0)) := by rw [hw1]; exact heap_alloc_new w _
  have hb1 : Below w.heap.size w w1 := by rw [hw1]; exact (Below.refl _ _).alloc (Nat.le_refl _) _
  have hin : ∀ W, Below B w W → LV W S d.val (.agg #[.int .i64 d.val.kind, .int .i64 d.val.num, .string d.val.text, .slice VA d.val.items.length vc, .slice VA' d.val.names.length vc']) ∧ StrsAt W S PA d.path := fun W hW =>
    ⟨hv.keep fun b hb => hW.block b (hSB b hb), hpa.keep fun b hb => hW.block b (hSB b hb)⟩
  obtain ⟨i0, hi, hz0, hz1, hz2⟩ := info_parts Tryz.infoU8
  have HO1 := hid (h.below hb1)
  obtain ⟨Av, cv, rfl⟩ := h.slice
  obtain ⟨m, hmm⟩ : ∃ m, m = l.length := ⟨_, rfl⟩
  rw [← hmm] at HO1 ⊢
  have HM := hid hmm
  have HB1 := hid hb1
  have HBK := hid hbk
  have HW1 := hid hw1
  have HIN := hid hin
  have HSB := hid hSB
  have HPP := hid hp
  have HD := hid (And.intro hd hz)
  have HL := hid hl
  have HB := hid hB
  have hkk : d.kind = 1 ∨ d.kind = 2 ∨ (d.kind = 3 ∧ 0 ≤ d.num ∧ d.num ≤ 999) := by
    unfold mayD at hm
    rw [Bool.and_eq_true] at hm
    have h2 := hm.2
    split at h2
    · omega
    split at h2
    · omega
    split at h2
    · simp only [Bool.and_eq_true, decide_eq_true_eq] at h2
      exact .inr (.inr ⟨by omega, h2.2.1, h2.2.2⟩)
    · cases h2
  clear hv hpa hpc hpn hk hkn hpl hSB hin h hB hl hmm hd hz hp hm
  go_enter Tryz.func133, Tryz.ntmps133
  rcases hkk with hkk | hkk | hkk
  · have HKE := hid hkk
    have hbk := HBK.out
    rw [hkk] at hbk hw1 ⊢
    clear hkk
    have HBKK := hid hbk
    go_wp2_with fail
    first | rw [← hw1] | skip
    clear hw1
    have q0 := cell_k8 (i := 0) (show w1.drew.heap[w.heap.size]? = _ from HBKK.out) (by decide) rfl
    have q1 := cell_k8 (i := 1) (show w1.drew.heap[w.heap.size]? = _ from HBKK.out) (by decide) rfl
    refine wp_region_OT K8 (fun w => Lib.OthersKept.refl _ _ _) (fun a b c h k => h.trans k) [] (.pure [0, 1, 2, 3, 6, 7] (.step 4 (.step 5 (.step 8 (.free [9] (.tail [])))))) (by kernel_rfl) (by kernel_rfl) (fun _ d _ _ _ h => by cases d <;> exact h) ?_
    generalize hw2 : w1.drew = w2 at *
    have HW2 : Hid (Below w.heap.size w w2 ∧ OwnB w2 B (.slice Av m cv) l ∧ K8 w w2 ∧ w.heap.size < w2.heap.size) := hid (by
      rw [← hw2]
      exact ⟨HB1.out.drew, HO1.out, (k8_below HB1.out).drew, (Array.getElem?_eq_some_iff.1 HBKK.out).1⟩)
    have HBK2 := hid ((show w2.heap[w.heap.size]? = w1.heap[w.heap.size]? from by rw [← hw2]; rfl).trans HBKK.out)
    clear hw2 hbk
    refine ot_pure ?_
    simp only [atR]
    show wpQuiet _ _ _ _ [_, _, _, _, _, _] _
    try simp only [acR, Act.put] at *
    repeat (go_big_quiet_step (fail))
    refine wpQuiet_nil ?_
    clear q0 q1
    refine ot_step rfl (fun K hK => ?_)
    go_simp
    refine hK _ _ (.inr ((Lib.OthersKept.refl _ _ _).alloc _)) ?_
    clear hK K
    have hml : m ≤ 140737470000000 := by rw [HM.out]; exact HL.out
    have hB2 : B ≤ w2.heap.size := Nat.le_trans HB.out HW2.out.1.size
    have HOA : Hid (∀ X : Obj, OwnB (w2.alloc X) B (.slice Av m cv) l) := hid fun X => HW2.out.2.1.below ((Below.refl _ _).alloc (Nat.le_refl _) _)
    have hrow : ∀ X : Obj, (w2.alloc X).ownsRow B 5 1 (.slice Av m cv) m (bcells l) := fun X => by have h9 := HOA.out X; unfold OwnB at h9; rw [← HM.out] at h9; exact h9
    refine ot_step rfl (fun K hK => ?_)
    refine wp_append_moved _ _ _ 35 rfl B 5 i0 (.int .u8 0) 1 1 Tryz.underlying35 hi hz0 hz1 hz2 rfl (by decide) _ m (bcells l) rfl (hrow _) ⟨w2.heap.size, 0, none⟩ 1 1 [.int .u8 1] rfl rfl (cell_one_new _ _ _) (by simp [Value.oneCell']) (by unfold maxLen; omega) (by omega) (by simp; omega) ?_
    intro v4 w4 hv4 hg4 hwh4
    have hk5 : K8 (w2.alloc (.cells #[.int .u8 1] 5)) w4 := k8_grown (HOA.out _) hg4
    refine hK _ _ (.inr hk5) ?_
    clear hK K
    have HX4 : Hid (OwnB w4 B v4 (l ++ [1]) ∧ Below B w w4 ∧ K8 w w4) := hid ⟨by unfold OwnB; rw [List.length_append, ← HM.out, show bcells (l ++ [1]) = bcells l ++ [.int .u8 1] from by unfold bcells; rw [List.map_append]; rfl]; exact hv4, below_own ((HW2.out.1.mono HB.out).alloc hB2 _) (HOA.out _) (by simp; omega) hg4, (HW2.out.2.2.1.alloc _).trans hk5⟩
    have HBK4 := hid (boxd_k8 (w := w2.alloc (.cells #[.int .u8 1] 5)) ((Below.heap_alloc w2 _ _ HW2.out.2.2.2).trans HBK2.out) hk5)
    have HC := hid (pputpath_any S PA pc d.path B v4 (l ++ [1]) w4 HSB.out (HIN.out w4 HX4.out.2.1).2 HPP.out HX4.out.1 (Nat.le_trans HB.out HX4.out.2.1.size) (by have := HM.out; simp; omega))
    clear hv4 hg4 hwh4 hrow hk5 hB2
    refine ot_step rfl (fun K hK => ?_)
    go_simp
    refine HC.out.mono ?_
    rintro e w5 ⟨v5, rfl, hv5, hb5, hk5⟩
    go_simp
    refine hK _ _ (.inr hk5) ?_
    clear hK K
    have HX5 : Hid (OwnB w5 B v5 (l ++ [1] ++ pathC d.path) ∧ Below B w w5 ∧ K8 w w5) := hid ⟨hv5, HX4.out.2.1.trans hb5, HX4.out.2.2.trans hk5⟩
    have HBK5 := hid (boxd_k8 HBK4.out hk5)
    refine ot_free ?_
    simp only [atR]
    show wpQuiet _ _ _ _ [_] _
    try simp only [acR, Act.put] at *
    repeat (go_big_quiet_step (fail))
    refine wpQuiet_nil ?_
    refine ot_end ?_
    have r0 : w5.cell? ⟨w.heap.size, 0, none⟩ = some (.int .i64 1) := Go.Joins.cell_of_block HBK5.out 0
    have r1 : w5.cell? ⟨w.heap.size, 2, none⟩ = some (.int .i64 d.val.kind) := Go.Joins.cell_of_block HBK5.out 2
    have r2 : w5.cell? ⟨w.heap.size, 3, none⟩ = some (.int .i64 d.val.num) := Go.Joins.cell_of_block HBK5.out 3
    have r3 : w5.cell? ⟨w.heap.size, 4, none⟩ = some (.string d.val.text) := Go.Joins.cell_of_block HBK5.out 4
    have r4 : w5.cell? ⟨w.heap.size, 5, none⟩ = some (.slice VA d.val.items.length vc) := Go.Joins.cell_of_block HBK5.out 5
    have r5 : w5.cell? ⟨w.heap.size, 6, none⟩ = some (.slice VA' d.val.names.length vc') := Go.Joins.cell_of_block HBK5.out 6
    have r6 : w5.cell? ⟨w.heap.size, 7, none⟩ = some (.int .i64 d.num) := Go.Joins.cell_of_block HBK5.out 7
    have hL5 : Hid ((l ++ [1] ++ pathC d.path).length ≤ 140737480000000) := hid (by
      have h1 := (grp_length d.path.length).1
      have h2 := flat_small HPP.out.2
      have h3 := HPP.out.1
      have h4 := HL.out
      unfold pathC
      simp only [List.length_append, List.length_cons, List.length_nil]
      omega)
    have HC6 := hid (cencode_any S d.val _ w5 (fun b hb => Nat.lt_of_lt_of_le (HSB.out b hb) (Nat.le_trans HB.out HX5.out.2.1.size)) (HIN.out w5 HX5.out.2.1).1 HD.out.1 HD.out.2)
    go_wp2_with fail
    refine HC6.out.mono ?_
    rintro e w6 ⟨v6, rfl, hv6, hb6⟩
    have HB6 : Hid (Below B w w6) := hid (HX5.out.2.1.trans (hb6.mono (Nat.le_trans HB.out HX5.out.2.1.size)))
    have HK6 : Hid (K8 w w6) := hid (HX5.out.2.2.trans (k8_below hb6))
    have HO6 : Hid (OwnB w6 B v5 (l ++ [1] ++ pathC d.path)) := hid (HX5.out.1.below hb6)
    have HV6 := hid hv6
    have HZZ := hid HD.out.2
    clear hv6 hb6 HC6 r0 r1 r2 r3 r4 r5 r6
    go_wp2_with (at_builtin; go_must (refine wpList_append_bytes rfl _ _ rfl B _ (l ++ [1] ++ pathC d.path) rfl HO6.out w6.heap.size _ (encO d.val) rfl HV6.out.rd (Nat.le_trans HB.out HB6.out.size) (by have := hL5.out; have := encO_length (t := d.val) HZZ.out; omega) ?_))
    intro v7 w7 hv7 hg7
    have hfin : codeD1 d = [1] ++ pathC d.path ++ encO d.val := by unfold codeD1; rw [HKE.out]; simp
    have HX : Hid (OwnB w7 B v7 (l ++ codeD1 d) ∧ Below B w w7 ∧ K8 w w7) := hid ⟨by rw [hfin]; simpa [List.append_assoc] using hv7, below_own HB6.out HO6.out (Nat.le_trans HB.out HB6.out.size) hg7, HK6.out.trans (k8_grown HO6.out hg7)⟩
    clear hv7 hg7 hfin
    go_wp2_with fail
    go_ret
    exact ⟨_, rfl, HX.out⟩
  · have HKE := hid hkk
    have hbk := HBK.out
    rw [hkk] at hbk hw1 ⊢
    clear hkk
    have HBKK := hid hbk
    go_wp2_with fail
    first | rw [← hw1] | skip
    clear hw1
    have q0 := cell_k8 (i := 0) (show w1.drew.heap[w.heap.size]? = _ from HBKK.out) (by decide) rfl
    have q1 := cell_k8 (i := 1) (show w1.drew.heap[w.heap.size]? = _ from HBKK.out) (by decide) rfl
    refine wp_region_OT K8 (fun w => Lib.OthersKept.refl _ _ _) (fun a b c h k => h.trans k) [] (.pure [0, 1, 2, 3, 6, 7] (.step 4 (.step 5 (.step 8 (.free [9] (.tail [])))))) (by kernel_rfl) (by kernel_rfl) (fun _ d _ _ _ h => by cases d <;> exact h) ?_
    generalize hw2 : w1.drew = w2 at *
    have HW2 : Hid (Below w.heap.size w w2 ∧ OwnB w2 B (.slice Av m cv) l ∧ K8 w w2 ∧ w.heap.size < w2.heap.size) := hid (by
      rw [← hw2]
      exact ⟨HB1.out.drew, HO1.out, (k8_below HB1.out).drew, (Array.getElem?_eq_some_iff.1 HBKK.out).1⟩)
    have HBK2 := hid ((show w2.heap[w.heap.size]? = w1.heap[w.heap.size]? from by rw [← hw2]; rfl).trans HBKK.out)
    clear hw2 hbk
    refine ot_pure ?_
    simp only [atR]
    show wpQuiet _ _ _ _ [_, _, _, _, _, _] _
    try simp only [acR, Act.put] at *
    repeat (go_big_quiet_step (fail))
    refine wpQuiet_nil ?_
    clear q0 q1
    refine ot_step rfl (fun K hK => ?_)
    go_simp
    refine hK _ _ (.inr ((Lib.OthersKept.refl _ _ _).alloc _)) ?_
    clear hK K
    have hml : m ≤ 140737470000000 := by rw [HM.out]; exact HL.out
    have hB2 : B ≤ w2.heap.size := Nat.le_trans HB.out HW2.out.1.size
    have HOA : Hid (∀ X : Obj, OwnB (w2.alloc X) B (.slice Av m cv) l) := hid fun X => HW2.out.2.1.below ((Below.refl _ _).alloc (Nat.le_refl _) _)
    have hrow : ∀ X : Obj, (w2.alloc X).ownsRow B 5 1 (.slice Av m cv) m (bcells l) := fun X => by have h9 := HOA.out X; unfold OwnB at h9; rw [← HM.out] at h9; exact h9
    refine ot_step rfl (fun K hK => ?_)
    refine wp_append_moved _ _ _ 35 rfl B 5 i0 (.int .u8 0) 1 1 Tryz.underlying35 hi hz0 hz1 hz2 rfl (by decide) _ m (bcells l) rfl (hrow _) ⟨w2.heap.size, 0, none⟩ 1 1 [.int .u8 2] rfl rfl (cell_one_new _ _ _) (by simp [Value.oneCell']) (by unfold maxLen; omega) (by omega) (by simp; omega) ?_
    intro v4 w4 hv4 hg4 hwh4
    have hk5 : K8 (w2.alloc (.cells #[.int .u8 2] 5)) w4 := k8_grown (HOA.out _) hg4
    refine hK _ _ (.inr hk5) ?_
    clear hK K
    have HX4 : Hid (OwnB w4 B v4 (l ++ [2]) ∧ Below B w w4 ∧ K8 w w4) := hid ⟨by unfold OwnB; rw [List.length_append, ← HM.out, show bcells (l ++ [2]) = bcells l ++ [.int .u8 2] from by unfold bcells; rw [List.map_append]; rfl]; exact hv4, below_own ((HW2.out.1.mono HB.out).alloc hB2 _) (HOA.out _) (by simp; omega) hg4, (HW2.out.2.2.1.alloc _).trans hk5⟩
    have HBK4 := hid (boxd_k8 (w := w2.alloc (.cells #[.int .u8 2] 5)) ((Below.heap_alloc w2 _ _ HW2.out.2.2.2).trans HBK2.out) hk5)
    have HC := hid (pputpath_any S PA pc d.path B v4 (l ++ [2]) w4 HSB.out (HIN.out w4 HX4.out.2.1).2 HPP.out HX4.out.1 (Nat.le_trans HB.out HX4.out.2.1.size) (by have := HM.out; simp; omega))
    clear hv4 hg4 hwh4 hrow hk5 hB2
    refine ot_step rfl (fun K hK => ?_)
    go_simp
    refine HC.out.mono ?_
    rintro e w5 ⟨v5, rfl, hv5, hb5, hk5⟩
    go_simp
    refine hK _ _ (.inr hk5) ?_
    clear hK K
    have HX5 : Hid (OwnB w5 B v5 (l ++ [2] ++ pathC d.path) ∧ Below B w w5 ∧ K8 w w5) := hid ⟨hv5, HX4.out.2.1.trans hb5, HX4.out.2.2.trans hk5⟩
    have HBK5 := hid (boxd_k8 HBK4.out hk5)
    refine ot_free ?_
    simp only [atR]
    show wpQuiet _ _ _ _ [_] _
    try simp only [acR, Act.put] at *
    repeat (go_big_quiet_step (fail))
    refine wpQuiet_nil ?_
    refine ot_end ?_
    have r0 : w5.cell? ⟨w.heap.size, 0, none⟩ = some (.int .i64 2) := Go.Joins.cell_of_block HBK5.out 0
    have r1 : w5.cell? ⟨w.heap.size, 2, none⟩ = some (.int .i64 d.val.kind) := Go.Joins.cell_of_block HBK5.out 2
    have r2 : w5.cell? ⟨w.heap.size, 3, none⟩ = some (.int .i64 d.val.num) := Go.Joins.cell_of_block HBK5.out 3
    have r3 : w5.cell? ⟨w.heap.size, 4, none⟩ = some (.string d.val.text) := Go.Joins.cell_of_block HBK5.out 4
    have r4 : w5.cell? ⟨w.heap.size, 5, none⟩ = some (.slice VA d.val.items.length vc) := Go.Joins.cell_of_block HBK5.out 5
    have r5 : w5.cell? ⟨w.heap.size, 6, none⟩ = some (.slice VA' d.val.names.length vc') := Go.Joins.cell_of_block HBK5.out 6
    have r6 : w5.cell? ⟨w.heap.size, 7, none⟩ = some (.int .i64 d.num) := Go.Joins.cell_of_block HBK5.out 7
    have hL5 : Hid ((l ++ [2] ++ pathC d.path).length ≤ 140737480000000) := hid (by
      have h1 := (grp_length d.path.length).1
      have h2 := flat_small HPP.out.2
      have h3 := HPP.out.1
      have h4 := HL.out
      unfold pathC
      simp only [List.length_append, List.length_cons, List.length_nil]
      omega)
    go_wp2_with fail
    go_ret
    have hfin : codeD1 d = [2] ++ pathC d.path := by unfold codeD1; rw [HKE.out]; simp
    rw [hfin, ← List.append_assoc]
    exact ⟨_, rfl, HX5.out⟩
  · have HKE := hid hkk
    obtain ⟨nn, hnn⟩ : ∃ nn : Nat, d.num = (nn : Int) := ⟨d.num.toNat, by omega⟩
    have hn9 : nn ≤ 999 := by omega
    have HNN := hid hnn
    have hk3 := hkk.1
    have hbk := HBK.out
    rw [hk3, hnn] at hbk hw1 ⊢
    clear hkk hk3 hnn
    have HBKK := hid hbk
    go_wp2_with fail
    first | rw [← hw1] | skip
    clear hw1
    have q0 := cell_k8 (i := 0) (show w1.drew.heap[w.heap.size]? = _ from HBKK.out) (by decide) rfl
    have q1 := cell_k8 (i := 1) (show w1.drew.heap[w.heap.size]? = _ from HBKK.out) (by decide) rfl
    refine wp_region_OT K8 (fun w => Lib.OthersKept.refl _ _ _) (fun a b c h k => h.trans k) [] (.pure [0, 1, 2, 3, 6, 7] (.step 4 (.step 5 (.step 8 (.free [9] (.tail [])))))) (by kernel_rfl) (by kernel_rfl) (fun _ d _ _ _ h => by cases d <;> exact h) ?_
    generalize hw2 : w1.drew = w2 at *
    have HW2 : Hid (Below w.heap.size w w2 ∧ OwnB w2 B (.slice Av m cv) l ∧ K8 w w2 ∧ w.heap.size < w2.heap.size) := hid (by
      rw [← hw2]
      exact ⟨HB1.out.drew, HO1.out, (k8_below HB1.out).drew, (Array.getElem?_eq_some_iff.1 HBKK.out).1⟩)
    have HBK2 := hid ((show w2.heap[w.heap.size]? = w1.heap[w.heap.size]? from by rw [← hw2]; rfl).trans HBKK.out)
    clear hw2 hbk
    refine ot_pure ?_
    simp only [atR]
    show wpQuiet _ _ _ _ [_, _, _, _, _, _] _
    try simp only [acR, Act.put] at *
    repeat (go_big_quiet_step (fail))
    refine wpQuiet_nil ?_
    clear q0 q1
    refine ot_step rfl (fun K hK => ?_)
    go_simp
    refine hK _ _ (.inr ((Lib.OthersKept.refl _ _ _).alloc _)) ?_
    clear hK K
    have hml : m ≤ 140737470000000 := by rw [HM.out]; exact HL.out
    have hB2 : B ≤ w2.heap.size := Nat.le_trans HB.out HW2.out.1.size
    have HOA : Hid (∀ X : Obj, OwnB (w2.alloc X) B (.slice Av m cv) l) := hid fun X => HW2.out.2.1.below ((Below.refl _ _).alloc (Nat.le_refl _) _)
    have hrow : ∀ X : Obj, (w2.alloc X).ownsRow B 5 1 (.slice Av m cv) m (bcells l) := fun X => by have h9 := HOA.out X; unfold OwnB at h9; rw [← HM.out] at h9; exact h9
    refine ot_step rfl (fun K hK => ?_)
    refine wp_append_moved _ _ _ 35 rfl B 5 i0 (.int .u8 0) 1 1 Tryz.underlying35 hi hz0 hz1 hz2 rfl (by decide) _ m (bcells l) rfl (hrow _) ⟨w2.heap.size, 0, none⟩ 1 1 [.int .u8 3] rfl rfl (cell_one_new _ _ _) (by simp [Value.oneCell']) (by unfold maxLen; omega) (by omega) (by simp; omega) ?_
    intro v4 w4 hv4 hg4 hwh4
    have hk5 : K8 (w2.alloc (.cells #[.int .u8 3] 5)) w4 := k8_grown (HOA.out _) hg4
    refine hK _ _ (.inr hk5) ?_
    clear hK K
    have HX4 : Hid (OwnB w4 B v4 (l ++ [3]) ∧ Below B w w4 ∧ K8 w w4) := hid ⟨by unfold OwnB; rw [List.length_append, ← HM.out, show bcells (l ++ [3]) = bcells l ++ [.int .u8 3] from by unfold bcells; rw [List.map_append]; rfl]; exact hv4, below_own ((HW2.out.1.mono HB.out).alloc hB2 _) (HOA.out _) (by simp; omega) hg4, (HW2.out.2.2.1.alloc _).trans hk5⟩
    have HBK4 := hid (boxd_k8 (w := w2.alloc (.cells #[.int .u8 3] 5)) ((Below.heap_alloc w2 _ _ HW2.out.2.2.2).trans HBK2.out) hk5)
    have HC := hid (pputpath_any S PA pc d.path B v4 (l ++ [3]) w4 HSB.out (HIN.out w4 HX4.out.2.1).2 HPP.out HX4.out.1 (Nat.le_trans HB.out HX4.out.2.1.size) (by have := HM.out; simp; omega))
    clear hv4 hg4 hwh4 hrow hk5 hB2
    refine ot_step rfl (fun K hK => ?_)
    go_simp
    refine HC.out.mono ?_
    rintro e w5 ⟨v5, rfl, hv5, hb5, hk5⟩
    go_simp
    refine hK _ _ (.inr hk5) ?_
    clear hK K
    have HX5 : Hid (OwnB w5 B v5 (l ++ [3] ++ pathC d.path) ∧ Below B w w5 ∧ K8 w w5) := hid ⟨hv5, HX4.out.2.1.trans hb5, HX4.out.2.2.trans hk5⟩
    have HBK5 := hid (boxd_k8 HBK4.out hk5)
    refine ot_free ?_
    simp only [atR]
    show wpQuiet _ _ _ _ [_] _
    try simp only [acR, Act.put] at *
    repeat (go_big_quiet_step (fail))
    refine wpQuiet_nil ?_
    refine ot_end ?_
    have r0 : w5.cell? ⟨w.heap.size, 0, none⟩ = some (.int .i64 3) := Go.Joins.cell_of_block HBK5.out 0
    have r1 : w5.cell? ⟨w.heap.size, 2, none⟩ = some (.int .i64 d.val.kind) := Go.Joins.cell_of_block HBK5.out 2
    have r2 : w5.cell? ⟨w.heap.size, 3, none⟩ = some (.int .i64 d.val.num) := Go.Joins.cell_of_block HBK5.out 3
    have r3 : w5.cell? ⟨w.heap.size, 4, none⟩ = some (.string d.val.text) := Go.Joins.cell_of_block HBK5.out 4
    have r4 : w5.cell? ⟨w.heap.size, 5, none⟩ = some (.slice VA d.val.items.length vc) := Go.Joins.cell_of_block HBK5.out 5
    have r5 : w5.cell? ⟨w.heap.size, 6, none⟩ = some (.slice VA' d.val.names.length vc') := Go.Joins.cell_of_block HBK5.out 6
    have r6 : w5.cell? ⟨w.heap.size, 7, none⟩ = some (.int .i64 (nn : Int)) := Go.Joins.cell_of_block HBK5.out 7
    have hL5 : Hid ((l ++ [3] ++ pathC d.path).length ≤ 140737480000000) := hid (by
      have h1 := (grp_length d.path.length).1
      have h2 := flat_small HPP.out.2
      have h3 := HPP.out.1
      have h4 := HL.out
      unfold pathC
      simp only [List.length_append, List.length_cons, List.length_nil]
      omega)
    have HC6 := hid (pputone_any B nn v5 (l ++ [3] ++ pathC d.path) w5 HX5.out.1 (Nat.le_trans HB.out HX5.out.2.1.size) (by omega) (by have := hL5.out; omega))
    go_wp2_with fail
    refine HC6.out.mono ?_
    rintro e w6 ⟨v6, rfl, hv6, hb6, hk6⟩
    have hfin : codeD1 d = [3] ++ pathC d.path ++ grp nn := by unfold codeD1; rw [HKE.out.1, HNN.out]; simp
    have HX6 : Hid (OwnB w6 B v6 (l ++ codeD1 d) ∧ Below B w w6 ∧ K8 w w6) := hid ⟨by rw [hfin, ← List.append_assoc, ← List.append_assoc]; exact hv6, HX5.out.2.1.trans hb6, HX5.out.2.2.trans hk6⟩
    clear hfin hv6 hb6 hk6
    go_wp2_with fail
    go_ret
    exact ⟨_, rfl, HX6.out⟩
end Go.Proofs.YtpcdngpppjdgcaaGreat

/- A path's code, and a value's, are read back: plain. -/
namespace Go.Proofs.YtpcdngpppjdgcaaGreat
set_option linter.unusedVariables false
set_option linter.unusedSimpArgs false
set_option maxRecDepth 100000
theorem txt_read {s : ByteArray} (r : List UInt8) (h : s.size ≤ 32) : rdText 32 (some (txt s ++ r)) = (s.data.toList, some r) := rdText_code (m := 32) r h (by omega)
theorem rdK_txts : ∀ (p : List ByteArray) (r : List UInt8), (∀ s ∈ p, s.size ≤ 32) → ∀ k, k ≤ p.length → rdK (some ((p.map txt).flatten ++ r)) k = (p.take k, some (((p.drop k).map txt).flatten ++ r))
  | p, r, h, 0, _ => by simp [rdK]
  | p, r, h, k + 1, hk => by
    have ih := rdK_txts p r h k (by omega)
    unfold rdK
    rw [ih]
    have e : p.drop k = p[k]'(by omega) :: p.drop (k + 1) := List.drop_eq_getElem_cons (by omega)
    have hx : rdText 32 (some (((p.drop k).map txt).flatten ++ r)) = ((p[k]'(by omega)).data.toList, some (((p.drop (k + 1)).map txt).flatten ++ r)) := by
      rw [e, List.map_cons, List.flatten_cons, List.append_assoc]
      exact txt_read _ (h _ (List.getElem_mem (by omega)))
    simp only [hx]
    rw [List.take_succ_eq_append_getElem (by omega)]
theorem rdPath_code {p : List ByteArray} (h : mayP p = true) (r : List UInt8) : rdPathO (some (pathC p ++ r)) = (p, some r) := by
  obtain ⟨-, h8, hn⟩ := (mayP_iff p).1 h
  have h32 : ∀ s ∈ p, s.size ≤ 32 := fun s hs => ((nameB_iff s).1 (hn s hs)).2.1
  unfold rdPathO pathC
  rw [List.append_assoc, show rdCount 8 (some (grp p.length ++ ((p.map txt).flatten ++ r))) = (p.length, some ((p.map txt).flatten ++ r)) from rdCount_code (m := 8) _ h8 (by omega)]
  have := rdK_txts p r h32 p.length (Nat.le_refl _)
  simp only [this]
  simp
theorem readO_code {t : VT} (hc : checkT t = 0) (hz : sizeT t ≤ 9223372036854775807) (hr : rngT t) (r : List UInt8) : readO (some (encO t ++ r)) = (t, some r) := by
  have h1 := (check_zero hz).1 hc
  have he : encO t = encT t := by unfold encO; rw [if_pos hc]
  rw [he, readO_some, readS_code ⟨h1.1, h1.2.1, h1.2.2⟩ hr r]
def codeDs (l : List DelT) : List UInt8 := if checkD l = 0 then grp l.length ++ (l.map codeD1).flatten else []
theorem mayD_names {d : DelT} (h : mayD d = true) : NamesOK d.path := mayP_ok (mayD_path h)
theorem codeD1_small {d : DelT} (h : mayD d = true) (hz : sizeT d.val ≤ 9223372036854775807) : (codeD1 d).length ≤ 2100000 := by
  have h1 := pathC_small (mayD_names h)
  have h3 := encO_length hz
  have h4 := (grp_length d.num.toNat).1
  unfold codeD1
  rw [List.length_append, List.length_append]
  split
  · simp; omega
  split
  · simp; omega
  · simp; omega
theorem codeDs_small : ∀ {l : List DelT}, (∀ d ∈ l, mayD d = true ∧ sizeT d.val ≤ 9223372036854775807) → ((l.map codeD1).flatten).length ≤ 2100000 * l.length
  | [], _ => by simp
  | a :: r, h => by
    have h1 := codeD1_small (h a (by simp)).1 (h a (by simp)).2
    have h2 := codeDs_small (l := r) fun o ho => h o (List.mem_cons_of_mem _ ho)
    simp only [List.map_cons, List.flatten_cons, List.length_append, List.length_cons]
    omega
theorem checkD_zero {l : List DelT} (h : checkD l = 0) : l.length ≤ 64 ∧ ∀ d ∈ l, mayD d = true := by
  unfold checkD at h
  by_cases h1 : 64 < l.length
  · rw [if_pos h1] at h; omega
  · rw [if_neg h1] at h
    by_cases h2 : l.all mayD = true
    · exact ⟨by omega, fun d hd => List.all_eq_true.1 h2 d hd⟩
    · rw [if_neg h2] at h; omega
theorem rdD_code {d : DelT} (h : mayD d = true) (hz : sizeT d.val ≤ 9223372036854775807) (hr : rngT d.val) (r : List UInt8) : rdD (some (codeD1 d ++ r)) = (d, some r) := by
  obtain ⟨k, p, v, m⟩ := d
  unfold mayD at h
  rw [Bool.and_eq_true] at h
  obtain ⟨hp, h2⟩ := h
  have hk : 1 ≤ k ∧ k ≤ 3 := by
    simp only at h2
    split at h2
    · omega
    split at h2
    · omega
    split at h2
    · omega
    · cases h2
  obtain ⟨n, rfl⟩ : ∃ n : Nat, k = (n : Int) := ⟨k.toNat, by omega⟩
  have hn : n ≤ 3 := by omega
  have hb : ∀ x, rdByte (some ([UInt8.ofNat (n : Int).toNat] ++ x)) = (n, some x) := fun x => by
    show ((UInt8.ofNat (n : Int).toNat).toNat, some x) = _
    rw [Int.toNat_natCast, UInt8.toNat_ofNat', Nat.mod_eq_of_lt (by omega)]
  unfold rdD codeD1
  simp only at *
  have e : ∀ y, [UInt8.ofNat (n : Int).toNat] ++ pathC p ++ y ++ r = [UInt8.ofNat (n : Int).toNat] ++ (pathC p ++ (y ++ r)) := fun y => by simp
  rw [e, hb]
  simp only
  by_cases k1 : n = 1
  · subst k1
    rw [if_pos (by omega)] at h2
    simp only [Bool.and_eq_true, decide_eq_true_eq] at h2
    rw [if_pos rfl, if_pos (by omega), rdPath_code hp]
    simp only
    rw [readO_code h2.1 hz hr, h2.2]
    rfl
  by_cases k3 : n = 3
  · subst k3
    rw [if_neg (by omega), if_neg (by omega), if_pos (by omega)] at h2
    simp only [Bool.and_eq_true, decide_eq_true_eq] at h2
    have hv := (noneT_iff v).1 h2.1
    rw [if_neg (by omega), if_pos rfl, if_neg (by omega), if_pos (by omega), rdPath_code hp]
    simp only
    rw [show rdCount 999 (some (grp m.toNat ++ r)) = (m.toNat, some r) from rdCount_code (m := 999) _ (by omega) (by omega), hv]
    simp only
    rw [Int.toNat_of_nonneg h2.2.1]
    rfl
  · obtain rfl : n = 2 := by omega
    rw [if_neg (by omega), if_pos (by omega)] at h2
    simp only [Bool.and_eq_true, decide_eq_true_eq] at h2
    have hv := (noneT_iff v).1 h2.1
    rw [if_neg (by omega), if_neg (by omega), if_neg (by omega), if_neg (by omega), List.nil_append, rdPath_code hp, hv, h2.2]
    rfl
theorem rdDs_codes : ∀ (l : List DelT) (r : List UInt8), (∀ d ∈ l, mayD d = true ∧ sizeT d.val ≤ 9223372036854775807 ∧ rngT d.val) → ∀ k, k ≤ l.length → rdDK (some ((l.map codeD1).flatten ++ r)) k = (l.take k, some (((l.drop k).map codeD1).flatten ++ r))
  | l, r, h, 0, _ => by simp [rdDK]
  | l, r, h, k + 1, hk => by
    have ih := rdDs_codes l r h k (by omega)
    unfold rdDK
    rw [ih]
    have e : l.drop k = l[k]'(by omega) :: l.drop (k + 1) := List.drop_eq_getElem_cons (by omega)
    obtain ⟨h1, h2, h3⟩ := h _ (List.getElem_mem (show k < l.length by omega))
    have hx : rdD (some (((l.drop k).map codeD1).flatten ++ r)) = (l[k]'(by omega), some (((l.drop (k + 1)).map codeD1).flatten ++ r)) := by
      rw [e, List.map_cons, List.flatten_cons, List.append_assoc]
      exact rdD_code h1 h2 h3 _
    simp only [hx]
    rw [List.take_succ_eq_append_getElem (by omega)]
def SmallZD (l : List DelT) : Prop := ∀ d ∈ l, sizeT d.val ≤ 9223372036854775807
def RngD (l : List DelT) : Prop := ∀ d ∈ l, rngT d.val
theorem rdDl_code {l : List DelT} (h : checkD l = 0) (hz : SmallZD l) (hr : RngD l) (r : List UInt8) : rdDl (some (codeDs l ++ r)) = (l, some r) := by
  obtain ⟨h64, hm⟩ := checkD_zero h
  have hc : rdCount 64 (some (codeDs l ++ r)) = (l.length, some ((l.map codeD1).flatten ++ r)) := by
    unfold codeDs
    rw [if_pos h, List.append_assoc]
    exact rdCount_code (m := 64) _ h64 (by omega)
  have hk := rdDs_codes l r (fun o ho => ⟨hm o ho, hz o ho, hr o ho⟩) l.length (Nat.le_refl _)
  have h1 : (rdDK (rdCount 64 (some (codeDs l ++ r))).2 (rdCount 64 (some (codeDs l ++ r))).1) = (l, some r) := by
    rw [hc]
    simp only
    rw [hk]
    simp
  rw [rdDl_some (r := r) (by rw [h1]), h1]
  simp only
  rw [if_pos h]
theorem DelsL.rng {w : Go.World} {S : Nat → Prop} {A : Option Go.Addr} {l : List DelT} (h : DelsL w S A l) : RngD l := by
  intro d hmem
  obtain ⟨i, hi, rfl⟩ := List.getElem_of_mem hmem
  obtain ⟨b, off, -, -, hc⟩ := h (by omega)
  obtain ⟨cs', -, hop⟩ := hc i hi
  obtain ⟨PA, pc, VA, vc, VA', vc', -, hlv, -⟩ := hop
  exact rng_lv _ _ _ (Nat.le_refl _) hlv
/-! ### what lies at one step -/
def itemT (t : VT) (s : ByteArray) : Option VT := if placeT t s < 0 then none else t.items[(placeT t s).toNat]?
theorem getT_item (t : VT) (s : ByteArray) (r : List ByteArray) : getT t (s :: r) = (itemT t s).bind fun u => getT u r := by
  conv => lhs; unfold getT
  unfold itemT
  split
  · rfl
  · cases t.items[(placeT t s).toNat]? <;> rfl
def lookN : List ByteArray → List VT → ByteArray → Option VT
  | a :: r, x :: l, s => if a = s then some x else lookN r l s
  | _, _, _ => none
theorem nmI_shift (s : ByteArray) : ∀ (l : List ByteArray) (k : Nat), nmI k l s = if nmI 0 l s < 0 then -1 else nmI 0 l s + k
  | [], k => by unfold nmI; simp
  | a :: r, k => by
    unfold nmI
    by_cases h : a = s
    · rw [if_pos h, if_pos h]; simp
    · rw [if_neg h, if_neg h]
      have h1 := nmI_shift s r (k + 1)
      have h2 := nmI_shift s r 1
      have h3 := (nmI_lt (s := s) (l := r) (k := 0)).1
      rw [h1]
      show _ = if nmI (0 + 1) r s < 0 then (-1 : Int) else nmI (0 + 1) r s + k
      rw [show 0 + 1 = 1 from rfl, h2]
      split <;> split <;> omega
theorem look_names (s : ByteArray) : ∀ (ns : List ByteArray) (l : List VT), (if nmI 0 ns s < 0 then none else l[(nmI 0 ns s).toNat]?) = lookN ns l s
  | [], l => by unfold nmI lookN; simp
  | a :: r, l => by
    by_cases h : a = s
    · have e : nmI 0 (a :: r) s = 0 := by unfold nmI; rw [if_pos h]; rfl
      rw [e]
      cases l with
      | nil => unfold lookN; simp
      | cons x l => unfold lookN; simp [h]
    · have e : nmI 0 (a :: r) s = nmI 1 r s := by conv => lhs; unfold nmI
                                                  rw [if_neg h]
      have e2 := nmI_shift s r 1
      have ih := look_names s r
      rw [e, e2]
      have h3 := (nmI_lt (s := s) (l := r) (k := 0)).1
      cases l with
      | nil =>
        unfold lookN
        split <;> simp
      | cons x l =>
        unfold lookN
        rw [if_neg h, ← ih l]
        by_cases hn : nmI 0 r s < 0
        · rw [if_pos hn, if_pos hn]; rfl
        · rw [if_neg hn, if_neg hn, if_neg (by omega)]
          have : (nmI 0 r s + ((1 : Nat) : Int)).toNat = (nmI 0 r s).toNat + 1 := by omega
          rw [this, List.getElem?_cons_succ]
theorem item_doc {t : VT} (h : t.kind = 7) (s : ByteArray) : itemT t s = lookN t.names t.items s := by
  unfold itemT
  rw [placeT_doc h]
  exact look_names s t.names t.items
theorem mayT_iff (t : VT) : mayT t = true ↔ fitsP t.kind t.num t.text t.items.length t.names = true ∧ ∀ x ∈ t.items, mayT x = true := by
  rw [mayT_mk2, Bool.and_eq_true]
  refine and_congr_right fun _ => ⟨fun h x hx => mayL_mem h hx, fun h => mayL_all fun j hj => h _ (List.getElem_mem hj)⟩
structure EntT where
  term : Int
  kind : Int
  coll : ByteArray
  to : ByteArray
  id : VT
  doc : VT
  dels : List DelT
  session : Int
  number : Int
def hasColl (k : Int) : Bool := decide (2 ≤ k) && decide (k ≤ 7)
def hasTo (k : Int) : Bool := decide (k = 7)
def hasId (k : Int) : Bool := decide (2 ≤ k) && decide (k ≤ 4)
def hasDoc (k : Int) : Bool := decide (k = 2)
def hasDels (k : Int) : Bool := decide (k = 3)
def nameC (s : ByteArray) : Bool := decide (1 ≤ s.size) && decide (s.size ≤ 32) && s.data.toList.all fun b => decide (b ≠ 36) && decide (b ≠ 0)
def holdE (v id : VT) : Bool := decide (v.kind = 7) && decide (checkT v = 0) && (match itemT v idN with
  | some x => decide (cmpT x id = 0)
  | none => false)
def mayDo (l : List DelT) : Bool := decide (checkD l = 0) && freeD l && !touchD l [idN]
def emptyE : EntT := ⟨0, 0, ⟨#[]⟩, ⟨#[]⟩, noneV, noneV, [], 0, 0⟩
def mayE (e : EntT) : Bool :=
  (decide (1 ≤ e.kind) && decide (e.kind ≤ 7)) && (decide (0 ≤ e.term) && decide (e.term ≤ 1099511627776)) && (decide (0 ≤ e.session) && decide (e.session ≤ 255)) && (decide (0 ≤ e.number) && decide (e.number ≤ 1099511627776)) &&
  (if hasColl e.kind then nameC e.coll else decide (e.coll.size = 0)) && (if hasTo e.kind then nameC e.to && decide (e.to ≠ e.coll) else decide (e.to.size = 0)) &&
  (if hasId e.kind then decide (checkT e.id = 0) else noneT e.id) && (if hasDoc e.kind then holdE e.doc e.id else noneT e.doc) && (if hasDels e.kind then mayDo e.dels else decide (e.dels.length = 0)) &&
  (if e.kind = 1 then decide (e.session = 0) && decide (e.number = 0) else true)
def codeE (e : EntT) : List UInt8 :=
  grp e.term.toNat ++ ([UInt8.ofNat e.kind.toNat] ++ (grp e.session.toNat ++ (grp e.number.toNat ++ ((if hasColl e.kind then txt e.coll else []) ++ ((if hasTo e.kind then txt e.to else []) ++ ((if hasId e.kind then encO e.id else []) ++
    ((if hasDoc e.kind then encO e.doc else []) ++ (if hasDels e.kind then codeDs e.dels else []))))))))
def optR {α : Type} (b : Bool) (z : α) (f : Option (List UInt8) → α × Option (List UInt8)) (st : Option (List UInt8)) : α × Option (List UInt8) := if b then f st else (z, st)
def rdTextB (n : Int) (st : Option (List UInt8)) : ByteArray × Option (List UInt8) := (⟨(rdText n st).1.toArray⟩, (rdText n st).2)
def rdE1 (st : Option (List UInt8)) : EntT × Option (List UInt8) :=
  let a := rdCount 1099511627776 st
  let k := rdByte a.2
  let s := rdCount 255 k.2
  let n := rdCount 1099511627776 s.2
  let c := optR (hasColl k.1) ⟨#[]⟩ (rdTextB 32) n.2
  let t := optR (hasTo k.1) ⟨#[]⟩ (rdTextB 32) c.2
  let i := optR (hasId k.1) noneV readO t.2
  let d := optR (hasDoc k.1) noneV readO i.2
  let l := optR (hasDels k.1) [] rdDl d.2
  (⟨a.1, k.1, c.1, t.1, i.1, d.1, l.1, s.1, n.1⟩, l.2)
def rdE (st : Option (List UInt8)) : EntT × Option (List UInt8) := match (rdE1 st).2 with
  | none => (emptyE, none)
  | some r => if mayE (rdE1 st).1 = true then ((rdE1 st).1, some r) else (emptyE, none)
structure MayE (e : EntT) : Prop where
  k1 : 1 ≤ e.kind
  k7 : e.kind ≤ 7
  t0 : 0 ≤ e.term
  t1 : e.term ≤ 1099511627776
  s0 : 0 ≤ e.session
  s1 : e.session ≤ 255
  n0 : 0 ≤ e.number
  n1 : e.number ≤ 1099511627776
  coll : if hasColl e.kind = true then nameC e.coll = true else e.coll.size = 0
  to : if hasTo e.kind = true then nameC e.to = true ∧ e.to ≠ e.coll else e.to.size = 0
  id : if hasId e.kind = true then checkT e.id = 0 else noneT e.id = true
  doc : if hasDoc e.kind = true then holdE e.doc e.id = true else noneT e.doc = true
  dels : if hasDels e.kind = true then mayDo e.dels = true else e.dels.length = 0
  noop : e.kind = 1 → e.session = 0 ∧ e.number = 0
theorem ite_bool {c : Bool} {a b : Bool} : (if c = true then a else b) = true ↔ if c = true then a = true else b = true := by cases c <;> simp
theorem mayE_iff (e : EntT) : mayE e = true ↔ MayE e := by
  unfold mayE
  simp only [Bool.and_eq_true, decide_eq_true_eq, ite_bool]
  constructor
  · rintro ⟨⟨⟨⟨⟨⟨⟨⟨⟨⟨a, b⟩, c, d⟩, f, g⟩, h, i⟩, j⟩, k⟩, l⟩, m⟩, n⟩, o⟩
    refine ⟨a, b, c, d, f, g, h, i, j, k, l, m, n, fun hk => ?_⟩
    rw [if_pos hk] at o
    simpa using o
  · intro h
    refine ⟨⟨⟨⟨⟨⟨⟨⟨⟨⟨h.k1, h.k7⟩, h.t0, h.t1⟩, h.s0, h.s1⟩, h.n0, h.n1⟩, h.coll⟩, h.to⟩, h.id⟩, h.doc⟩, h.dels⟩, ?_⟩
    by_cases hk : e.kind = 1
    · rw [if_pos hk]; simpa using h.noop hk
    · rw [if_neg hk]
theorem bytes_nil {s : ByteArray} (h : s.size = 0) : s = ⟨#[]⟩ := by
  cases s with
  | mk a => rw [show a = #[] from Array.eq_empty_of_size_eq_zero h]
theorem nameC_len {s : ByteArray} (h : nameC s = true) : 1 ≤ s.size ∧ s.size ≤ 32 := by
  unfold nameC at h
  simp only [Bool.and_eq_true, decide_eq_true_eq] at h
  exact h.1
theorem opt_code {α : Type} {b : Bool} {z x : α} {f : Option (List UInt8) → α × Option (List UInt8)} {c r : List UInt8} (h1 : b = true → f (some (c ++ r)) = (x, some r)) (h0 : b = false → x = z) : optR b z f (some ((if b = true then c else []) ++ r)) = (x, some r) := by
  unfold optR
  cases b with
  | true => exact h1 rfl
  | false => rw [h0 rfl]; rfl
theorem textB_code {s : ByteArray} (h : s.size ≤ 32) (r : List UInt8) : rdTextB 32 (some (txt s ++ r)) = (s, some r) := by
  unfold rdTextB
  rw [show rdText 32 (some (txt s ++ r)) = (s.data.toList, some r) from rdText_code (m := 32) r h (by omega)]
structure FineE (e : EntT) : Prop where
  id : sizeT e.id ≤ 9223372036854775807 ∧ rngT e.id
  doc : sizeT e.doc ≤ 9223372036854775807 ∧ rngT e.doc
  dels : SmallZD e.dels ∧ RngD e.dels
theorem rdE_code {e : EntT} (h : mayE e = true) (hf : FineE e) (r : List UInt8) : rdE (some (codeE e ++ r)) = (e, some r) := by
  have m := (mayE_iff e).1 h
  have e1 : rdE1 (some (codeE e ++ r)) = (e, some r) := by
    obtain ⟨T, K, C, O, I, D, L, S, N⟩ := e
    obtain ⟨T, rfl⟩ : ∃ n : Nat, T = (n : Int) := ⟨T.toNat, by have := m.t0; simp only at this; omega⟩
    obtain ⟨K, rfl⟩ : ∃ n : Nat, K = (n : Int) := ⟨K.toNat, by have := m.k1; simp only at this; omega⟩
    obtain ⟨S, rfl⟩ : ∃ n : Nat, S = (n : Int) := ⟨S.toNat, by have := m.s0; simp only at this; omega⟩
    obtain ⟨N, rfl⟩ : ∃ n : Nat, N = (n : Int) := ⟨N.toNat, by have := m.n0; simp only at this; omega⟩
    obtain ⟨k1, k7, t0, t1, s0, s1, n0, n1, mc, mt, mi, md, ml, -⟩ := m
    simp only at k1 k7 t0 t1 s0 s1 n0 n1 mc mt mi md ml
    have hb : ∀ x, rdByte (some ([UInt8.ofNat ((K : Int).toNat)] ++ x)) = (K, some x) := fun x => by
      show ((UInt8.ofNat (K : Int).toNat).toNat, some x) = _
      rw [Int.toNat_natCast, UInt8.toNat_ofNat', Nat.mod_eq_of_lt (by omega)]
    have h1 : ∀ x, rdCount 1099511627776 (some (grp T ++ x)) = (T, some x) := fun x => rdCount_code (m := 1099511627776) x (by omega) (by omega)
    have h2 : ∀ x, rdCount 255 (some (grp S ++ x)) = (S, some x) := fun x => rdCount_code (m := 255) x (by omega) (by omega)
    have h3 : ∀ x, rdCount 1099511627776 (some (grp N ++ x)) = (N, some x) := fun x => rdCount_code (m := 1099511627776) x (by omega) (by omega)
    have h4 : ∀ x, optR (hasColl (K : Int)) ⟨#[]⟩ (rdTextB 32) (some ((if hasColl (K : Int) = true then txt C else []) ++ x)) = (C, some x) := fun x => opt_code (fun hk => by
      rw [if_pos hk] at mc; exact textB_code (nameC_len mc).2 x) (fun hk => by rw [hk, if_neg (by decide)] at mc; exact bytes_nil mc)
    have h5 : ∀ x, optR (hasTo (K : Int)) ⟨#[]⟩ (rdTextB 32) (some ((if hasTo (K : Int) = true then txt O else []) ++ x)) = (O, some x) := fun x => opt_code (fun hk => by
      rw [if_pos hk] at mt; exact textB_code (nameC_len mt.1).2 x) (fun hk => by rw [hk, if_neg (by decide)] at mt; exact bytes_nil mt)
    have h6 : ∀ x, optR (hasId (K : Int)) noneV readO (some ((if hasId (K : Int) = true then encO I else []) ++ x)) = (I, some x) := fun x => opt_code (fun hk => by
      rw [if_pos hk] at mi; exact readO_code mi hf.id.1 hf.id.2 x) (fun hk => by rw [hk, if_neg (by decide)] at mi; exact (noneT_iff I).1 mi)
    have h7 : ∀ x, optR (hasDoc (K : Int)) noneV readO (some ((if hasDoc (K : Int) = true then encO D else []) ++ x)) = (D, some x) := fun x => opt_code (fun hk => by
      rw [if_pos hk] at md
      unfold holdE at md
      simp only [Bool.and_eq_true, decide_eq_true_eq] at md
      exact readO_code md.1.2 hf.doc.1 hf.doc.2 x) (fun hk => by rw [hk, if_neg (by decide)] at md; exact (noneT_iff D).1 md)
    have h8 : ∀ x, optR (hasDels (K : Int)) [] rdDl (some ((if hasDels (K : Int) = true then codeDs L else []) ++ x)) = (L, some x) := fun x => opt_code (fun hk => by
      rw [if_pos hk] at ml
      unfold mayDo at ml
      simp only [Bool.and_eq_true, decide_eq_true_eq] at ml
      exact rdDl_code ml.1.1 hf.dels.1 hf.dels.2 x) (fun hk => by rw [hk, if_neg (by decide)] at ml; exact List.eq_nil_of_length_eq_zero ml)
    unfold rdE1 codeE
    simp only [List.append_assoc, Int.toNat_natCast] at hb ⊢
    rw [h1]
    dsimp only
    rw [hb]
    dsimp only
    rw [h2]
    dsimp only
    rw [h3]
    dsimp only
    rw [h4]
    dsimp only
    rw [h5]
    dsimp only
    rw [h6]
    dsimp only
    rw [h7]
    dsimp only
    rw [h8]
  unfold rdE
  rw [e1]
  dsimp only
  rw [if_pos h]
theorem prod_some {α : Type} {p : α × Option (List UInt8)} (h : p.2 ≠ none) : ∃ r, p = (p.1, some r) := by
  obtain ⟨a, o⟩ := p
  cases o with
  | none => exact absurd rfl h
  | some r => exact ⟨r, rfl⟩
theorem rdK_inv : ∀ (k : Nat) (l : List UInt8) (p : List ByteArray) (r : List UInt8), rdK (some l) k = (p, some r) → l = (p.map txt).flatten ++ r ∧ p.length = k
  | 0, l, p, r, h => by
    injection h with h1 h2
    injection h2 with h2
    subst h1 h2
    exact ⟨rfl, rfl⟩
  | k + 1, l, p, r, h => by
    have hk : (rdK (some l) k).2 ≠ none := fun hn => by
      have := rdK_none hn (k + 1) (by omega)
      rw [h] at this
      cases this
    obtain ⟨r1, e1⟩ := prod_some hk
    obtain ⟨i1, i2⟩ := rdK_inv k l _ r1 e1
    unfold rdK at h
    rw [e1] at h
    dsimp only at h
    injection h with h1 h2
    obtain ⟨j1, -⟩ := rdText_inv (m := 32) (l := r1) (r := r) (x := (rdText 32 (some r1)).1) (by omega) (Prod.ext rfl h2)
    refine ⟨?_, by rw [← h1]; simp [rdK_len]⟩
    conv => lhs; rw [i1, j1]
    rw [← h1, List.map_append, List.flatten_append, List.append_assoc]
    simp [bsOf]
theorem rdPath_inv {l r : List UInt8} {p : List ByteArray} (h : rdPathO (some l) = (p, some r)) : l = pathC p ++ r := by
  unfold rdPathO at h
  have hc : (rdCount 8 (some l)).2 ≠ none := fun hn => by
    have h0 : (rdK (rdCount 8 (some l)).2 0).2 = none := hn
    have := rdK_none h0 (rdCount 8 (some l)).1 (by omega)
    rw [h] at this
    cases this
  obtain ⟨r1, e1⟩ := prod_some hc
  rw [e1] at h
  obtain ⟨i1, -⟩ := rdCount_inv (m := 8) (by omega) e1
  obtain ⟨j1, j2⟩ := rdK_inv _ _ _ _ h
  unfold pathC
  rw [j2, List.append_assoc, ← j1]
  exact i1
theorem readO_inv {l r : List UInt8} {t : VT} (hl : l.length ≤ 9223372036854775807) (h : readO (some l) = (t, some r)) : l = encO t ++ r ∧ checkT t = 0 := by
  rw [readO_some] at h
  cases hs : readS l with
  | none => rw [hs] at h; injection h with h1 h2; cases h2
  | some q =>
    obtain ⟨t', r'⟩ := q
    rw [hs] at h
    injection h with h1 h2
    injection h2 with h2
    subst h1 h2
    obtain ⟨-, -, e, -, hc⟩ := readS_some hs hl
    exact ⟨by unfold encO; rw [if_pos hc]; exact e, hc⟩
structure RdI {α : Type} (f : Option (List UInt8) → α × Option (List UInt8)) (c : α → List UInt8) : Prop where
  bad : (f none).2 = none
  inv : ∀ l a r, l.length ≤ 9223372036854775807 → f (some l) = (a, some r) → l = c a ++ r
theorem RdI.back {α : Type} {f : Option (List UInt8) → α × Option (List UInt8)} {c : α → List UInt8} (h : RdI f c) {st : Option (List UInt8)} {r : List UInt8} (e : (f st).2 = some r) : ∃ l, st = some l ∧ (l.length ≤ 9223372036854775807 → l = c (f st).1 ++ r) := by
  cases st with
  | none => rw [h.bad] at e; cases e
  | some l => exact ⟨l, rfl, fun hl => h.inv l _ r hl (Prod.ext rfl e)⟩
theorem count_none (n : Int) : rdCount n none = (0, none) := by unfold rdCount; split <;> rfl
theorem rdi_count {m : Nat} (hm : m ≤ 4611686018427387904) : RdI (rdCount (m : Int)) grp := ⟨by rw [count_none], fun l a r _ h => (rdCount_inv hm h).1⟩
theorem rdi_byte : RdI rdByte fun k => [UInt8.ofNat k] := ⟨rfl, fun l a r _ h => (rdByte_inv h).1⟩
theorem rdi_text : RdI (rdTextB 32) txt := ⟨rdText_none 32, fun l a r _ h => by
  unfold rdTextB at h
  injection h with h1 h2
  have := (rdText_inv (m := 32) (l := l) (r := r) (x := (rdText 32 (some l)).1) (by omega) (Prod.ext rfl h2)).1
  rw [← h1]
  exact this⟩
theorem rdi_val : RdI readO encO := ⟨rfl, fun l a r hl h => (readO_inv hl h).1⟩
theorem rdi_opt {α : Type} {b : Bool} {z : α} {f : Option (List UInt8) → α × Option (List UInt8)} {c : α → List UInt8} (h : RdI f c) : RdI (optR b z f) fun a => if b = true then c a else [] := by
  cases b with
  | true => exact ⟨h.bad, h.inv⟩
  | false => exact ⟨rfl, fun l a r _ e => by
      injection e with e1 e2
      injection e2 with e2⟩
end Go.Proofs.YtpcdngpppjdgcaaGreat

/- A copy of a list of changes, by the program. -/
namespace Go.Proofs.YtpcdngpppjdgcaaGreat
open Lib (hid)
set_option linter.unusedVariables false
set_option linter.unusedSimpArgs false
open Go.RowKit
set_option maxRecDepth 100000
theorem DBox.call {w w' : World} {p : Nat} {c0 c1 c2 c3 c4 c5 c6 c7 : Value} (h : DBox w p c0 c1 c2 c3 c4 c5 c6 c7) (hb : Below w.heap.size w w') : DBox w' p c0 c1 c2 c3 c4 c5 c6 c7 := (hb.block p h.lt).trans h
theorem below_set {B p i : Nat} {w w' : World} {u : Value} (h : Below B w w') (hp : B ≤ p) : Below B w (w'.setCell ⟨p, i, none⟩ u) := ⟨h.os, h.tape, h.output, by simp; exact h.size, fun b hb => (heap_setCell_other _ ⟨p, i, none⟩ b _ (by show b ≠ p; omega)).trans (h.block b hb)⟩
theorem below_five {B p o : Nat} {w w' : World} {c0 c1 c2 c3 c4 : Value} (h : Below B w w') (hp : B ≤ p) : Below B w (five w' p o c0 c1 c2 c3 c4) :=
  ⟨(five_rest _ _ _ _ _ _ _ _).1.trans h.os, (five_rest _ _ _ _ _ _ _ _).2.1.trans h.tape, (five_rest _ _ _ _ _ _ _ _).2.2.trans h.output, by rw [five_size]; exact h.size, fun b hb => (five_other _ _ _ _ _ _ _ _ b (by omega)).trans (h.block b hb)⟩
set_option maxHeartbeats 16000000 in
theorem dlclone_new (S : Nat → Prop) (A : Option Addr) (c : Nat) (l : List DelT) (w : World) (hS : ∀ b, S b → b < w.heap.size) (h : DelsL w S A l) (hA : A = none → c = 0 ∧ l = []) (hl : l.length ≤ 1099511627776) :
    Calls Tryz.prog 56 #[.slice A l.length c] w fun e w' => ∃ A' c', e = .returned (.slice A' l.length c') ∧ (A' = none → c' = 0) ∧ l.length ≤ c' ∧ DelsL w' (fun b => b < w'.heap.size ∧ (S b ∨ w.heap.size ≤ b)) A' l ∧ Below w.heap.size w w' := by
  have HC := hid (slCloneD_any S A c l w hS h hA hl)
  have HS := hid hS
  have HA := hid h
  obtain ⟨n, hn⟩ : ∃ n, n = l.length := ⟨_, rfl⟩
  have HN := hid hn
  rw [← hn] at HC hl ⊢
  clear hS h hA hn
  go_enter Tryz.func56, Tryz.ntmps56
  go_wp2_with fail
  refine HC.out.mono ?_
  rintro e w1 ⟨v, rfl, ⟨xs, hv, hx⟩, hb⟩
  obtain ⟨A', c', rfl, hA', hc'⟩ := own_slice hv
  have HB := hid hb
  have HV := hid hv
  have HX := hid hx
  have HAC := hid (And.intro hA' hc')
  clear hb hv hx hA' hc' HC
  go_wp2_with fail
  by_cases hp : 0 < n
  · obtain ⟨g, cap, e⟩ := row_pos HV.out hp
    injection e with e1 e2 e3
    subst e1 e3
    have hg : w.heap.size ≤ g := (World.ownsRow.lt HV.out g rfl).1
    have HG := hid hg
    have HR1 : Hid (RowD (fun b => S b ∨ w.heap.size ≤ b) w1 g l) := hid (RowD.of HV.out HN.out HX.out (fun b hb => by
      have := HS.out b hb
      exact ⟨Nat.lt_of_lt_of_le this HB.out.size, by omega, .inl hb⟩))
    clear HV HX e2 hg
    go_loopw [10] (fun i wr => ∃ k : Nat, i = .int .i64 k ∧ k ≤ n ∧ Hid (Below w.heap.size w wr) ∧ Hid (RowD (fun b => S b ∨ w.heap.size ≤ b) wr g l)) (fun i _ => n - (intOf i).toNat)
    case atStart => exact ⟨0, rfl, by omega, HB, HR1⟩
    case round =>
      clear HB HR1
      obtain ⟨k, rfl, hk, HB, HR⟩ := hrel
      by_cases hlt : k < n
      · have d1 : decide ((k : Int) < (n : Int)) = true := decide_eq_true (by omega)
        have hkl : k < l.length := by have := HN.out; omega
        obtain ⟨bp, off, PA, pc, VA, vc, VA', vc', rfl, hbp, hd, x0, x1, x2, x3, x4, x5, x6, x7⟩ := (HA.out.below HS.out HB.out).cells k hkl
        have hbp2 : bp < wr.heap.size := Nat.lt_of_lt_of_le (HS.out bp hbp) HB.out.size
        obtain ⟨w4, hw4⟩ : ∃ W, W = wr.alloc (.cells #[.int .i64 l[k].kind, .slice PA l[k].path.length pc, .int .i64 l[k].val.kind, .int .i64 l[k].val.num, .string l[k].val.text, .slice VA l[k].val.items.length vc, .slice VA' l[k].val.names.length vc', .int .i64 l[k].num] 95) := ⟨_, rfl⟩
        have hb4 : Below wr.heap.size wr w4 := by rw [hw4]; exact below_box _
        have hq4 := DBox.new wr (.int .i64 l[k].kind) (.slice PA l[k].path.length pc) (.int .i64 l[k].val.kind) (.int .i64 l[k].val.num) (.string l[k].val.text) (.slice VA l[k].val.items.length vc) (.slice VA' l[k].val.names.length vc') (.int .i64 l[k].num)
        rw [← hw4] at hq4
        have hz4 : w4.heap.size = wr.heap.size + 1 := by rw [hw4]; simp
        have HD4 := hid (hd.below (fun b hb => Nat.lt_of_lt_of_le (HS.out b hb) HB.out.size) hb4)
        have HR4 := hid (HR.out.call hb4)
        have HB4 := hid (HB.out.trans (hb4.mono HB.out.size))
        have HQ4 := hid hq4
        have HW4 := hid hw4
        have hgr := HR.out.lt
        have HGR := hid hgr
        have HC5 := hid (by
          obtain ⟨PB, pd, VB, vd, VB', vd', e, -, q1, q2, q3, -, -, q4⟩ := HD4.out
          simp only [Array.mk.injEq, List.cons.injEq, Value.slice.injEq, and_true, true_and] at e
          obtain ⟨⟨rfl, rfl⟩, ⟨rfl, rfl⟩, rfl, rfl⟩ := e
          exact cloneS_all S PA pc l[k].path w4 q1 (fun b hb => Nat.lt_of_lt_of_le (HS.out b hb) HB4.out.size) q3 q4)
        clear hd hb4 hq4 hz4 hbp hgr
        go_wp2_with fail
        rw [← hw4]
        refine HC5.out.mono ?_
        rintro e w5 ⟨v5, rfl, hv5, hb5⟩
        obtain ⟨PB, pd, e5, hP0, hP1⟩ := own_slice hv5
        subst e5
        have HR5 := hid (HR4.out.call hb5)
        have HQ5 := hid (HQ4.out.call hb5)
        have HB5 := hid (HB4.out.trans (hb5.mono HB4.out.size))
        have HD5 := hid (HD4.out.below (fun b hb => Nat.lt_of_lt_of_le (HS.out b hb) HB4.out.size) hb5)
        have hpl5 : l[k].path.length ≤ 8796093021952 := by
          obtain ⟨PB, pd, VB, vd, VB', vd', e, -, q1, q2, q3, -, -, q4⟩ := HD4.out
          exact q4
        have HV5 : Hid (SlP w5 (fun b => b < w5.heap.size ∧ b ≠ g ∧ (S b ∨ w.heap.size ≤ b)) (.slice PB l[k].path.length pd) l[k].path) := hid (by
          obtain ⟨PC, pe, e, h1, h2⟩ := hv5.opens (fun s hs => by
            obtain ⟨PB, pd, VB, vd, VB', vd', e, -, q1, -⟩ := HD4.out
            obtain ⟨i, hi, rfl⟩ := List.mem_iff_getElem.1 hs
            obtain ⟨_, _, _, _, hc⟩ := q1 (by omega)
            exact (hc i hi).2)
          injection e with e1 e2 e3
          subst e1 e3
          exact ⟨_, _, rfl, h2.imp fun b hb => ⟨hb.2, by have := HR4.out.lt; have := hb.1; omega, .inr (by have := HB4.out.size; have := hb.1; omega)⟩, h1, by omega⟩)
        have HP0 := hid hP0
        obtain ⟨u1, z1⟩ := HR5.out.cell k hkl 1 (by omega)
        have zf := fun i => HR5.out.free i
        have hne : wr.heap.size ≠ g := by have := HGR.out; omega
        have hQ6 := HQ5.out.other g (k * 8 + 1) (.slice PB l[k].path.length pd) hne
        have y2 := hQ6.g2
        have y3 := hQ6.g3
        have y4 := hQ6.g4
        have y5 := hQ6.g5
        have y6 := hQ6.g6
        have hR6 := HR5.out.path hkl HV5.out (fun A n c e e' => by injection e with e1 e2 e3; subst e1; rw [← e3]; exact hP0 e')
        have hb6 : Below w.heap.size w (w5.setCell ⟨g, k * 8 + 1, none⟩ (.slice PB l[k].path.length pd)) := below_set HB5.out HG.out
        obtain ⟨w6, hw6⟩ : ∃ W, W = w5.setCell ⟨g, k * 8 + 1, none⟩ (.slice PB l[k].path.length pd) := ⟨_, rfl⟩
        have HW6 := hid hw6
        have HR6 : Hid (RowD (fun b => S b ∨ w.heap.size ≤ b) w6 g l) := hid (by rw [hw6]; exact hR6)
        have HB6 : Hid (Below w.heap.size w w6) := hid (by rw [hw6]; exact hb6)
        have hlv6 : LV w6 S l[k].val (.agg #[.int .i64 l[k].val.kind, .int .i64 l[k].val.num, .string l[k].val.text, .slice VA l[k].val.items.length vc, .slice VA' l[k].val.names.length vc']) := by
          obtain ⟨PB', pd', VB, vd, VB', vd', e, q0, -⟩ := HD5.out
          simp only [Array.mk.injEq, List.cons.injEq, Value.slice.injEq, and_true, true_and] at e
          obtain ⟨⟨rfl, rfl⟩, ⟨rfl, rfl⟩, rfl, rfl⟩ := e
          refine q0.keep fun b hb => ?_
          rw [hw6]
          exact heap_setCell_other _ ⟨g, k * 8 + 1, none⟩ b _ (by have := HS.out b hb; have := HG.out; show b ≠ g; omega)
        have HC7 := hid (clone_own S l[k].val _ w6 (fun b hb => Nat.lt_of_lt_of_le (HS.out b hb) HB6.out.size) hlv6)
        clear hv5 hb5 hP0 hP1 hQ6 hR6 hb6 hlv6 hw6 x0 x1 x2 x3 x4 x5 x6 x7 hw4 hpl5 HC5 HW4 HB HR HR4 HB4
        go_wp2_with fail
        rw [← HW6.out]
        refine HC7.out.mono ?_
        rintro e w7 ⟨v7, rfl, hv7, hb7⟩
        obtain ⟨VB, vd, VB', vd', -, e7, -⟩ := hv7.shape
        subst e7
        have HR7 := hid (HR6.out.call hb7)
        have HB7 := hid (HB6.out.trans (hb7.mono HB6.out.size))
        have HR8 := hid (HR7.out.val hkl (hv7.lv.imp fun b hb => ⟨hb.2, by have := HR6.out.lt; have := hb.1; omega, .inr (by have := HB6.out.size; have := hb.1; omega)⟩))
        have HB8 := hid (below_five (o := k * 8 + 2) (c0 := .int .i64 l[k].val.kind) (c1 := .int .i64 l[k].val.num) (c2 := .string l[k].val.text) (c3 := .slice VB l[k].val.items.length vd) (c4 := .slice VB' l[k].val.names.length vd') HB7.out HG.out)
        clear z1 zf y2 y3 y4 y5 y6 hv7 hb7 HC7 HW6
        obtain ⟨u2, z2⟩ := HR7.out.cell k hkl 2 (by omega)
        obtain ⟨u3, z3⟩ := HR7.out.cell k hkl 3 (by omega)
        obtain ⟨u4, z4⟩ := HR7.out.cell k hkl 4 (by omega)
        obtain ⟨u5, z5⟩ := HR7.out.cell k hkl 5 (by omega)
        obtain ⟨u6, z6⟩ := HR7.out.cell k hkl 6 (by omega)
        have zf := fun i => HR7.out.free i
        go_wp2_with fail
        go_roundw
        case rel => exact ⟨k + 1, by go_num, by omega, HB8, HR8⟩
        case measure => simp [intOf]; omega
      · have d1 : decide ((k : Int) < (n : Int)) = false := decide_eq_false (by omega)
        have HRR := hid (DelsL.imp (S' := fun b => b < wr.heap.size ∧ (S b ∨ w.heap.size ≤ b)) HR.out.rows fun b hb => ⟨hb.1, hb.2.elim id fun e => .inr (by have := HG.out; omega)⟩)
        go_wp2_with fail
        go_ret
        exact ⟨_, _, rfl, HAC.out.1, HAC.out.2, HRR.out, HB.out⟩
  · have d0 : n = 0 := by omega
    have hl0 : l = [] := List.eq_nil_of_length_eq_zero (by have := HN.out; omega)
    have HL0 := hid hl0
    subst d0
    clear hl0
    go_loopw [10] (fun i wr => i = .int .i64 0 ∧ wr = w1) (fun i _ => 0)
    case atStart => exact ⟨rfl, rfl⟩
    case round =>
      obtain ⟨rfl, rfl⟩ := hrel
      go_wp2_with fail
      go_ret
      exact ⟨_, _, rfl, HAC.out.1, HAC.out.2, fun h => absurd h (by rw [HL0.out]; simp), HB.out⟩
end Go.Proofs.YtpcdngpppjdgcaaGreat
