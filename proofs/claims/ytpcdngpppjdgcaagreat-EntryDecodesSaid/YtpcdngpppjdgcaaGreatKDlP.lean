/- Whether two lists of changes are the same, by the document. -/
import Derived.Test.YtpcdngpppjdgcaaGreatKIdx
import Derived.Test.YtpcdngpppjdgcaaGreatKRdK
import Derived.Test.YtpcdngpppjdgcaaGreatKEnI
import Derived.Test.YtpcdngpppjdgcaaGreatKRefZ
import Derived.Test.YtpcdngpppjdgcaaGreatKRefD2
import Derived.Test.YtpcdngpppjdgcaaGreatKCodX
namespace Go.Proofs.YtpcdngpppjdgcaaGreat
open Lib (hid)
set_option linter.unusedVariables false
set_option linter.unusedSimpArgs false
open Go.RowKit
set_option maxRecDepth 100000
set_option maxHeartbeats 16000000 in
theorem r6same_any (S : Nat → Prop) (A : Option Addr) (c : Nat) (xs : List DelT) (B : Option Addr) (d : Nat) (ys : List DelT) (w : World) (hS : ∀ b, S b → b < w.heap.size) (ha : DelsL w S A xs) (hb : DelsL w S B ys) (hla : xs.length ≤ 140737488351232) (hlb : ys.length ≤ 140737488351232) :
  Calls Tryz.prog 54 #[.slice A xs.length c, .slice B ys.length d] w fun e w' => (∃ r : Bool, e = .returned (.bool r) ∧ (r = true ↔ xs = ys)) ∧ Below w.heap.size w w' := by
 have HS := hid hS
 have HA := hid ha
 have HBB := hid hb
 clear hS ha hb
 by_cases hl : xs.length = ys.length
 ·have HL := hid hl
  obtain ⟨m, hm⟩ : ∃ m, m = xs.length := ⟨_, rfl⟩
  have HMA := hid hm
  have HMB : Hid (m = ys.length) := hid (by omega)
  rw [← hl, ← hm]
  have hm9 : m ≤ 140737488351232 := by omega
  have d0 : ((m : Int) != (m : Int)) = false := by simp
  clear hl hm hla hlb
  go_enter Tryz.func54, Tryz.ntmps54
  go_wp2_with fail
  clear d0
  go_loopw [5] (fun i wr => ∃ j : Nat, i = .int .i64 j ∧ j ≤ m ∧ Hid (∀ k (h : k < xs.length) (h' : k < ys.length), k < j → xs[k] = ys[k]) ∧ Hid (Below w.heap.size w wr)) (fun i _ => m - (intOf i).toNat)
  case atStart => exact ⟨0, rfl, Nat.zero_le _, hid (fun k _ _ h => absurd h (Nat.not_lt_zero _)), hid (Below.refl _ _)⟩
  case round =>
   obtain ⟨j, rfl, hj, HE, HB⟩ := hrel
   by_cases hlt : j < m
   ·have hla : j < xs.length := by have := HMA.out; omega
    have hlb : j < ys.length := by have := HMB.out; omega
    have d1 : decide ((j : Int) < (m : Int)) = true := decide_eq_true (by omega)
    obtain ⟨p, o, PA, pc, VA, vc, VA', vc', rfl, hp, hx, x0, x1, x2, x3, x4, x5, x6, x7⟩ := (HA.out.below HS.out HB.out).cells j hla
    obtain ⟨p', o', PB, pd, VB, vd, VB', vd', rfl, hp', hy, g0, g1, g2, g3, g4, g5, g6, g7⟩ := (HBB.out.below HS.out HB.out).cells j hlb
    have hp2 : p < wr.heap.size := Nat.lt_of_lt_of_le (HS.out p hp) HB.out.size
    have hp2' : p' < wr.heap.size := Nat.lt_of_lt_of_le (HS.out p' hp') HB.out.size
    have hS2 : ∀ b, S b → b < wr.drew.heap.size := fun b hb => Nat.lt_of_lt_of_le (HS.out b hb) HB.out.size
    obtain ⟨hvx, hpx, hlx⟩ : LV wr.drew S xs[j].val (.agg #[.int .i64 xs[j].val.kind, .int .i64 xs[j].val.num, .string xs[j].val.text, .slice VA xs[j].val.items.length vc, .slice VA' xs[j].val.names.length vc']) ∧ StrsAt wr.drew S PA xs[j].path ∧ xs[j].path.length ≤ 8796093021952 := by
     obtain ⟨P1, p1, V1, v1, V1', v1', e, q0, q1, -, -, -, -, q4⟩ := hx
     simp only [Array.mk.injEq, List.cons.injEq, Value.slice.injEq, and_true, true_and] at e
     obtain ⟨⟨rfl, rfl⟩, ⟨rfl, rfl⟩, rfl, rfl⟩ := e
     exact ⟨q0.drew, q1, q4⟩
    obtain ⟨hvy, hpy, hly⟩ : LV wr.drew S ys[j].val (.agg #[.int .i64 ys[j].val.kind, .int .i64 ys[j].val.num, .string ys[j].val.text, .slice VB ys[j].val.items.length vd, .slice VB' ys[j].val.names.length vd']) ∧ StrsAt wr.drew S PB ys[j].path ∧ ys[j].path.length ≤ 8796093021952 := by
     obtain ⟨P1, p1, V1, v1, V1', v1', e, q0, q1, -, -, -, -, q4⟩ := hy
     simp only [Array.mk.injEq, List.cons.injEq, Value.slice.injEq, and_true, true_and] at e
     obtain ⟨⟨rfl, rfl⟩, ⟨rfl, rfl⟩, rfl, rfl⟩ := e
     exact ⟨q0.drew, q1, q4⟩
    have HPS := hid (rpsame_any PA PB pc pd xs[j].path ys[j].path wr.drew S S hpx hpy hS2 hS2 (by omega) (by omega))
    have HVS : Hid (∀ W, Below wr.drew.heap.size wr.drew W → Calls Tryz.prog 53 #[.agg #[.int .i64 xs[j].val.kind, .int .i64 xs[j].val.num, .string xs[j].val.text, .slice VA xs[j].val.items.length vc, .slice VA' xs[j].val.names.length vc'], .agg #[.int .i64 ys[j].val.kind, .int .i64 ys[j].val.num, .string ys[j].val.text, .slice VB ys[j].val.items.length vd, .slice VB' ys[j].val.names.length vd']] W fun e w' => (∃ r : Bool, e = .returned (.bool r) ∧ (r = true ↔ xs[j].val = ys[j].val)) ∧ Below W.heap.size W w') := hid fun W hW => rsame_any S (depthT xs[j].val) xs[j].val ys[j].val _ _ W (Nat.le_refl _) (fun b hb => Nat.lt_of_lt_of_le (hS2 b hb) hW.size) (hvx.keep fun b hb => hW.block b (hS2 b hb)) (hvy.keep fun b hb => hW.block b (hS2 b hb))
    clear hx hy hp hp' hS2 hvx hpx hlx hvy hpy hly
    by_cases hall : xs[j].kind = ys[j].kind ∧ xs[j].num = ys[j].num
    ·have e0 : (xs[j].kind != ys[j].kind) = false := by rw [hall.1]; simp
     have e7 : (xs[j].num != ys[j].num) = false := by rw [hall.2]; simp
     have HALL := hid hall
     clear hall
     go_wp2_with fail
     refine wp_region_mix [0, 1, 2, 3, 4, 5, 6, 7, 8, 9, 10, 11, 12, 13, 14, 15, 16, 17, 18, 19, 20, 21, 22, 23, 24, 25, 26, 27, 28, 29, 30, 31, 32, 33, 34, 35, 36, 37, 38, 39, 40, 41, 42, 43, 44, 45, 46, 47, 48, 49, 50, 51] (by kernel_rfl) (by kernel_rfl) (fun _ d _ _ _ h => by cases d <;> exact h) ?_
     simp only [atR]
     have q0 := cell_later (B := wr.heap.size) (w := wr.drew) x0 hp2
     have q1 := cell_later (B := wr.heap.size) (w := wr.drew) x1 hp2
     have q2 := cell_later (B := wr.heap.size) (w := wr.drew) x2 hp2
     have q3 := cell_later (B := wr.heap.size) (w := wr.drew) x3 hp2
     have q4 := cell_later (B := wr.heap.size) (w := wr.drew) x4 hp2
     have q5 := cell_later (B := wr.heap.size) (w := wr.drew) x5 hp2
     have q6 := cell_later (B := wr.heap.size) (w := wr.drew) x6 hp2
     have q7 := cell_later (B := wr.heap.size) (w := wr.drew) x7 hp2
     have z0 := cell_later (B := wr.heap.size) (w := wr.drew) g0 hp2'
     have z1 := cell_later (B := wr.heap.size) (w := wr.drew) g1 hp2'
     have z2 := cell_later (B := wr.heap.size) (w := wr.drew) g2 hp2'
     have z3 := cell_later (B := wr.heap.size) (w := wr.drew) g3 hp2'
     have z4 := cell_later (B := wr.heap.size) (w := wr.drew) g4 hp2'
     have z5 := cell_later (B := wr.heap.size) (w := wr.drew) g5 hp2'
     have z6 := cell_later (B := wr.heap.size) (w := wr.drew) g6 hp2'
     have z7 := cell_later (B := wr.heap.size) (w := wr.drew) g7 hp2'
     first | refine mix_pure ?_ | refine mix_pureB ?_
     simp only [List.takeWhile, List.dropWhile, isPure, Nat.reduceBNe]
     repeat (go_big_quiet_step (fail))
     refine wpQuiet_nil ?_
     clear q0 q1 q2 q3 q4 q5 q6 q7 z0 z1 z2 z3 z4 z5 z6 z7
     first | refine mix_call rfl (fun K hK => ?_) | refine mix_callB rfl (fun K hK => ?_)
     go_simp
     refine (HPS.out).mono ?_
     rintro e w8 ⟨rfl, hb⟩
     refine hK _ _ hb ?_
     clear hK K
     try simp only [Act.put]
     have HVS8 := hid (HVS.out w8 hb)
     have HB8 : Hid (Below w.heap.size w w8) := hid (HB.out.trans ((show Below wr.heap.size wr w8 from (Below.refl _ _).drew.trans hb).mono HB.out.size))
     have hs8 : wr.heap.size ≤ w8.heap.size := hb.size
     have t2 := (World.cell?_of_block (a := ⟨p, o + j * 8 + 2, none⟩) (hb.block p hp2)).trans x2
     have t3 := (World.cell?_of_block (a := ⟨p, o + j * 8 + 3, none⟩) (hb.block p hp2)).trans x3
     have t4 := (World.cell?_of_block (a := ⟨p, o + j * 8 + 4, none⟩) (hb.block p hp2)).trans x4
     have t5 := (World.cell?_of_block (a := ⟨p, o + j * 8 + 5, none⟩) (hb.block p hp2)).trans x5
     have t6 := (World.cell?_of_block (a := ⟨p, o + j * 8 + 6, none⟩) (hb.block p hp2)).trans x6
     have s2 := (World.cell?_of_block (a := ⟨p', o' + j * 8 + 2, none⟩) (hb.block p' hp2')).trans g2
     have s3 := (World.cell?_of_block (a := ⟨p', o' + j * 8 + 3, none⟩) (hb.block p' hp2')).trans g3
     have s4 := (World.cell?_of_block (a := ⟨p', o' + j * 8 + 4, none⟩) (hb.block p' hp2')).trans g4
     have s5 := (World.cell?_of_block (a := ⟨p', o' + j * 8 + 5, none⟩) (hb.block p' hp2')).trans g5
     have s6 := (World.cell?_of_block (a := ⟨p', o' + j * 8 + 6, none⟩) (hb.block p' hp2')).trans g6
     have hp3 : p < w8.heap.size := by omega
     have hp3' : p' < w8.heap.size := by omega
     clear hb HPS HVS x0 x1 x2 x3 x4 x5 x6 x7 g0 g1 g2 g3 g4 g5 g6 g7 hp2 hp2' e0 e7
     by_cases hpp : xs[j].path = ys[j].path
     ·have HPP := hid hpp
      rw [decide_eq_true hpp]
      clear hpp
      have q2 := cell_later (B := w8.heap.size) (w := w8) t2 hp3
      have z2 := cell_later (B := w8.heap.size) (w := w8) s2 hp3'
      have q3 := cell_later (B := w8.heap.size) (w := w8) t3 hp3
      have z3 := cell_later (B := w8.heap.size) (w := w8) s3 hp3'
      have q4 := cell_later (B := w8.heap.size) (w := w8) t4 hp3
      have z4 := cell_later (B := w8.heap.size) (w := w8) s4 hp3'
      have q5 := cell_later (B := w8.heap.size) (w := w8) t5 hp3
      have z5 := cell_later (B := w8.heap.size) (w := w8) s5 hp3'
      have q6 := cell_later (B := w8.heap.size) (w := w8) t6 hp3
      have z6 := cell_later (B := w8.heap.size) (w := w8) s6 hp3'
      first | refine mix_pure ?_ | refine mix_pureB ?_
      simp only [List.takeWhile, List.dropWhile, isPure, Nat.reduceBNe]
      repeat (go_big_quiet_step (fail))
      refine wpQuiet_nil ?_
      clear q2 q3 q4 q5 q6 z2 z3 z4 z5 z6
      first | refine mix_call rfl (fun K hK => ?_) | refine mix_callB rfl (fun K hK => ?_)
      go_simp
      refine (HVS8.out).mono ?_
      rintro e w9 ⟨⟨r, rfl, hr⟩, hb⟩
      refine hK _ _ hb ?_
      clear hK K
      try simp only [Act.put]
      have HB9 : Hid (Below w.heap.size w w9) := hid (HB8.out.trans (hb.mono HB8.out.size))
      have HRR := hid hr
      clear hb HVS8 hr t2 t3 t4 t5 t6 s2 s3 s4 s5 s6 hp3 hp3' hs8
      first | refine mix_pure ?_ | refine mix_pureB ?_
      simp only [List.takeWhile, List.dropWhile, isPure, Nat.reduceBNe]
      repeat (go_big_quiet_step (fail))
      refine wpQuiet_nil ?_
      unfold wpMix
      cases r
      ·have HF : Hid ((false = true) ↔ xs = ys) := hid ⟨fun h => (by cases h), fun h => by
        have h1 := HRR.out.2 (by subst h; rfl)
        cases h1⟩
       go_wp2_with fail
       go_ret
       exact ⟨⟨_, rfl, HF.out⟩, HB9.out⟩
      ·have HEQ : Hid (xs[j] = ys[j]) := hid (DelT.same HALL.out.1 HALL.out.2 HPP.out (HRR.out.1 rfl))
       go_wp2_with fail
       go_roundw
       case rel => exact ⟨j + 1, by go_num, by omega, hid (fun k h h' hkj => by
        by_cases e : k = j
        ·subst e; exact HEQ.out
        ·exact HE.out k h h' (by omega)), HB9⟩
       case measure => simp [intOf]; omega
     ·have HF : Hid ((false = true) ↔ xs = ys) := hid ⟨fun h => (by cases h), fun h => absurd (by subst h; rfl) hpp⟩
      rw [decide_eq_false hpp]
      clear hpp
      first | refine mix_pure ?_ | refine mix_pureB ?_
      simp only [List.takeWhile, List.dropWhile, isPure, Nat.reduceBNe]
      repeat (go_big_quiet_step (fail))
      refine wpQuiet_nil ?_
      first | refine mix_call rfl (fun K hK => ?_) | refine mix_callB rfl (fun K hK => ?_)
      go_simp
      refine hK _ _ (Below.refl _ _) ?_
      clear hK K
      try simp only [Act.put]
      first | refine mix_pure ?_ | refine mix_pureB ?_
      simp only [List.takeWhile, List.dropWhile, isPure, Nat.reduceBNe]
      repeat (go_big_quiet_step (fail))
      refine wpQuiet_nil ?_
      unfold wpMix
      go_wp2_with fail
      go_ret
      exact ⟨⟨_, rfl, HF.out⟩, HB8.out⟩
    ·have HF : Hid ((false = true) ↔ xs = ys) := hid ⟨fun h => (by cases h), fun h => absurd (by subst h; exact ⟨rfl, rfl⟩) hall⟩
     have HB8 : Hid (Below w.heap.size w wr.drew) := hid HB.out.drew
     have hcut : (xs[j].kind ≠ ys[j].kind) ∨ (xs[j].kind = ys[j].kind ∧ xs[j].num ≠ ys[j].num) := by
      by_cases h1 : xs[j].kind = ys[j].kind
      ·exact .inr ⟨h1, fun h2 => hall ⟨h1, h2⟩⟩
      ·exact .inl h1
     clear hall HPS HVS
     rcases hcut with h1 | ⟨h1, h2⟩
     ·have e0 : (xs[j].kind != ys[j].kind) = true := bne_iff_ne.2 h1
      clear h1
      go_wp2_with fail
      refine wp_region_mix [0, 1, 2, 3, 4, 5, 6, 7, 8, 9, 10, 11, 12, 13, 14, 15, 16, 17, 18, 19, 20, 21, 22, 23, 24, 25, 26, 27, 28, 29, 30, 31, 32, 33, 34, 35, 36, 37, 38, 39, 40, 41, 42, 43, 44, 45, 46, 47, 48, 49, 50, 51] (by kernel_rfl) (by kernel_rfl) (fun _ d _ _ _ h => by cases d <;> exact h) ?_
      simp only [atR]
      have q0 := cell_later (B := wr.heap.size) (w := wr.drew) x0 hp2
      have q1 := cell_later (B := wr.heap.size) (w := wr.drew) x1 hp2
      have q2 := cell_later (B := wr.heap.size) (w := wr.drew) x2 hp2
      have q3 := cell_later (B := wr.heap.size) (w := wr.drew) x3 hp2
      have q4 := cell_later (B := wr.heap.size) (w := wr.drew) x4 hp2
      have q5 := cell_later (B := wr.heap.size) (w := wr.drew) x5 hp2
      have q6 := cell_later (B := wr.heap.size) (w := wr.drew) x6 hp2
      have q7 := cell_later (B := wr.heap.size) (w := wr.drew) x7 hp2
      have z0 := cell_later (B := wr.heap.size) (w := wr.drew) g0 hp2'
      have z1 := cell_later (B := wr.heap.size) (w := wr.drew) g1 hp2'
      have z2 := cell_later (B := wr.heap.size) (w := wr.drew) g2 hp2'
      have z3 := cell_later (B := wr.heap.size) (w := wr.drew) g3 hp2'
      have z4 := cell_later (B := wr.heap.size) (w := wr.drew) g4 hp2'
      have z5 := cell_later (B := wr.heap.size) (w := wr.drew) g5 hp2'
      have z6 := cell_later (B := wr.heap.size) (w := wr.drew) g6 hp2'
      have z7 := cell_later (B := wr.heap.size) (w := wr.drew) g7 hp2'
      first | refine mix_pure ?_ | refine mix_pureB ?_
      simp only [List.takeWhile, List.dropWhile, isPure, Nat.reduceBNe]
      repeat (go_big_quiet_step (fail))
      refine wpQuiet_nil ?_
      first | refine mix_call rfl (fun K hK => ?_) | refine mix_callB rfl (fun K hK => ?_)
      go_simp
      refine hK _ _ (Below.refl _ _) ?_
      clear hK K
      try simp only [Act.put]
      first | refine mix_pure ?_ | refine mix_pureB ?_
      simp only [List.takeWhile, List.dropWhile, isPure, Nat.reduceBNe]
      repeat (go_big_quiet_step (fail))
      refine wpQuiet_nil ?_
      first | refine mix_call rfl (fun K hK => ?_) | refine mix_callB rfl (fun K hK => ?_)
      go_simp
      refine hK _ _ (Below.refl _ _) ?_
      clear hK K
      try simp only [Act.put]
      first | refine mix_pure ?_ | refine mix_pureB ?_
      simp only [List.takeWhile, List.dropWhile, isPure, Nat.reduceBNe]
      repeat (go_big_quiet_step (fail))
      refine wpQuiet_nil ?_
      unfold wpMix
      clear q0 q1 q2 q3 q4 q5 q6 q7 z0 z1 z2 z3 z4 z5 z6 z7
      go_wp2_with fail
      go_ret
      exact ⟨⟨_, rfl, HF.out⟩, HB8.out⟩
     ·have e0 : (xs[j].kind != ys[j].kind) = false := by rw [h1]; simp
      have e7 : (xs[j].num != ys[j].num) = true := bne_iff_ne.2 h2
      clear h1 h2
      go_wp2_with fail
      refine wp_region_mix [0, 1, 2, 3, 4, 5, 6, 7, 8, 9, 10, 11, 12, 13, 14, 15, 16, 17, 18, 19, 20, 21, 22, 23, 24, 25, 26, 27, 28, 29, 30, 31, 32, 33, 34, 35, 36, 37, 38, 39, 40, 41, 42, 43, 44, 45, 46, 47, 48, 49, 50, 51] (by kernel_rfl) (by kernel_rfl) (fun _ d _ _ _ h => by cases d <;> exact h) ?_
      simp only [atR]
      have q0 := cell_later (B := wr.heap.size) (w := wr.drew) x0 hp2
      have q1 := cell_later (B := wr.heap.size) (w := wr.drew) x1 hp2
      have q2 := cell_later (B := wr.heap.size) (w := wr.drew) x2 hp2
      have q3 := cell_later (B := wr.heap.size) (w := wr.drew) x3 hp2
      have q4 := cell_later (B := wr.heap.size) (w := wr.drew) x4 hp2
      have q5 := cell_later (B := wr.heap.size) (w := wr.drew) x5 hp2
      have q6 := cell_later (B := wr.heap.size) (w := wr.drew) x6 hp2
      have q7 := cell_later (B := wr.heap.size) (w := wr.drew) x7 hp2
      have z0 := cell_later (B := wr.heap.size) (w := wr.drew) g0 hp2'
      have z1 := cell_later (B := wr.heap.size) (w := wr.drew) g1 hp2'
      have z2 := cell_later (B := wr.heap.size) (w := wr.drew) g2 hp2'
      have z3 := cell_later (B := wr.heap.size) (w := wr.drew) g3 hp2'
      have z4 := cell_later (B := wr.heap.size) (w := wr.drew) g4 hp2'
      have z5 := cell_later (B := wr.heap.size) (w := wr.drew) g5 hp2'
      have z6 := cell_later (B := wr.heap.size) (w := wr.drew) g6 hp2'
      have z7 := cell_later (B := wr.heap.size) (w := wr.drew) g7 hp2'
      first | refine mix_pure ?_ | refine mix_pureB ?_
      simp only [List.takeWhile, List.dropWhile, isPure, Nat.reduceBNe]
      repeat (go_big_quiet_step (fail))
      refine wpQuiet_nil ?_
      first | refine mix_call rfl (fun K hK => ?_) | refine mix_callB rfl (fun K hK => ?_)
      go_simp
      refine hK _ _ (Below.refl _ _) ?_
      clear hK K
      try simp only [Act.put]
      first | refine mix_pure ?_ | refine mix_pureB ?_
      simp only [List.takeWhile, List.dropWhile, isPure, Nat.reduceBNe]
      repeat (go_big_quiet_step (fail))
      refine wpQuiet_nil ?_
      first | refine mix_call rfl (fun K hK => ?_) | refine mix_callB rfl (fun K hK => ?_)
      go_simp
      refine hK _ _ (Below.refl _ _) ?_
      clear hK K
      try simp only [Act.put]
      first | refine mix_pure ?_ | refine mix_pureB ?_
      simp only [List.takeWhile, List.dropWhile, isPure, Nat.reduceBNe]
      repeat (go_big_quiet_step (fail))
      refine wpQuiet_nil ?_
      unfold wpMix
      clear q0 q1 q2 q3 q4 q5 q6 q7 z0 z1 z2 z3 z4 z5 z6 z7
      go_wp2_with fail
      go_ret
      exact ⟨⟨_, rfl, HF.out⟩, HB8.out⟩
   ·have HF : Hid ((true = true) ↔ xs = ys) := hid ⟨fun _ => List.ext_getElem HL.out (fun k h h' => HE.out k h h' (by have := HMA.out; omega)), fun _ => rfl⟩
    have d1 : decide ((j : Int) < (m : Int)) = false := decide_eq_false (by omega)
    go_wp2_with fail
    go_ret
    exact ⟨.inr ⟨rfl, by have h := HF.out; simpa using h⟩, HB.out⟩
 ·have d1 : ((xs.length : Int) != (ys.length : Int)) = true := bne_iff_ne.2 (by omega)
  have HN : Hid (xs ≠ ys) := hid fun e => hl (by rw [e])
  clear hl
  go_enter Tryz.func54, Tryz.ntmps54
  go_wp2_with fail
  go_ret
  exact ⟨⟨false, rfl, by have := HN.out; simpa using this⟩, Below.refl _ _⟩
theorem got_item (t : VT) : okT t [idN] = (itemT t idN).isSome ∧ ∀ x, itemT t idN = some x → gotT t [idN] = x := by
 unfold okT gotT
 rw [getT_item]
 cases h : itemT t idN with
 | none => exact ⟨rfl, fun x hx => by cases hx⟩
 | some u => exact ⟨rfl, fun x hx => by injection hx with hx⟩
set_option maxHeartbeats 8000000 in
theorem r13doc_any (S : Nat → Prop) (v id : VT) (cv ci : Value) (w : World) (hS : ∀ b, S b → b < w.heap.size) (hv : LV w S v cv) (hi : LV w S id ci) (dv : depthT v ≤ 4611686018427387903) (hid : mayT id = true) :
  Calls Tryz.prog 51 #[cv, ci] w fun e w' => e = .returned (.bool (holdE v id)) ∧ Below w.heap.size w w' := by
 obtain ⟨A, ca, A', ca', B, cb, B', cb', rfl, rfl, lens, a7, a6, b7, b6, v1, v2, hb0⟩ := two_vars hS hv hi
 obtain ⟨w2, hw2⟩ : ∃ W, W = ((w.alloc (.cells #[.int .i64 v.kind, .int .i64 v.num, .string v.text, .slice A v.items.length ca, .slice A' v.names.length ca'] 25)).alloc (.cells #[.int .i64 id.kind, .int .i64 id.num, .string id.text, .slice B id.items.length cb, .slice B' id.names.length cb'] 25)) := ⟨_, rfl⟩
 rw [← hw2] at v1 v2 hb0
 have HC := Lib.hid (rcheck_any S v _ w2 dv v1.s v1.v)
 obtain ⟨r, hr⟩ : ∃ r, r = holdE v id := ⟨_, rfl⟩
 have HR := Lib.hid hr
 rw [← hr]
 have HB0 := Lib.hid hb0
 have H1 := Lib.hid v1
 have H2 := Lib.hid v2
 have HDI := Lib.hid hid
 have y0 := v1.x.c0
 have y1 := v1.x.c1
 have y2 := v1.x.c2
 have y3 := v1.x.c3
 have y4 := v1.x.c4
 clear hr hb0 v1 v2 hid dv a7 a6 b7 b6 hv hi hS lens
 by_cases hk : v.kind = 7
 case neg =>
  have HE : Hid (r = false) := Lib.hid (by rw [HR.out]; unfold holdE; rw [decide_eq_false hk]; rfl)
  have d1 : (v.kind == 7) = false := beq_false_of_ne hk
  have d2 : (v.kind != 7) = true := by simp [hk]
  clear hk
  go_enter Tryz.func51, Tryz.ntmps51
  go_wp2_with fail
  rw [← hw2]
  go_ret
  exact ⟨by rw [HE.out]; rfl, HB0.out⟩
 have HKK := Lib.hid hk
 obtain ⟨kk, hkk⟩ : ∃ k, k = v.kind := ⟨_, rfl⟩
 have d1 : (kk == 7) = true := by rw [hkk]; exact beq_iff_eq.2 hk
 have d2 : (kk != 7) = false := by simp [hkk, hk]
 rw [← hkk] at y0 hw2 HC ⊢
 have HKE := Lib.hid hkk
 clear hk hkk
 go_enter Tryz.func51, Tryz.ntmps51
 go_wp2_with fail
 rw [← hw2]
 clear hw2
 refine HC.out.mono ?_
 rintro e w3 ⟨rfl, hb⟩
 have HB3 := Lib.hid (HB0.out.trans (hb.mono HB0.out.size))
 have h1 := H1.out.call hb
 have h2 := H2.out.call hb
 clear hb HC y0 y1 y2 y3 y4
 obtain ⟨x, hx⟩ : ∃ x, x = checkT v := ⟨_, rfl⟩
 have HX := Lib.hid hx
 rw [← hx]
 clear hx
 by_cases hx0 : x = 0
 case neg =>
  have HE : Hid (r = false) := Lib.hid (by rw [HR.out]; unfold holdE; rw [← HX.out, decide_eq_false hx0, Bool.and_false]; rfl)
  have e1 : (x == 0) = false := beq_false_of_ne hx0
  have e2 : (x != 0) = true := by simp [hx0]
  clear h1 h2
  go_wp2_with fail
  go_ret
  exact ⟨by rw [HE.out]; rfl, HB3.out⟩
 subst hx0
 have hmay := check_may HX.out.symm
 have y0 := h1.x.c0
 have y1 := h1.x.c1
 have y2 := h1.x.c2
 have y3 := h1.x.c3
 have y4 := h1.x.c4
 obtain ⟨w4, hw4⟩ : ∃ W, W = w3.alloc (.cells #[.string idN] 9) := ⟨_, rfl⟩
 have hb4 : Below w3.heap.size w3 w4 := by rw [hw4]; exact below_box _
 have hk4 : w4.heap[w3.heap.size]? = some (.cells #[.string idN] 9 (0, 0)) := by rw [hw4]; exact heap_alloc_new _ _
 have hz4 : w4.heap.size = w3.heap.size + 1 := by rw [hw4]; simp
 have HB4 := Lib.hid (HB3.out.trans (hb4.mono HB3.out.size))
 have h14 := h1.call hb4
 have h24 := h2.call hb4
 have hst : StrsAt w4 (fun b => S b ∨ b = w3.heap.size) (some ⟨w3.heap.size, 0, none⟩) [idN] := fun _ => ⟨_, 0, rfl, .inr rfl, fun i hi => by
  obtain rfl : i = 0 := by simpa using hi
  exact ⟨Go.Joins.cell_of_block hk4 0, show idN.size ≤ 140737488351232 by decide⟩⟩
 have HG := Lib.hid (rget_any (fun b => S b ∨ b = w3.heap.size) v _ (some ⟨w3.heap.size, 0, none⟩) 1 [idN] w4 (fun b hb => by
  rcases hb with hb | rfl
  ·exact h14.s b hb
  ·omega) (h14.v.imp fun b hb => .inl hb) hmay hst (by simp))
 have H24 := Lib.hid h24
 have HZ4 := Lib.hid hz4
 rw [← HKE.out] at HG y0
 clear hb4 hk4 hst h14 h24 h1 h2 hz4 hmay
 go_wp2_with fail
 rw [show (⟨#[95, 105, 100]⟩ : ByteArray) = idN from rfl, ← hw4]
 refine HG.out.mono ?_
 rintro e w5 ⟨u, rfl, hu, hb⟩
 clear hw4 y0 y1 y2 y3 y4 HG
 have HB5 := Lib.hid (HB4.out.trans (hb.mono HB4.out.size))
 have H25 := Lib.hid (H24.out.call hb)
 obtain ⟨UA, uc, UA', uc', rfl, -⟩ := hu.shape
 obtain ⟨hok, hgot⟩ := got_item v
 have HU := Lib.hid hu
 have HZ5 : Hid (w3.heap.size < w5.heap.size) := Lib.hid (by have := hb.size; have := HZ4.out; omega)
 cases hit : itemT v idN with
 | none =>
  have HE : Hid (r = false) := Lib.hid (by rw [HR.out]; unfold holdE; rw [hit, Bool.and_false])
  rw [hok, hit]
  have HB6 := Lib.hid (fun o => HB5.out.alloc HB5.out.size o)
  clear hu hb hok hgot hit
  go_wp2_with fail
  go_ret
  exact ⟨by rw [HE.out]; rfl, HB6.out _⟩
 | some y =>
  rw [hok, hit]
  rw [hgot y hit] at HU ⊢
  have hmy : mayT y = true := by
   unfold itemT at hit
   split at hit
   ·cases hit
   ·obtain ⟨hj, rfl⟩ := List.getElem?_eq_some_iff.1 hit
    exact may_item (check_may HX.out.symm) hj
  have HE : Hid (r = true ↔ y = id) := Lib.hid (by
   rw [HR.out, ← cmpT_zero y id hmy HDI.out]; unfold holdE
   rw [hit, ← HX.out, decide_eq_true HKK.out, decide_eq_true rfl]
   show decide (cmpT y id = 0) = true ↔ _
   exact decide_eq_true_iff)
  clear hu hb hok hgot hit hmy
  obtain ⟨w6, hw6⟩ : ∃ W, W = w5.alloc (.cells #[.int .i64 y.kind, .int .i64 y.num, .string y.text, .slice UA y.items.length uc, .slice UA' y.names.length uc'] 25) := ⟨_, rfl⟩
  have hb6 : Below w5.heap.size w5 w6 := by rw [hw6]; exact below_box _
  have HB6 := Lib.hid (HB5.out.trans (hb6.mono HB5.out.size))
  have h26 := H25.out.call hb6
  have hu6 : LV w6 (fun b => S b ∨ b = w3.heap.size) y (.agg #[.int .i64 y.kind, .int .i64 y.num, .string y.text, .slice UA y.items.length uc, .slice UA' y.names.length uc']) := HU.out.keep fun b hb => hb6.block b (by
   rcases hb with hb | rfl
   ·exact H25.out.s b hb
   ·exact HZ5.out)
  have HSM := Lib.hid (rsame_any (fun b => S b ∨ b = w3.heap.size) (depthT y) y id _ _ w6 (Nat.le_refl _) (fun b hb => by
   rcases hb with hb | rfl
   ·exact h26.s b hb
   ·exact Nat.lt_of_lt_of_le HZ5.out hb6.size) hu6 (h26.v.imp fun b hb => .inl hb))
  have y0 := h26.x.c0
  have y1 := h26.x.c1
  have y2 := h26.x.c2
  have y3 := h26.x.c3
  have y4 := h26.x.c4
  rw [hw6] at y0 y1 y2 y3 y4
  clear hb6 h26 hu6
  go_wp2_with fail
  rw [← hw6]
  refine HSM.out.mono ?_
  rintro e w7 ⟨⟨q, rfl, hq⟩, hb⟩
  have HB7 := Lib.hid (HB6.out.trans (hb.mono HB6.out.size))
  have HQ : Hid (r = q) := Lib.hid (by
   rw [Bool.eq_iff_iff, HE.out, hq])
  clear hb hq y0 y1 y2 y3 y4 hw6 HSM
  go_wp2_with fail
  go_ret
  exact ⟨by rw [HQ.out]; rfl, HB7.out⟩
end Go.Proofs.YtpcdngpppjdgcaaGreat
