/- Whether two lists of changes are the same, by the document. -/
import Derived.Test.YtnamdlljdgllmaaGreatKDlT
import Derived.Test.YtnamdlljdgllmaaGreatKValO
import Derived.Test.YtnamdlljdgllmaaGreatKRefM
import Derived.Test.YtnamdlljdgllmaaGreatKValM
import Derived.Test.YtnamdlljdgllmaaGreatKCodV
import Derived.Test.YtnamdlljdgllmaaGreatKTrA
import Derived.Test.YtnamdlljdgllmaaGreatKDlA
import Derived.Test.YtnamdlljdgllmaaGreatKRefA
import Derived.Deep.Slices
import Derived.SizedLaws
import Derived.ProofKit
import Derived.OpenShut
import Derived.ChangeOld
namespace Go.Proofs.YtnamdlljdgllmaaGreat
set_option linter.unusedVariables false
set_option linter.unusedSimpArgs false
open Go.RowKit
set_option maxRecDepth 100000
set_option maxHeartbeats 16000000 in
theorem r6same_any (S : Nat → Prop) (A : Option Addr) (c : Nat) (xs : List DelT) (B : Option Addr) (d : Nat) (ys : List DelT) (w : World) (hS : ∀ b, S b → b < w.heap.size) (ha : DelsL w S A xs) (hb : DelsL w S B ys) (hla : xs.length ≤ 140737488351232) (hlb : ys.length ≤ 140737488351232) :
    Calls Tryz.prog 18 #[.slice A xs.length c, .slice B ys.length d] w fun e w' => (∃ r : Bool, e = .returned (.bool r) ∧ (r = true ↔ xs = ys)) ∧ Below w.heap.size w w' := by
  have HS := Lib.hid hS
  have HA := Lib.hid ha
  have HBB := Lib.hid hb
  clear hS ha hb
  by_cases hl : xs.length = ys.length
  · have HL := Lib.hid hl
    obtain ⟨m, hm⟩ : ∃ m, m = xs.length := ⟨_, rfl⟩
    have HMA := Lib.hid hm
    have HMB : Hid (m = ys.length) := Lib.hid (by omega)
    rw [← hl, ← hm]
    have hm9 : m ≤ 140737488351232 := by omega
    have d0 : ((m : Int) != (m : Int)) = false := by simp
    clear hl hm hla hlb
    go_enter Tryz.func18, Tryz.ntmps18
    go_wp2_with fail
    clear d0
    go_loopw [5] (fun i wr => ∃ j : Nat, i = .int .i64 j ∧ j ≤ m ∧ Hid (∀ k (h : k < xs.length) (h' : k < ys.length), k < j → xs[k] = ys[k]) ∧ Hid (Below w.heap.size w wr)) (fun i _ => m - (intOf i).toNat)
    case atStart => exact ⟨0, rfl, Nat.zero_le _, Lib.hid (fun k _ _ h => absurd h (Nat.not_lt_zero _)), Lib.hid (Below.refl _ _)⟩
    case round =>
      obtain ⟨j, rfl, hj, HE, HB⟩ := hrel
      by_cases hlt : j < m
      · have hla : j < xs.length := by have := HMA.out; omega
        have hlb : j < ys.length := by have := HMB.out; omega
        have d1 : decide ((j : Int) < (m : Int)) = true := decide_eq_true (by omega)
        obtain ⟨p, o, PA, pc, VA, vc, VA', vc', rfl, hp, hx, x0, x1, x2, x3, x4, x5, x6, x7⟩ := (HA.out.below HS.out HB.out).cells j hla
        obtain ⟨p', o', PB, pd, VB, vd, VB', vd', rfl, hp', hy, g0, g1, g2, g3, g4, g5, g6, g7⟩ := (HBB.out.below HS.out HB.out).cells j hlb
        have hp2 : p < wr.heap.size := Nat.lt_of_lt_of_le (HS.out p hp) HB.out.size
        have hp2' : p' < wr.heap.size := Nat.lt_of_lt_of_le (HS.out p' hp') HB.out.size
        have hS2 : ∀ b, S b → b < wr.drew.heap.size := fun b hb => Nat.lt_of_lt_of_le (HS.out b hb) HB.out.size
        obtain ⟨hvx, hpx, hlx⟩ : LV wr.drew S xs[j].val (.agg #[.int .i64 xs[j].val.kind, .int .i64 xs[j].val.num, .string xs[j].val.text, .slice VA xs[j].val.items.length vc, .slice VA' xs[j].val.names.length vc']) ∧ StrsAt wr.drew S PA xs[j].path ∧ xs[j].path.length ≤ 8796093021952 := by
          obtain ⟨P1, p1, V1, v1, V1', v1', e, q0, q1, -, -, -, -, q4⟩ := hx
          simp only [Array.mk.injEq, List.cons.injEq, Value.slice.injEq, and_true, true_and] at e
          obtain ⟨⟨rfl, rfl⟩, ⟨rfl, rfl⟩, rfl, rfl⟩ := e
          exact ⟨q0.drew, q1, q4⟩
        obtain ⟨hvy, hpy, hly⟩ : LV wr.drew S ys[j].val (.agg #[.int .i64 ys[j].val.kind, .int .i64 ys[j].val.num, .string ys[j].val.text, .slice VB ys[j].val.items.length vd, .slice VB' ys[j].val.names.length vd']) ∧ StrsAt wr.drew S PB ys[j].path ∧ ys[j].path.length ≤ 8796093021952 := by
          obtain ⟨P1, p1, V1, v1, V1', v1', e, q0, q1, -, -, -, -, q4⟩ := hy
          simp only [Array.mk.injEq, List.cons.injEq, Value.slice.injEq, and_true, true_and] at e
          obtain ⟨⟨rfl, rfl⟩, ⟨rfl, rfl⟩, rfl, rfl⟩ := e
          exact ⟨q0.drew, q1, q4⟩
        have HPS := Lib.hid (rpsame_any PA PB pc pd xs[j].path ys[j].path wr.drew S S hpx hpy hS2 hS2 (by omega) (by omega))
        have HVS : Hid (∀ W, Below wr.drew.heap.size wr.drew W → Calls Tryz.prog 24 #[.agg #[.int .i64 xs[j].val.kind, .int .i64 xs[j].val.num, .string xs[j].val.text, .slice VA xs[j].val.items.length vc, .slice VA' xs[j].val.names.length vc'], .agg #[.int .i64 ys[j].val.kind, .int .i64 ys[j].val.num, .string ys[j].val.text, .slice VB ys[j].val.items.length vd, .slice VB' ys[j].val.names.length vd']] W fun e w' => (∃ r : Bool, e = .returned (.bool r) ∧ (r = true ↔ xs[j].val = ys[j].val)) ∧ Below W.heap.size W w') := Lib.hid fun W hW => rsame_any S (depthT xs[j].val) xs[j].val ys[j].val _ _ W (Nat.le_refl _) (fun b hb => Nat.lt_of_lt_of_le (hS2 b hb) hW.size) (hvx.keep fun b hb => hW.block b (hS2 b hb)) (hvy.keep fun b hb => hW.block b (hS2 b hb))
        clear hx hy hp hp' hS2 hvx hpx hlx hvy hpy hly
        by_cases hall : xs[j].kind = ys[j].kind ∧ xs[j].num = ys[j].num
        · have e0 : (xs[j].kind != ys[j].kind) = false := by rw [hall.1]; simp
          have e7 : (xs[j].num != ys[j].num) = false := by rw [hall.2]; simp
          have HALL := Lib.hid hall
          clear hall
          go_wp2_with fail
          refine wp_region_mix [0, 1, 2, 3, 4, 5, 6, 7, 8, 9, 10, 11, 12, 13, 14, 15, 16, 17, 18, 19, 20, 21, 22, 23, 24, 25, 26, 27, 28, 29, 30, 31, 32, 33, 34, 35, 36, 37, 38, 39, 40, 41, 42, 43, 44, 45, 46, 47, 48, 49, 50, 51] (by kernel_rfl) (by kernel_rfl) (fun _ d _ _ _ h => by cases d <;> exact h) ?_
          simp only [atNats, List.filterMap_cons, List.filterMap_nil, List.getElem?_toArray, List.getElem?_cons_succ, List.getElem?_cons_zero]
          have q0 := cell_later (B := wr.heap.size) (w := wr.drew) x0 hp2
          have q1 := cell_later (B := wr.heap.size) (w := wr.drew) x1 hp2
          have q2 := cell_later (B := wr.heap.size) (w := wr.drew) x2 hp2
          have q3 := cell_later (B := wr.heap.size) (w := wr.drew) x3 hp2
          have q4 := cell_later (B := wr.heap.size) (w := wr.drew) x4 hp2
          have q5 := cell_later (B := wr.heap.size) (w := wr.drew) x5 hp2
          have q6 := cell_later (B := wr.heap.size) (w := wr.drew) x6 hp2
          have q7 := cell_later (B := wr.heap.size) (w := wr.drew) x7 hp2
          have z0 := cell_later (B := wr.heap.size) (w := wr.drew) g0 hp2'
          have z1 := cell_later (B := wr.heap.size) (w := wr.drew) g1 hp2'
          have z2 := cell_later (B := wr.heap.size) (w := wr.drew) g2 hp2'
          have z3 := cell_later (B := wr.heap.size) (w := wr.drew) g3 hp2'
          have z4 := cell_later (B := wr.heap.size) (w := wr.drew) g4 hp2'
          have z5 := cell_later (B := wr.heap.size) (w := wr.drew) g5 hp2'
          have z6 := cell_later (B := wr.heap.size) (w := wr.drew) g6 hp2'
          have z7 := cell_later (B := wr.heap.size) (w := wr.drew) g7 hp2'
          first | refine mix_pure ?_ | refine mix_pureB ?_
          simp only [List.takeWhile, List.dropWhile, isPure, Nat.reduceBNe]
          repeat (go_big_quiet_step (fail))
          refine wpQuiet_nil ?_
          clear q0 q1 q2 q3 q4 q5 q6 q7 z0 z1 z2 z3 z4 z5 z6 z7
          first | refine mix_call rfl (fun K hK => ?_) | refine mix_callB rfl (fun K hK => ?_)
          go_simp
          refine (HPS.out).mono ?_
          rintro e w8 ⟨rfl, hb⟩
          refine hK _ _ hb ?_
          clear hK K
          try simp only [Act.put]
          have HVS8 := Lib.hid (HVS.out w8 hb)
          have HB8 : Hid (Below w.heap.size w w8) := Lib.hid (HB.out.trans ((show Below wr.heap.size wr w8 from (Below.refl _ _).drew.trans hb).mono HB.out.size))
          have hs8 : wr.heap.size ≤ w8.heap.size := hb.size
          have t2 := (World.cell?_of_block (a := ⟨p, o + j * 8 + 2, none⟩) (hb.block p hp2)).trans x2
          have t3 := (World.cell?_of_block (a := ⟨p, o + j * 8 + 3, none⟩) (hb.block p hp2)).trans x3
          have t4 := (World.cell?_of_block (a := ⟨p, o + j * 8 + 4, none⟩) (hb.block p hp2)).trans x4
          have t5 := (World.cell?_of_block (a := ⟨p, o + j * 8 + 5, none⟩) (hb.block p hp2)).trans x5
          have t6 := (World.cell?_of_block (a := ⟨p, o + j * 8 + 6, none⟩) (hb.block p hp2)).trans x6
          have s2 := (World.cell?_of_block (a := ⟨p', o' + j * 8 + 2, none⟩) (hb.block p' hp2')).trans g2
          have s3 := (World.cell?_of_block (a := ⟨p', o' + j * 8 + 3, none⟩) (hb.block p' hp2')).trans g3
          have s4 := (World.cell?_of_block (a := ⟨p', o' + j * 8 + 4, none⟩) (hb.block p' hp2')).trans g4
          have s5 := (World.cell?_of_block (a := ⟨p', o' + j * 8 + 5, none⟩) (hb.block p' hp2')).trans g5
          have s6 := (World.cell?_of_block (a := ⟨p', o' + j * 8 + 6, none⟩) (hb.block p' hp2')).trans g6
          have hp3 : p < w8.heap.size := by omega
          have hp3' : p' < w8.heap.size := by omega
          clear hb HPS HVS x0 x1 x2 x3 x4 x5 x6 x7 g0 g1 g2 g3 g4 g5 g6 g7 hp2 hp2' e0 e7
          by_cases hpp : xs[j].path = ys[j].path
          · have HPP := Lib.hid hpp
            rw [decide_eq_true hpp]
            clear hpp
            have q2 := cell_later (B := w8.heap.size) (w := w8) t2 hp3
            have z2 := cell_later (B := w8.heap.size) (w := w8) s2 hp3'
            have q3 := cell_later (B := w8.heap.size) (w := w8) t3 hp3
            have z3 := cell_later (B := w8.heap.size) (w := w8) s3 hp3'
            have q4 := cell_later (B := w8.heap.size) (w := w8) t4 hp3
            have z4 := cell_later (B := w8.heap.size) (w := w8) s4 hp3'
            have q5 := cell_later (B := w8.heap.size) (w := w8) t5 hp3
            have z5 := cell_later (B := w8.heap.size) (w := w8) s5 hp3'
            have q6 := cell_later (B := w8.heap.size) (w := w8) t6 hp3
            have z6 := cell_later (B := w8.heap.size) (w := w8) s6 hp3'
            first | refine mix_pure ?_ | refine mix_pureB ?_
            simp only [List.takeWhile, List.dropWhile, isPure, Nat.reduceBNe]
            repeat (go_big_quiet_step (fail))
            refine wpQuiet_nil ?_
            clear q2 q3 q4 q5 q6 z2 z3 z4 z5 z6
            first | refine mix_call rfl (fun K hK => ?_) | refine mix_callB rfl (fun K hK => ?_)
            go_simp
            refine (HVS8.out).mono ?_
            rintro e w9 ⟨⟨r, rfl, hr⟩, hb⟩
            refine hK _ _ hb ?_
            clear hK K
            try simp only [Act.put]
            have HB9 : Hid (Below w.heap.size w w9) := Lib.hid (HB8.out.trans (hb.mono HB8.out.size))
            have HRR := Lib.hid hr
            clear hb HVS8 hr t2 t3 t4 t5 t6 s2 s3 s4 s5 s6 hp3 hp3' hs8
            first | refine mix_pure ?_ | refine mix_pureB ?_
            simp only [List.takeWhile, List.dropWhile, isPure, Nat.reduceBNe]
            repeat (go_big_quiet_step (fail))
            refine wpQuiet_nil ?_
            unfold wpMix
            cases r
            · have HF : Hid ((false = true) ↔ xs = ys) := Lib.hid ⟨fun h => (by cases h), fun h => by
                have h1 := HRR.out.2 (by subst h; rfl)
                cases h1⟩
              go_wp2_with fail
              go_ret
              exact ⟨⟨_, rfl, HF.out⟩, HB9.out⟩
            · have HEQ : Hid (xs[j] = ys[j]) := Lib.hid (DelT.same HALL.out.1 HALL.out.2 HPP.out (HRR.out.1 rfl))
              go_wp2_with fail
              go_roundw
              case rel => exact ⟨j + 1, by go_num, by omega, Lib.hid (fun k h h' hkj => by
                by_cases e : k = j
                · subst e; exact HEQ.out
                · exact HE.out k h h' (by omega)), HB9⟩
              case measure => simp [intOf]; omega
          · have HF : Hid ((false = true) ↔ xs = ys) := Lib.hid ⟨fun h => (by cases h), fun h => absurd (by subst h; rfl) hpp⟩
            rw [decide_eq_false hpp]
            clear hpp
            first | refine mix_pure ?_ | refine mix_pureB ?_
            simp only [List.takeWhile, List.dropWhile, isPure, Nat.reduceBNe]
            repeat (go_big_quiet_step (fail))
            refine wpQuiet_nil ?_
            first | refine mix_call rfl (fun K hK => ?_) | refine mix_callB rfl (fun K hK => ?_)
            go_simp
            refine hK _ _ (Below.refl _ _) ?_
            clear hK K
            try simp only [Act.put]
            first | refine mix_pure ?_ | refine mix_pureB ?_
            simp only [List.takeWhile, List.dropWhile, isPure, Nat.reduceBNe]
            repeat (go_big_quiet_step (fail))
            refine wpQuiet_nil ?_
            unfold wpMix
            go_wp2_with fail
            go_ret
            exact ⟨⟨_, rfl, HF.out⟩, HB8.out⟩
        · have HF : Hid ((false = true) ↔ xs = ys) := Lib.hid ⟨fun h => (by cases h), fun h => absurd (by subst h; exact ⟨rfl, rfl⟩) hall⟩
          have HB8 : Hid (Below w.heap.size w wr.drew) := Lib.hid HB.out.drew
          have hcut : (xs[j].kind ≠ ys[j].kind) ∨ (xs[j].kind = ys[j].kind ∧ xs[j].num ≠ ys[j].num) := by
            by_cases h1 : xs[j].kind = ys[j].kind
            · exact .inr ⟨h1, fun h2 => hall ⟨h1, h2⟩⟩
            · exact .inl h1
          clear hall HPS HVS
          rcases hcut with h1 | ⟨h1, h2⟩
          · have e0 : (xs[j].kind != ys[j].kind) = true := bne_iff_ne.2 h1
            clear h1
            go_wp2_with fail
            refine wp_region_mix [0, 1, 2, 3, 4, 5, 6, 7, 8, 9, 10, 11, 12, 13, 14, 15, 16, 17, 18, 19, 20, 21, 22, 23, 24, 25, 26, 27, 28, 29, 30, 31, 32, 33, 34, 35, 36, 37, 38, 39, 40, 41, 42, 43, 44, 45, 46, 47, 48, 49, 50, 51] (by kernel_rfl) (by kernel_rfl) (fun _ d _ _ _ h => by cases d <;> exact h) ?_
            simp only [atNats, List.filterMap_cons, List.filterMap_nil, List.getElem?_toArray, List.getElem?_cons_succ, List.getElem?_cons_zero]
            have q0 := cell_later (B := wr.heap.size) (w := wr.drew) x0 hp2
            have q1 := cell_later (B := wr.heap.size) (w := wr.drew) x1 hp2
            have q2 := cell_later (B := wr.heap.size) (w := wr.drew) x2 hp2
            have q3 := cell_later (B := wr.heap.size) (w := wr.drew) x3 hp2
            have q4 := cell_later (B := wr.heap.size) (w := wr.drew) x4 hp2
            have q5 := cell_later (B := wr.heap.size) (w := wr.drew) x5 hp2
            have q6 := cell_later (B := wr.heap.size) (w := wr.drew) x6 hp2
            have q7 := cell_later (B := wr.heap.size) (w := wr.drew) x7 hp2
            have z0 := cell_later (B := wr.heap.size) (w := wr.drew) g0 hp2'
            have z1 := cell_later (B := wr.heap.size) (w := wr.drew) g1 hp2'
            have z2 := cell_later (B := wr.heap.size) (w := wr.drew) g2 hp2'
            have z3 := cell_later (B := wr.heap.size) (w := wr.drew) g3 hp2'
            have z4 := cell_later (B := wr.heap.size) (w := wr.drew) g4 hp2'
            have z5 := cell_later (B := wr.heap.size) (w := wr.drew) g5 hp2'
            have z6 := cell_later (B := wr.heap.size) (w := wr.drew) g6 hp2'
            have z7 := cell_later (B := wr.heap.size) (w := wr.drew) g7 hp2'
            first | refine mix_pure ?_ | refine mix_pureB ?_
            simp only [List.takeWhile, List.dropWhile, isPure, Nat.reduceBNe]
            repeat (go_big_quiet_step (fail))
            refine wpQuiet_nil ?_
            first | refine mix_call rfl (fun K hK => ?_) | refine mix_callB rfl (fun K hK => ?_)
            go_simp
            refine hK _ _ (Below.refl _ _) ?_
            clear hK K
            try simp only [Act.put]
            first | refine mix_pure ?_ | refine mix_pureB ?_
            simp only [List.takeWhile, List.dropWhile, isPure, Nat.reduceBNe]
            repeat (go_big_quiet_step (fail))
            refine wpQuiet_nil ?_
            first | refine mix_call rfl (fun K hK => ?_) | refine mix_callB rfl (fun K hK => ?_)
            go_simp
            refine hK _ _ (Below.refl _ _) ?_
            clear hK K
            try simp only [Act.put]
            first | refine mix_pure ?_ | refine mix_pureB ?_
            simp only [List.takeWhile, List.dropWhile, isPure, Nat.reduceBNe]
            repeat (go_big_quiet_step (fail))
            refine wpQuiet_nil ?_
            unfold wpMix
            clear q0 q1 q2 q3 q4 q5 q6 q7 z0 z1 z2 z3 z4 z5 z6 z7
            go_wp2_with fail
            go_ret
            exact ⟨⟨_, rfl, HF.out⟩, HB8.out⟩
          · have e0 : (xs[j].kind != ys[j].kind) = false := by rw [h1]; simp
            have e7 : (xs[j].num != ys[j].num) = true := bne_iff_ne.2 h2
            clear h1 h2
            go_wp2_with fail
            refine wp_region_mix [0, 1, 2, 3, 4, 5, 6, 7, 8, 9, 10, 11, 12, 13, 14, 15, 16, 17, 18, 19, 20, 21, 22, 23, 24, 25, 26, 27, 28, 29, 30, 31, 32, 33, 34, 35, 36, 37, 38, 39, 40, 41, 42, 43, 44, 45, 46, 47, 48, 49, 50, 51] (by kernel_rfl) (by kernel_rfl) (fun _ d _ _ _ h => by cases d <;> exact h) ?_
            simp only [atNats, List.filterMap_cons, List.filterMap_nil, List.getElem?_toArray, List.getElem?_cons_succ, List.getElem?_cons_zero]
            have q0 := cell_later (B := wr.heap.size) (w := wr.drew) x0 hp2
            have q1 := cell_later (B := wr.heap.size) (w := wr.drew) x1 hp2
            have q2 := cell_later (B := wr.heap.size) (w := wr.drew) x2 hp2
            have q3 := cell_later (B := wr.heap.size) (w := wr.drew) x3 hp2
            have q4 := cell_later (B := wr.heap.size) (w := wr.drew) x4 hp2
            have q5 := cell_later (B := wr.heap.size) (w := wr.drew) x5 hp2
            have q6 := cell_later (B := wr.heap.size) (w := wr.drew) x6 hp2
            have q7 := cell_later (B := wr.heap.size) (w := wr.drew) x7 hp2
            have z0 := cell_later (B := wr.heap.size) (w := wr.drew) g0 hp2'
            have z1 := cell_later (B := wr.heap.size) (w := wr.drew) g1 hp2'
            have z2 := cell_later (B := wr.heap.size) (w := wr.drew) g2 hp2'
            have z3 := cell_later (B := wr.heap.size) (w := wr.drew) g3 hp2'
            have z4 := cell_later (B := wr.heap.size) (w := wr.drew) g4 hp2'
            have z5 := cell_later (B := wr.heap.size) (w := wr.drew) g5 hp2'
            have z6 := cell_later (B := wr.heap.size) (w := wr.drew) g6 hp2'
            have z7 := cell_later (B := wr.heap.size) (w := wr.drew) g7 hp2'
            first | refine mix_pure ?_ | refine mix_pureB ?_
            simp only [List.takeWhile, List.dropWhile, isPure, Nat.reduceBNe]
            repeat (go_big_quiet_step (fail))
            refine wpQuiet_nil ?_
            first | refine mix_call rfl (fun K hK => ?_) | refine mix_callB rfl (fun K hK => ?_)
            go_simp
            refine hK _ _ (Below.refl _ _) ?_
            clear hK K
            try simp only [Act.put]
            first | refine mix_pure ?_ | refine mix_pureB ?_
            simp only [List.takeWhile, List.dropWhile, isPure, Nat.reduceBNe]
            repeat (go_big_quiet_step (fail))
            refine wpQuiet_nil ?_
            first | refine mix_call rfl (fun K hK => ?_) | refine mix_callB rfl (fun K hK => ?_)
            go_simp
            refine hK _ _ (Below.refl _ _) ?_
            clear hK K
            try simp only [Act.put]
            first | refine mix_pure ?_ | refine mix_pureB ?_
            simp only [List.takeWhile, List.dropWhile, isPure, Nat.reduceBNe]
            repeat (go_big_quiet_step (fail))
            refine wpQuiet_nil ?_
            unfold wpMix
            clear q0 q1 q2 q3 q4 q5 q6 q7 z0 z1 z2 z3 z4 z5 z6 z7
            go_wp2_with fail
            go_ret
            exact ⟨⟨_, rfl, HF.out⟩, HB8.out⟩
      · have HF : Hid ((true = true) ↔ xs = ys) := Lib.hid ⟨fun _ => List.ext_getElem HL.out (fun k h h' => HE.out k h h' (by have := HMA.out; omega)), fun _ => rfl⟩
        have d1 : decide ((j : Int) < (m : Int)) = false := decide_eq_false (by omega)
        go_wp2_with fail
        go_ret
        exact ⟨.inr ⟨rfl, by have h := HF.out; simpa using h⟩, HB.out⟩
  · have d1 : ((xs.length : Int) != (ys.length : Int)) = true := bne_iff_ne.2 (by omega)
    have HN : Hid (xs ≠ ys) := Lib.hid fun e => hl (by rw [e])
    clear hl
    go_enter Tryz.func18, Tryz.ntmps18
    go_wp2_with fail
    go_ret
    exact ⟨⟨false, rfl, by have := HN.out; simpa using this⟩, Below.refl _ _⟩
end Go.Proofs.YtnamdlljdgllmaaGreat

/- Bytes that came in. -/
namespace Go.Proofs.YtnamdlljdgllmaaGreat.OpenB
set_option linter.unusedVariables false
set_option linter.unusedSimpArgs false
open Go.ChangeShapes Go.WideShapes Go.ChangeAt Go.RowKit Go.Joins Go.Deep
set_option linter.unusedVariables false
section
variable {H : Type} {enc : TypeId × Value → H} {W : World} {sp : Nat → Bool}
theorem add_at (b off i : Nat) : ((⟨b, off, none⟩ : Addr).add i) = ⟨b, off + i, none⟩ := by
  unfold Addr.add
  split
  · next h => simp [h]
  · rfl

theorem open_bytes {fuel : Nat} {A : Option Addr} {len cap : Nat} {x : DataW H × List MemPlace} (h : DataW.trod enc Tryz.prog W 0 sp true fuel 46 [.slice A len cap] = some x) :
    (∃ l : List UInt8, len = l.length ∧ Rd W W.heap.size (.slice A l.length cap) l) ∧ (len = 0 ∨ ∃ es rs, x.1 = .slice es rs ∧ es.length = len) := by
  rcases open_ints Tryz.underlying46 Tryz.underlying5 (by kernel_rfl) h with ⟨hcs, _⟩ | ⟨a, len', cap', zs, hcs, _, hl, hm, hz, hxx, hcell, hwf⟩
  · simp only [List.cons.injEq, Value.slice.injEq, and_true] at hcs
    obtain ⟨rfl, rfl, rfl⟩ := hcs
    exact ⟨⟨[], rfl, none, 0, rfl, by simp, ⟨by decide, fun _ => rfl⟩, fun h => absurd h (by simp)⟩, .inl rfl⟩
  · simp only [List.cons.injEq, Value.slice.injEq, and_true] at hcs
    obtain ⟨rfl, rfl, rfl⟩ := hcs
    have hzl : len ≤ zs.length := by rw [hz]; split <;> omega
    have hlen : len = ((zs.take len).map fun z => UInt8.ofNat z.toNat).length := by simp; omega
    refine ⟨⟨(zs.take len).map fun z => UInt8.ofNat z.toNat, hlen, some a, cap, rfl, by rw [← hlen]; exact hl, ⟨by unfold maxLen at hm; omega, fun h => by cases h⟩, fun hp => ?_⟩, .inr ⟨_, _, by rw [hxx], by simp [lits]; omega⟩⟩
    rw [← hlen] at hp
    obtain ⟨b, off, spot⟩ := a
    have h0 := hcell 0 (by omega)
    obtain rfl : spot = none := by simpa [Addr.add] using World.cell?_spot h0
    refine ⟨b, off, rfl, ?_, fun i hi => ?_⟩
    · rw [add_at] at h0; exact World.block_lt_of_cell? W _ h0
    · rw [← hlen] at hi
      have hi2 : i < zs.length := by omega
      have h1 := hcell i hi2
      rw [add_at] at h1
      rw [h1]
      have hb := bounds_u8 (hwf zs[i] (List.getElem_mem hi2))
      have e : zs.getD i 0 = zs[i] := by simp [List.getD, List.getElem?_eq_getElem hi2]
      rw [e]
      simp only [List.getElem_map, List.getElem_take]
      rw [ofNat_toNat _ (by omega)]
      congr 2
      omega
end
end Go.Proofs.YtnamdlljdgllmaaGreat.OpenB
