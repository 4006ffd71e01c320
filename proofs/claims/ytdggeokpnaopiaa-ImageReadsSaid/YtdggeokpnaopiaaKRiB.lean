/- The document's own images: the top, what is known. -/
import Derived.Test.YtdggeokpnaopiaaKRiA
import Derived.Test.YtdggeokpnaopiaaKReg
namespace Go.Proofs.Ytdggeokpnaopiaa
set_option linter.unusedVariables false
set_option linter.unusedSimpArgs false
open Go.RowKit
set_option maxRecDepth 100000
structure RefI.Fine (r : RefI) : Prop where
  k0 : 0 ≤ r.keep
  k1 : r.keep ≤ 64
  b0 : 0 ≤ r.base
  b1 : r.base ≤ 2199023255552
  n : r.l.length ≤ 1000000
def RefI.known (r : RefI) (i : Int) : Bool := decide (r.base < i) && decide (i ≤ r.top) && decide (r.top - r.keep < i)
theorem RIAt.c2 {w : World} {S : Nat → Prop} {B x : Nat} {r : RefI} (h : RIAt w S B x r) : ∃ A c, w.cell? ⟨x, 2, none⟩ = some (.slice A r.l.length c) := by
  obtain ⟨A, c, xs, h1, -⟩ := h
  exact ⟨A, c, Go.Joins.cell_of_block h1 2⟩
section
variable {w : World} {S : Nat → Prop} {B x : Nat} {r : RefI}
set_option maxHeartbeats 4000000 in
theorem rtop16_any (h : RIAt w S B x r) (hf : r.Fine) : Calls Try.prog 12 #[.pointer (some ⟨x, 0, none⟩)] w fun e w' => e = .returned (.int .i64 r.top) ∧ Below w.heap.size w w' := by
  have y1 := h.c1
  obtain ⟨A, c, y2⟩ := h.c2
  have b0 := hf.b0
  have b1 := hf.b1
  have hn := hf.n
  have HT : Hid (r.top = r.base + r.l.length) := Lib.hid rfl
  clear h hf
  obtain ⟨b, hb⟩ : ∃ b, b = r.base := ⟨_, rfl⟩
  obtain ⟨n, hnn⟩ : ∃ n, n = r.l.length := ⟨_, rfl⟩
  rw [← hb] at y1 b0 b1 HT
  rw [← hnn] at y2 hn HT
  clear hb hnn
  go_enter Try.func12, Try.ntmps12
  go_wp2_with go_region
  go_ret
  refine ⟨?_, (Below.refl _ _).drew⟩
  rw [HT.out]
  rfl
set_option maxHeartbeats 8000000 in
theorem rknown_any (h : RIAt w S B x r) (hf : r.Fine) (hS : ∀ b, S b → b < w.heap.size) (i : Int) (hi : -9223372036854775808 ≤ i ∧ i ≤ 9223372036854775807) : Calls Try.prog 42 #[.pointer (some ⟨x, 0, none⟩), .int .i64 i] w fun e w' => e = .returned (.bool (r.known i)) ∧ Below w.heap.size w w' := by
  have HR : Hid (r.known i = (decide (r.base < i) && decide (i ≤ r.top) && decide (r.top - r.keep < i))) := Lib.hid rfl
  have HI : Hid (RIAt w.drew S B x r) := Lib.hid (h.below hS (Below.refl _ _).drew)
  have HS := Lib.hid hS
  have HF := Lib.hid hf
  have k0 := hf.k0
  have k1 := hf.k1
  have b0 := hf.b0
  have b1 := hf.b1
  have hT : 0 ≤ r.top ∧ r.top ≤ 2199024255552 := by have := hf.n; have := hf.b0; have := hf.b1; unfold RefI.top; omega
  have z0 := cell_later (B := w.heap.size) (w := w.drew) (a := ⟨x, 0, none⟩) HI.out.c0 h.lt
  have z1 := cell_later (B := w.heap.size) (w := w.drew) (a := ⟨x, 1, none⟩) HI.out.c1 h.lt
  obtain ⟨T, hTT⟩ : ∃ t, t = r.top := ⟨_, rfl⟩
  obtain ⟨b, hb⟩ : ∃ b, b = r.base := ⟨_, rfl⟩
  obtain ⟨k, hk⟩ : ∃ k, k = r.keep := ⟨_, rfl⟩
  have HTT := Lib.hid hTT
  rw [← hb] at z1 b0 b1
  rw [← hk] at z0 k0 k1
  rw [← hTT] at hT
  rw [← hb, ← hTT, ← hk] at HR
  obtain ⟨t0, t1⟩ := hT
  have HTOP : Hid (∀ W, RIAt W S B x r → Calls Try.prog 12 #[.pointer (some ⟨x, 0, none⟩)] W fun e w' => e = .returned (.int .i64 T) ∧ Below W.heap.size W w') := Lib.hid fun W hW => by rw [hTT]; exact rtop16_any hW hf
  generalize r.known i = R at *
  have HK := Lib.hid hk
  have HBB := Lib.hid hb
  clear h hf hS hb hk hTT
  go_enter Try.func42, Try.ntmps42
  by_cases h1 : b < i
  · go_wp2_with fail
    refine wp_region_mix [0, 1, 2, 3, 4, 5, 6, 7, 8, 9, 10, 11, 12, 13, 14, 16, 17, 18, 19, 15, 20, 21, 22, 23] (by kernel_rfl) (by kernel_rfl) (fun _ d _ _ _ h => by cases d <;> exact h) ?_
    simp only [atNats, List.filterMap_cons, List.filterMap_nil, List.getElem?_toArray, List.getElem?_cons_succ, List.getElem?_cons_zero]
    first | refine mix_pure ?_ | refine mix_pureB ?_
    simp only [List.takeWhile, List.dropWhile, isPure, Nat.reduceBNe]
    repeat (go_big_quiet_step (fail))
    refine wpQuiet_nil ?_
    clear z0 z1
    first | refine mix_call rfl (fun K hK => ?_) | refine mix_callB rfl (fun K hK => ?_)
    go_simp
    refine (HTOP.out _ HI.out).mono ?_
    rintro e w2 ⟨rfl, hb⟩
    refine hK _ _ hb ?_
    clear hK K
    try simp only [Act.put]
    have hi2 := HI.out.below (fun b hb => HS.out b hb) hb
    have HB2 : Hid (Below w.heap.size w w2) := Lib.hid ((Below.refl _ _).drew.trans hb)
    have HI2 := Lib.hid hi2
    have z0 := cell_later (B := w2.heap.size) (w := w2) (a := ⟨x, 0, none⟩) hi2.c0 hi2.lt
    have z1 := cell_later (B := w2.heap.size) (w := w2) (a := ⟨x, 1, none⟩) hi2.c1 hi2.lt
    rw [← HK.out] at z0
    rw [← HBB.out] at z1
    clear hi2 hb
    by_cases h2 : i ≤ T
    · skip
      first | refine mix_pure ?_ | refine mix_pureB ?_
      simp only [List.takeWhile, List.dropWhile, isPure, Nat.reduceBNe]
      repeat (go_big_quiet_step (fail))
      refine wpQuiet_nil ?_
      clear z0 z1
      first | refine mix_call rfl (fun K hK => ?_) | refine mix_callB rfl (fun K hK => ?_)
      go_simp
      refine (HTOP.out _ HI2.out).mono ?_
      rintro e w3 ⟨rfl, hb⟩
      refine hK _ _ hb ?_
      clear hK K
      try simp only [Act.put]
      have hi3 := HI2.out.below (fun b hb => Nat.lt_of_lt_of_le (HS.out b hb) HB2.out.size) hb
      have HB3 : Hid (Below w.heap.size w w3) := Lib.hid (HB2.out.trans (hb.mono HB2.out.size))
      have z0 := cell_later (B := w3.heap.size) (w := w3) (a := ⟨x, 0, none⟩) hi3.c0 hi3.lt
      rw [← HK.out] at z0
      clear hi3 hb
      by_cases h3 : T - k < i
      · skip
        first | refine mix_pure ?_ | refine mix_pureB ?_
        simp only [List.takeWhile, List.dropWhile, isPure, Nat.reduceBNe]
        repeat (go_big_quiet_step (fail))
        refine wpQuiet_nil ?_
        unfold wpMix
        go_wp2_with fail
        go_ret
        exact ⟨by rw [HR.out]; simp [h1, h2, h3], HB3.out⟩
      · skip
        first | refine mix_pure ?_ | refine mix_pureB ?_
        simp only [List.takeWhile, List.dropWhile, isPure, Nat.reduceBNe]
        repeat (go_big_quiet_step (fail))
        refine wpQuiet_nil ?_
        unfold wpMix
        go_wp2_with fail
        go_ret
        exact ⟨by rw [HR.out]; simp [h1, h2, h3], HB3.out⟩
    · skip
      first | refine mix_pure ?_ | refine mix_pureB ?_
      simp only [List.takeWhile, List.dropWhile, isPure, Nat.reduceBNe]
      repeat (go_big_quiet_step (fail))
      refine wpQuiet_nil ?_
      first | refine mix_call rfl (fun K hK => ?_) | refine mix_callB rfl (fun K hK => ?_)
      go_simp
      refine hK _ _ (Below.refl _ _) ?_
      clear hK K
      try simp only [Act.put]
      first | refine mix_pure ?_ | refine mix_pureB ?_
      simp only [List.takeWhile, List.dropWhile, isPure, Nat.reduceBNe]
      repeat (go_big_quiet_step (fail))
      refine wpQuiet_nil ?_
      unfold wpMix
      go_wp2_with fail
      go_ret
      exact ⟨by rw [HR.out]; simp [h1]; omega, HB2.out⟩
  · go_wp2_with fail
    have h1' : ¬ (b < i) := by omega
    refine wp_region_mix [0, 1, 2, 3, 4, 5, 6, 7, 8, 9, 10, 11, 12, 13, 14, 16, 17, 18, 19, 15, 20, 21, 22, 23] (by kernel_rfl) (by kernel_rfl) (fun _ d _ _ _ h => by cases d <;> exact h) ?_
    simp only [atNats, List.filterMap_cons, List.filterMap_nil, List.getElem?_toArray, List.getElem?_cons_succ, List.getElem?_cons_zero]
    first | refine mix_pure ?_ | refine mix_pureB ?_
    simp only [List.takeWhile, List.dropWhile, isPure, Nat.reduceBNe]
    repeat (go_big_quiet_step (fail))
    refine wpQuiet_nil ?_
    first | refine mix_call rfl (fun K hK => ?_) | refine mix_callB rfl (fun K hK => ?_)
    go_simp
    refine hK _ _ (Below.refl _ _) ?_
    clear hK K
    try simp only [Act.put]
    first | refine mix_pure ?_ | refine mix_pureB ?_
    simp only [List.takeWhile, List.dropWhile, isPure, Nat.reduceBNe]
    repeat (go_big_quiet_step (fail))
    refine wpQuiet_nil ?_
    first | refine mix_call rfl (fun K hK => ?_) | refine mix_callB rfl (fun K hK => ?_)
    go_simp
    refine hK _ _ (Below.refl _ _) ?_
    clear hK K
    try simp only [Act.put]
    first | refine mix_pure ?_ | refine mix_pureB ?_
    simp only [List.takeWhile, List.dropWhile, isPure, Nat.reduceBNe]
    repeat (go_big_quiet_step (fail))
    refine wpQuiet_nil ?_
    unfold wpMix
    go_wp2_with fail
    go_ret
    exact ⟨by rw [HR.out]; simp; omega, (Below.refl _ _).drew⟩
end
end Go.Proofs.Ytdggeokpnaopiaa
