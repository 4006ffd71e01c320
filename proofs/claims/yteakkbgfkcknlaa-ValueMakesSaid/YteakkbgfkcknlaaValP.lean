/- The order of any two values, as the program has it. -/
import Derived.Test.YteakkbgfkcknlaaValQ
namespace Go.Proofs.Yteakkbgfkcknlaa
open Go.RowKit

def cmpV (a b : VT) : Int := if mayT a = true ∧ mayT b = true then cmpT a b else if mayT b = true then -1 else if mayT a = true then 1 else 0
def dmax : Nat := 4611686018427387903

set_option maxHeartbeats 1000000 in
set_option maxRecDepth 100000 in
theorem compare_any (S : Nat → Prop) (a b : VT) (va vb : Value) (w : World) (hS : ∀ b, S b → b < w.heap.size) (ha : LV w S a va) (hb : LV w S b vb) (hda : depthT a ≤ 4611686018427387903) (hdb : depthT b ≤ 4611686018427387903) :
    Calls Try.prog 49 #[va, vb] w fun e w' => e = .returned (.int .i64 (cmpV a b)) ∧ Below w.heap.size w w' := by
  have HVA := Lib.hid ha
  have HVB := Lib.hid hb
  obtain ⟨A, ca, A', ca', rfl, -, -, -, -, -, -, -⟩ := ha.shape
  obtain ⟨B, cb, B', cb', rfl, -, -, -, -, -, -, -⟩ := hb.shape
  have hX2 : Box ((w.alloc (.cells #[.int .i64 a.kind, .int .i64 a.num, .string a.text, .slice A a.items.length ca, .slice A' a.names.length ca'] 49)).alloc (.cells #[.int .i64 b.kind, .int .i64 b.num, .string b.text, .slice B b.items.length cb, .slice B' b.names.length cb'] 49)) w.heap.size (.int .i64 a.kind) (.int .i64 a.num) (.string a.text) (.slice A a.items.length ca) (.slice A' a.names.length ca') := (Box.new _ _ _ _ _).alloc _
  have hX3 : Box ((w.alloc (.cells #[.int .i64 a.kind, .int .i64 a.num, .string a.text, .slice A a.items.length ca, .slice A' a.names.length ca'] 49)).alloc (.cells #[.int .i64 b.kind, .int .i64 b.num, .string b.text, .slice B b.items.length cb, .slice B' b.names.length cb'] 49)) (w.heap.size + 1) (.int .i64 b.kind) (.int .i64 b.num) (.string b.text) (.slice B b.items.length cb) (.slice B' b.names.length cb') := by
    have := Box.new (w := (w.alloc (.cells #[.int .i64 a.kind, .int .i64 a.num, .string a.text, .slice A a.items.length ca, .slice A' a.names.length ca'] 49))) (.int .i64 b.kind) (.int .i64 b.num) (.string b.text) (.slice B b.items.length cb) (.slice B' b.names.length cb')
    simpa using this
  have hB0 : Below w.heap.size w ((w.alloc (.cells #[.int .i64 a.kind, .int .i64 a.num, .string a.text, .slice A a.items.length ca, .slice A' a.names.length ca'] 49)).alloc (.cells #[.int .i64 b.kind, .int .i64 b.num, .string b.text, .slice B b.items.length cb, .slice B' b.names.length cb'] 49)) := (below_box _).alloc (by simp) _
  have X2 := Lib.hid hX2
  have X3 := Lib.hid hX3
  have HB0 := Lib.hid hB0
  have HDA := Lib.hid hda
  have HDB := Lib.hid hdb
  have HR : Hid (cmpV a b = if mayT a = true ∧ mayT b = true then cmpT a b else if mayT b = true then -1 else if mayT a = true then 1 else 0) := Lib.hid rfl
  have MA : Hid (∀ m, mayT a = m → mayT a = m) := Lib.hid fun _ h => h
  generalize cmpV a b = R at *
  clear ha hb hX2 hX3 hB0 hda hdb MA
  go_enter Try.func49, Try.ntmps49
  go_wp2_with fail
  obtain ⟨w1, hw1⟩ : ∃ w1 : World, w1 = ((w.alloc (.cells #[.int .i64 a.kind, .int .i64 a.num, .string a.text, .slice A a.items.length ca, .slice A' a.names.length ca'] 49)).alloc (.cells #[.int .i64 b.kind, .int .i64 b.num, .string b.text, .slice B b.items.length cb, .slice B' b.names.length cb'] 49)) := ⟨_, rfl⟩
  rw [← hw1] at X2 X3 HB0 ⊢
  have SZ1 : Hid (w1.heap.size = w.heap.size + 2) := Lib.hid (by rw [hw1]; simp)
  clear hw1
  refine wp_region_mix [0, 2, 1, 3, 4, 5] (by kernel_rfl) (by kernel_rfl) (fun _ d _ _ _ h => by cases d <;> exact h) ?_
  simp only [atNats, List.filterMap_cons, List.filterMap_nil, List.getElem?_toArray, List.getElem?_cons_succ, List.getElem?_cons_zero]
  have q0 := cell_later (B := w1.heap.size) (w := w1.drew) X2.out.c0 (by have := SZ1.out; simp; omega)
  have q1 := cell_later (B := w1.heap.size) (w := w1.drew) X2.out.c1 (by have := SZ1.out; simp; omega)
  have q2 := cell_later (B := w1.heap.size) (w := w1.drew) X2.out.c2 (by have := SZ1.out; simp; omega)
  have q3 := cell_later (B := w1.heap.size) (w := w1.drew) X2.out.c3 (by have := SZ1.out; simp; omega)
  have q4 := cell_later (B := w1.heap.size) (w := w1.drew) X2.out.c4 (by have := SZ1.out; simp; omega)
  have r0 := cell_later (B := w1.heap.size) (w := w1.drew) X3.out.c0 (by have := SZ1.out; simp; omega)
  have r1 := cell_later (B := w1.heap.size) (w := w1.drew) X3.out.c1 (by have := SZ1.out; simp; omega)
  have r2 := cell_later (B := w1.heap.size) (w := w1.drew) X3.out.c2 (by have := SZ1.out; simp; omega)
  have r3 := cell_later (B := w1.heap.size) (w := w1.drew) X3.out.c3 (by have := SZ1.out; simp; omega)
  have r4 := cell_later (B := w1.heap.size) (w := w1.drew) X3.out.c4 (by have := SZ1.out; simp; omega)
  first | refine mix_pure ?_ | refine mix_pureB ?_
  simp only [List.takeWhile, List.dropWhile, isPure]
  repeat (go_big_quiet_step (fail))
  refine wpQuiet_nil ?_
  have hS1 : Hid (∀ b, S b → b < w1.drew.heap.size) := Lib.hid (sub_below hS HB0.out.drew)
  first | refine mix_call rfl (fun K hK => ?_) | refine mix_callB rfl (fun K hK => ?_)
  go_simp
  refine (may_any S a _ _ hS1.out (HVA.out.below hS HB0.out.drew) HDA.out).mono ?_
  rintro e w2 ⟨rfl, hb⟩
  refine hK _ _ hb ?_
  clear hK K
  try simp only [Act.put]
  have HB2 := Lib.hid (toStart HB0.out (below_undrew hb))
  have X2' := Lib.hid (X2.out.call (below_undrew hb))
  have X3' := Lib.hid (X3.out.call (below_undrew hb))
  clear hb
  first | refine mix_pure ?_ | refine mix_pureB ?_
  simp only [List.takeWhile, List.dropWhile, isPure]
  repeat (go_big_quiet_step (fail))
  refine wpQuiet_nil ?_
  first | refine mix_call rfl (fun K hK => ?_) | refine mix_callB rfl (fun K hK => ?_)
  go_simp
  refine (may_any S b _ _ (sub_below hS HB2.out) (HVB.out.below hS HB2.out) HDB.out).mono ?_
  rintro e w3 ⟨rfl, hb⟩
  refine hK _ _ hb ?_
  clear hK K
  try simp only [Act.put]
  have HB3 := Lib.hid (toStart HB2.out hb)
  have X2 := Lib.hid (X2'.out.call hb)
  have X3 := Lib.hid (X3'.out.call hb)
  clear hb HB2 X2' X3' hS1 HB0 SZ1 q0 q1 q2 q3 q4 r0 r1 r2 r3 r4
  first | refine mix_pure ?_ | refine mix_pureB ?_
  simp only [List.takeWhile, List.dropWhile, isPure]
  repeat (go_big_quiet_step (fail))
  refine wpQuiet_nil ?_
  unfold wpMix
  by_cases hma : mayT a = true
  · by_cases hmb : mayT b = true
    · have HF : Hid (R = cmpT a b) := Lib.hid (by rw [HR.out, if_pos ⟨hma, hmb⟩])
      have HO := Lib.hid (order_any S (depthT a) a b _ _ w3 (Nat.le_refl _) hma hmb (sub_below hS HB3.out) (HVA.out.below hS HB3.out) (HVB.out.below hS HB3.out))
      have k0 := X2.out.c0
      have k1 := X2.out.c1
      have k2 := X2.out.c2
      have k3 := X2.out.c3
      have k4 := X2.out.c4
      have g0 := X3.out.c0
      have g1 := X3.out.c1
      have g2 := X3.out.c2
      have g3 := X3.out.c3
      have g4 := X3.out.c4
      clear HR
      go_wp2_with fail
      refine HO.out.mono ?_
      rintro e w4 ⟨rfl, hb⟩
      have HB4 := Lib.hid (toStart HB3.out hb)
      clear hb HO k0 k1 k2 k3 k4 g0 g1 g2 g3 g4
      go_wp2_with fail
      go_ret
      exact ⟨ret_i64 HF.out.symm, HB4.out⟩
    · have HF : Hid (R = 1) := Lib.hid (by rw [HR.out, if_neg (fun h => hmb h.2), if_neg hmb, if_pos hma])
      clear HR
      go_wp2_with fail
      go_ret
      exact ⟨ret_i64 HF.out.symm, HB3.out⟩
  · by_cases hmb : mayT b = true
    · have HF : Hid (R = -1) := Lib.hid (by rw [HR.out, if_neg (fun h => hma h.1), if_pos hmb])
      clear HR
      go_wp2_with fail
      go_ret
      exact ⟨ret_i64 HF.out.symm, HB3.out⟩
    · have HF : Hid (R = 0) := Lib.hid (by rw [HR.out, if_neg (fun h => hma h.1), if_neg hmb, if_neg hma])
      clear HR
      go_wp2_with fail
      go_ret
      exact ⟨ret_i64 HF.out.symm, HB3.out⟩

set_option maxHeartbeats 1000000 in
theorem same_any (S : Nat → Prop) (a b : VT) (va vb : Value) (w : World) (hS : ∀ b, S b → b < w.heap.size) (ha : LV w S a va) (hb : LV w S b vb) (hda : depthT a ≤ 4611686018427387903) (hdb : depthT b ≤ 4611686018427387903) :
    Calls Try.prog 51 #[va, vb] w fun e w' => e = .returned (.bool (cmpV a b == 0)) ∧ Below w.heap.size w w' := by
  have HVA := Lib.hid ha
  have HVB := Lib.hid hb
  obtain ⟨A, ca, A', ca', rfl, -, -, -, -, -, -, -⟩ := ha.shape
  obtain ⟨B, cb, B', cb', rfl, -, -, -, -, -, -, -⟩ := hb.shape
  have hB0 : Below w.heap.size w ((w.alloc (.cells #[.int .i64 a.kind, .int .i64 a.num, .string a.text, .slice A a.items.length ca, .slice A' a.names.length ca'] 49)).alloc (.cells #[.int .i64 b.kind, .int .i64 b.num, .string b.text, .slice B b.items.length cb, .slice B' b.names.length cb'] 49)) := (below_box _).alloc (by simp) _
  have HC := Lib.hid (compare_any S a b _ _ _ (sub_below hS hB0) (ha.below hS hB0) (hb.below hS hB0) hda hdb)
  have HB0 := Lib.hid hB0
  clear ha hb hda hdb hB0
  go_enter Try.func51, Try.ntmps51
  go_wp2_with fail
  refine HC.out.mono ?_
  rintro e w2 ⟨rfl, hb⟩
  have HB2 := Lib.hid (toStart HB0.out hb)
  clear hb HC HB0
  go_wp2_with fail
  go_ret
  exact ⟨rfl, HB2.out⟩
end Go.Proofs.Yteakkbgfkcknlaa
