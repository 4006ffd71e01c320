/- The order of any two values, as the document's answer has it. -/
import Derived.Test.YteakkbgfkcknlaaRefM
import Derived.Test.YteakkbgfkcknlaaRefS
namespace Go.Proofs.Yteakkbgfkcknlaa
open Go.RowKit

section
variable {u : World} {S : Nat → Prop} {g g' : Nat} {t t' : VT} {A B : Option Addr} {c d : Nat} {A' B' : Option Addr} {c' d' : Nat}
theorem Vr.rmay (h : Vr u S g t A c A' c') {x : Bool} (hx : x = mayT t) : Calls Try.prog 37 #[.agg #[.int .i64 t.kind, .int .i64 t.num, .string t.text, .slice A t.items.length c, .slice A' t.names.length c']] u fun e u' => e = .returned (.bool x) ∧ Below u.heap.size u u' :=
  (rmay_any S (depthT t) t _ u (Nat.le_refl _) h.s h.v).mono fun _ _ h' => ⟨by rw [h'.1, hx], h'.2⟩
theorem Vr.rsame (h : Vr u S g t A c A' c') (k : Vr u S g' t' B d B' d') :
    Calls Try.prog 45 #[.agg #[.int .i64 t.kind, .int .i64 t.num, .string t.text, .slice A t.items.length c, .slice A' t.names.length c'], .agg #[.int .i64 t'.kind, .int .i64 t'.num, .string t'.text, .slice B t'.items.length d, .slice B' t'.names.length d']] u fun e u' => (∃ r : Bool, e = .returned (.bool r) ∧ (r = true ↔ t = t')) ∧ Below u.heap.size u u' :=
  rsame_any S (depthT t) t t' _ _ u (Nat.le_refl _) h.s h.v k.v
end

set_option maxHeartbeats 4000000 in
set_option maxRecDepth 100000 in
theorem lcompare_any (S : Nat → Prop) (a b : VT) (va vb : Value) (w : World) (hS : ∀ b, S b → b < w.heap.size) (ha : LV w S a va) (hb : LV w S b vb) :
    Calls Try.prog 50 #[va, vb] w fun e w' => e = .returned (.int .i64 (cmpV a b)) ∧ Below w.heap.size w w' := by
  obtain ⟨A, ca, A', ca', B, cb, B', cb', rfl, rfl, -, -, -, -, -, v1, v2, hb0⟩ := two_vars hS ha hb
  have P1 := Lib.hid v1
  have P2 := Lib.hid v2
  have HB := Lib.hid hb0
  have HR : Hid (cmpV a b = if mayT a = true ∧ mayT b = true then cmpT a b else if mayT b = true then -1 else if mayT a = true then 1 else 0) := Lib.hid rfl
  generalize cmpV a b = R at *
  obtain ⟨x, hx⟩ : ∃ x, x = mayT a := ⟨_, rfl⟩
  obtain ⟨y, hy⟩ : ∃ y, y = mayT b := ⟨_, rfl⟩
  have HX := Lib.hid hx
  have HY := Lib.hid hy
  rw [← hx, ← hy] at HR
  clear ha hb v1 v2 hb0 hx hy
  go_enter Try.func50, Try.ntmps50
  go_wp2_with fail
  generalize (w.alloc (.cells #[.int .i64 a.kind, .int .i64 a.num, .string a.text, .slice A a.items.length ca, .slice A' a.names.length ca'] 49)).alloc (.cells #[.int .i64 b.kind, .int .i64 b.num, .string b.text, .slice B b.items.length cb, .slice B' b.names.length cb'] 49) = w1 at *
  refine wp_region_mix [0, 2, 1, 3, 4, 5] (by kernel_rfl) (by kernel_rfl) (fun _ d _ _ _ h => by cases d <;> exact h) ?_
  simp only [atNats, List.filterMap_cons, List.filterMap_nil, List.getElem?_toArray, List.getElem?_cons_succ, List.getElem?_cons_zero]
  have P1 := Lib.hid P1.out.drew
  have P2 := Lib.hid P2.out.drew
  have HB := Lib.hid HB.out.drew
  generalize w1.drew = v0 at *
  have q0 := cell_later (B := v0.heap.size) (w := v0) P1.out.x.c0 P1.out.x.lt
  have q1 := cell_later (B := v0.heap.size) (w := v0) P1.out.x.c1 P1.out.x.lt
  have q2 := cell_later (B := v0.heap.size) (w := v0) P1.out.x.c2 P1.out.x.lt
  have q3 := cell_later (B := v0.heap.size) (w := v0) P1.out.x.c3 P1.out.x.lt
  have q4 := cell_later (B := v0.heap.size) (w := v0) P1.out.x.c4 P1.out.x.lt
  have r0 := cell_later (B := v0.heap.size) (w := v0) P2.out.x.c0 P2.out.x.lt
  have r1 := cell_later (B := v0.heap.size) (w := v0) P2.out.x.c1 P2.out.x.lt
  have r2 := cell_later (B := v0.heap.size) (w := v0) P2.out.x.c2 P2.out.x.lt
  have r3 := cell_later (B := v0.heap.size) (w := v0) P2.out.x.c3 P2.out.x.lt
  have r4 := cell_later (B := v0.heap.size) (w := v0) P2.out.x.c4 P2.out.x.lt
  first | refine mix_pure ?_ | refine mix_pureB ?_
  simp only [List.takeWhile, List.dropWhile, isPure]
  repeat (go_big_quiet_step (fail))
  refine wpQuiet_nil ?_
  clear q0 q1 q2 q3 q4 r0 r1 r2 r3 r4
  first | refine mix_call rfl (fun K hK => ?_) | refine mix_callB rfl (fun K hK => ?_)
  go_simp
  refine (P1.out.rmay HX.out).mono ?_
  rintro e v1 ⟨rfl, hb⟩
  refine hK _ _ hb ?_
  clear hK K
  try simp only [Act.put]
  have P1 := Lib.hid (P1.out.call hb)
  have P2 := Lib.hid (P2.out.call hb)
  have HB := Lib.hid (toStart HB.out hb)
  clear hb
  first | refine mix_pure ?_ | refine mix_pureB ?_
  simp only [List.takeWhile, List.dropWhile, isPure]
  repeat (go_big_quiet_step (fail))
  refine wpQuiet_nil ?_
  first | refine mix_call rfl (fun K hK => ?_) | refine mix_callB rfl (fun K hK => ?_)
  go_simp
  refine (P2.out.rmay HY.out).mono ?_
  rintro e v2 ⟨rfl, hb⟩
  refine hK _ _ hb ?_
  clear hK K
  try simp only [Act.put]
  have P1 := Lib.hid (P1.out.call hb)
  have P2 := Lib.hid (P2.out.call hb)
  have HB := Lib.hid (toStart HB.out hb)
  clear hb
  first | refine mix_pure ?_ | refine mix_pureB ?_
  simp only [List.takeWhile, List.dropWhile, isPure]
  repeat (go_big_quiet_step (fail))
  refine wpQuiet_nil ?_
  unfold wpMix
  cases x
  · cases y
    · have HF : Hid (R = 0) := Lib.hid (by rw [HR.out]; simp)
      clear HR HX HY P1 P2
      go_wp2_with fail
      go_ret
      exact ⟨ret_i64 HF.out.symm, HB.out⟩
    · have HF : Hid (R = -1) := Lib.hid (by rw [HR.out]; simp)
      clear HR HX HY P1 P2
      go_wp2_with fail
      go_ret
      exact ⟨ret_i64 HF.out.symm, HB.out⟩
  · cases y
    · have HF : Hid (R = 1) := Lib.hid (by rw [HR.out]; simp)
      clear HR HX HY P1 P2
      go_wp2_with fail
      go_ret
      exact ⟨ret_i64 HF.out.symm, HB.out⟩
    · have HF : Hid (R = cmpT a b) := Lib.hid (by rw [HR.out]; simp)
      have HC := Lib.hid (rcompare_any S (depthT a) a b _ _ v2 (Nat.le_refl _) HX.out.symm HY.out.symm P1.out.s P1.out.v P2.out.v)
      have q0 := P1.out.x.c0
      have q1 := P1.out.x.c1
      have q2 := P1.out.x.c2
      have q3 := P1.out.x.c3
      have q4 := P1.out.x.c4
      have r0 := P2.out.x.c0
      have r1 := P2.out.x.c1
      have r2 := P2.out.x.c2
      have r3 := P2.out.x.c3
      have r4 := P2.out.x.c4
      clear HR HX HY P1 P2
      go_wp2_with fail
      refine HC.out.mono ?_
      rintro e v3 ⟨rfl, hb⟩
      have HB := Lib.hid (toStart HB.out hb)
      clear hb HC q0 q1 q2 q3 q4 r0 r1 r2 r3 r4
      go_wp2_with fail
      go_ret
      exact ⟨ret_i64 HF.out.symm, HB.out⟩
section
variable {u : World} {S : Nat → Prop} {g g' : Nat} {t t' : VT} {A B : Option Addr} {c d : Nat} {A' B' : Option Addr} {c' d' : Nat}
theorem Vr.lcompare (h : Vr u S g t A c A' c') (k : Vr u S g' t' B d B' d') {x : Int} (hx : x = cmpV t t') :
    Calls Try.prog 50 #[.agg #[.int .i64 t.kind, .int .i64 t.num, .string t.text, .slice A t.items.length c, .slice A' t.names.length c'], .agg #[.int .i64 t'.kind, .int .i64 t'.num, .string t'.text, .slice B t'.items.length d, .slice B' t'.names.length d']] u fun e u' => e = .returned (.int .i64 x) ∧ Below u.heap.size u u' :=
  (lcompare_any S t t' _ _ u h.s h.v k.v).mono fun _ _ h' => ⟨by rw [h'.1, hx], h'.2⟩
theorem Vr.same (h : Vr u S g t A c A' c') (k : Vr u S g' t' B d B' d') {x : Bool} (hx : x = (cmpV t t' == 0)) (h1 : false = largeT t) (h2 : false = largeT t') :
    Calls Try.prog 51 #[.agg #[.int .i64 t.kind, .int .i64 t.num, .string t.text, .slice A t.items.length c, .slice A' t.names.length c'], .agg #[.int .i64 t'.kind, .int .i64 t'.num, .string t'.text, .slice B t'.items.length d, .slice B' t'.names.length d']] u fun e u' => e = .returned (.bool x) ∧ Below u.heap.size u u' :=
  (same_any S t t' _ _ u h.s h.v k.v (dep_ok h1.symm) (dep_ok h2.symm)).mono fun _ _ h' => ⟨by rw [h'.1, hx], h'.2⟩
end
end Go.Proofs.Yteakkbgfkcknlaa
