/- Which values may be and are whole, how deep and how large they are, and that a copy is the same: as the document says. No conditions. -/
import Derived.Test.YteakkbgfkcknlaaLive2
import Derived.Test.YteakkbgfkcknlaaRefZ
import Derived.Test.YteakkbgfkcknlaaOpen
import Derived.SizedLaws
import Derived.ProofKit
import Derived.OpenShut
import Derived.ShutString
import Derived.ChangeOld
import Derived.Below
namespace Go.Proofs.Yteakkbgfkcknlaa
open Go.RowKit
section
variable {u : World} {S : Nat → Prop} {g : Nat} {t : VT} {A : Option Addr} {c : Nat} {A' : Option Addr} {c' : Nat}
theorem dep1000 (hl : false = largeT t) : depthT t ≤ 1000 := Nat.le_trans (depth_small hl.symm) (by decide)
theorem Vr.vmay (h : Vr u S g t A c A' c') {x : Bool} (hx : x = mayT t) (hl : false = largeT t) : Calls Try.prog 40 #[.agg #[.int .i64 t.kind, .int .i64 t.num, .string t.text, .slice A t.items.length c, .slice A' t.names.length c']] u fun e u' => e = .returned (.bool x) ∧ Below u.heap.size u u' :=
  (may_any S t _ u h.s h.v (dep_ok hl.symm)).mono fun _ _ h' => ⟨by rw [h'.1, hx], h'.2⟩
theorem Vr.vcheck (h : Vr u S g t A c A' c') {x : Int} (hx : x = checkT t) (hl : false = largeT t) : Calls Try.prog 41 #[.agg #[.int .i64 t.kind, .int .i64 t.num, .string t.text, .slice A t.items.length c, .slice A' t.names.length c']] u fun e u' => e = .returned (.int .i64 x) ∧ Below u.heap.size u u' :=
  (check_any S t _ u h.s h.v (dep_ok hl.symm)).mono fun _ _ h' => ⟨by rw [h'.1, hx], h'.2⟩
theorem Vr.rcheck (h : Vr u S g t A c A' c') {x : Int} (hx : x = checkT t) (hl : false = largeT t) : Calls Try.prog 42 #[.agg #[.int .i64 t.kind, .int .i64 t.num, .string t.text, .slice A t.items.length c, .slice A' t.names.length c']] u fun e u' => e = .returned (.int .i64 x) ∧ Below u.heap.size u u' :=
  (rcheck_any S t _ u (dep1000 hl) h.s h.v).mono fun _ _ h' => ⟨by rw [h'.1, hx], h'.2⟩
theorem Vr.vdepth (h : Vr u S g t A c A' c') {x : Int} (hx : x = (if mayT t then (depthT t : Int) else 0)) (hl : false = largeT t) : Calls Try.prog 43 #[.agg #[.int .i64 t.kind, .int .i64 t.num, .string t.text, .slice A t.items.length c, .slice A' t.names.length c']] u fun e u' => e = .returned (.int .i64 x) ∧ Below u.heap.size u u' :=
  (depthV_any S t _ u h.s h.v (dep_ok hl.symm)).mono fun _ _ h' => ⟨by rw [h'.1, hx], h'.2⟩
theorem Vr.vsize (h : Vr u S g t A c A' c') {x : Int} (hx : x = (if mayT t then wrap64 (sizeT t) else 0)) (hl : false = largeT t) : Calls Try.prog 44 #[.agg #[.int .i64 t.kind, .int .i64 t.num, .string t.text, .slice A t.items.length c, .slice A' t.names.length c']] u fun e u' => e = .returned (.int .i64 x) ∧ Below u.heap.size u u' :=
  (sizeV_any S t _ u h.s h.v (dep_ok hl.symm)).mono fun _ _ h' => ⟨by rw [h'.1, hx], h'.2⟩
theorem Vr.rdepth (h : Vr u S g t A c A' c') {x : Int} (hx : x = (depthT t : Int)) (hl : false = largeT t) : Calls Try.prog 38 #[.agg #[.int .i64 t.kind, .int .i64 t.num, .string t.text, .slice A t.items.length c, .slice A' t.names.length c']] u fun e u' => e = .returned (.int .i64 x) ∧ Below u.heap.size u u' :=
  (rdepth_any S 1000 t _ u (dep1000 hl) (Nat.le_refl _) h.s h.v).mono fun _ _ h' => ⟨by rw [h'.1, hx], h'.2⟩
theorem Vr.rsize (h : Vr u S g t A c A' c') {x : Int} (hx : x = wrap64 (sizeT t)) (hm : true = mayT t) : Calls Try.prog 39 #[.agg #[.int .i64 t.kind, .int .i64 t.num, .string t.text, .slice A t.items.length c, .slice A' t.names.length c']] u fun e u' => e = .returned (.int .i64 x) ∧ Below u.heap.size u u' :=
  (rsize_any S (depthT t) t _ u (Nat.le_refl _) hm.symm h.s h.v).mono fun _ _ h' => ⟨by rw [h'.1, hx], h'.2⟩
theorem Vr.vclone (h : Vr u S g t A c A' c')  : Calls Try.prog 46 #[.agg #[.int .i64 t.kind, .int .i64 t.num, .string t.text, .slice A t.items.length c, .slice A' t.names.length c']] u fun e u' => (∃ v', e = .returned v' ∧ LV u' (All u') t v') ∧ Below u.heap.size u u' :=
  (clone_any S t _ u h.s h.v).mono fun _ _ ⟨v', h1, h2, h3⟩ => ⟨⟨v', h1, h2.all fun _ hb => hb.2⟩, h3⟩
theorem Vr.rsameC (h : Vr u S g t A c A' c') (v' : Value) (hv : LV u (All u) t v') : Calls Try.prog 45 #[v', .agg #[.int .i64 t.kind, .int .i64 t.num, .string t.text, .slice A t.items.length c, .slice A' t.names.length c']] u fun e u' => e = .returned (.bool true) ∧ Below u.heap.size u u' :=
  (rsame_any (All u) (depthT t) t t _ _ u (Nat.le_refl _) (all_sub u) hv (h.v.all h.s)).mono fun _ _ ⟨⟨r, h1, h2⟩, h3⟩ => ⟨by rw [h1, h2.2 rfl], h3⟩
end
end Go.Proofs.Yteakkbgfkcknlaa
namespace Go.Proofs.Yteakkbgfkcknlaa.Checks
open Go.ChangeShapes Go.WideShapes Go.ChangeAt Go.RowKit Go.Joins
set_option linter.unusedVariables false

theorem own : ownKnob Try.prog.godebug = none := by kernel_rfl
theorem laidOut : laidOutB Try.prog = true := by kernel_rfl

set_option maxHeartbeats 4000000 in
set_option maxRecDepth 100000 in
theorem walk (t : VT) (v : Value) (w : World) (S : Nat → Prop) (hS : ∀ b, S b → b < w.heap.size) (h : LV w S t v) :
    Calls Try.prog 8 #[v] w fun e w' => e = .returned (.bool true) ∧ Below w.heap.size w w' := by
  obtain ⟨A, c, A', c', rfl, -, -, -, v1, hb0⟩ := one_var hS h
  have P := Lib.hid v1
  have HB := Lib.hid hb0
  obtain ⟨l, hl⟩ : ∃ x, x = largeT t := ⟨_, rfl⟩
  obtain ⟨x, hx⟩ : ∃ x, x = mayT t := ⟨_, rfl⟩
  obtain ⟨R, hR⟩ : ∃ x, x = checkT t := ⟨_, rfl⟩
  have HL := Lib.hid hl
  have HX := Lib.hid hx
  have HR := Lib.hid hR
  clear h v1 hb0 hl hx hR
  go_enter Try.func8, Try.ntmps8
  go_wp2_with fail
  generalize (w.alloc (.cells #[.int .i64 t.kind, .int .i64 t.num, .string t.text, .slice A t.items.length c, .slice A' t.names.length c'] 49)) = w1 at *
  refine (P.out.large HL.out).mono ?_
  rintro e u1 ⟨rfl, hb⟩
  have P := Lib.hid (P.out.call hb)
  have HB := Lib.hid (toStart HB.out hb)
  clear hb
  cases l
  · have q0 := P.out.x.c0
    have q1 := P.out.x.c1
    have q2 := P.out.x.c2
    have q3 := P.out.x.c3
    have q4 := P.out.x.c4
    go_wp2_with fail
    clear q0 q1 q2 q3 q4
    refine (P.out.rmay HX.out).mono ?_
    rintro e u2 ⟨rfl, hb⟩
    have P := Lib.hid (P.out.call hb)
    have HB := Lib.hid (toStart HB.out hb)
    clear hb
    cases x
    · have HD : Hid (0 = (if mayT t then (depthT t : Int) else 0)) := Lib.hid (by rw [← HX.out]; simp)
      have HZ : Hid (0 = (if mayT t then wrap64 (sizeT t) else 0)) := Lib.hid (by rw [← HX.out]; simp)
      go_wp2_with fail
      refine wp_region_mix [0, 1, 2, 4, 3, 5, 6, 7, 8, 9, 11, 10, 12, 13, 14, 15, 16, 18, 17, 19, 20, 21, 22, 24, 23, 25, 26, 27, 28, 30, 29, 31, 32, 33] (by kernel_rfl) (by kernel_rfl) (fun _ d _ _ _ h => by cases d <;> exact h) ?_
      simp only [atNats, List.filterMap_cons, List.filterMap_nil, List.getElem?_toArray, List.getElem?_cons_succ, List.getElem?_cons_zero]
      have P := Lib.hid P.out.drew
      have HB := Lib.hid HB.out.drew
      generalize u2.drew = u3 at *
      first | refine mix_call rfl (fun K hK => ?_) | refine mix_callB rfl (fun K hK => ?_)
      go_simp
      refine (lives2_any _).mono ?_
      rintro e u4 ⟨rfl, hb⟩
      refine hK _ _ hb ?_
      clear hK K
      try simp only [Act.put]
      have P := Lib.hid (P.out.call hb)
      have HB := Lib.hid (toStart HB.out hb)
      clear hb
      have q0 := cell_later (B := u4.heap.size) (w := u4) P.out.x.c0 P.out.x.lt
      have q1 := cell_later (B := u4.heap.size) (w := u4) P.out.x.c1 P.out.x.lt
      have q2 := cell_later (B := u4.heap.size) (w := u4) P.out.x.c2 P.out.x.lt
      have q3 := cell_later (B := u4.heap.size) (w := u4) P.out.x.c3 P.out.x.lt
      have q4 := cell_later (B := u4.heap.size) (w := u4) P.out.x.c4 P.out.x.lt
      first | refine mix_pure ?_ | refine mix_pureB ?_
      simp only [List.takeWhile, List.dropWhile, isPure]
      repeat (go_big_quiet_step (fail))
      refine wpQuiet_nil ?_
      clear q0 q1 q2 q3 q4
      first | refine mix_call rfl (fun K hK => ?_) | refine mix_callB rfl (fun K hK => ?_)
      go_simp
      refine (P.out.vmay HX.out HL.out).mono ?_
      rintro e u5 ⟨rfl, hb⟩
      refine hK _ _ hb ?_
      clear hK K
      try simp only [Act.put]
      have P := Lib.hid (P.out.call hb)
      have HB := Lib.hid (toStart HB.out hb)
      clear hb
      first | refine mix_call rfl (fun K hK => ?_) | refine mix_callB rfl (fun K hK => ?_)
      go_simp
      refine (P.out.rmay HX.out).mono ?_
      rintro e u6 ⟨rfl, hb⟩
      refine hK _ _ hb ?_
      clear hK K
      try simp only [Act.put]
      have P := Lib.hid (P.out.call hb)
      have HB := Lib.hid (toStart HB.out hb)
      clear hb
      have q0 := cell_later (B := u6.heap.size) (w := u6) P.out.x.c0 P.out.x.lt
      have q1 := cell_later (B := u6.heap.size) (w := u6) P.out.x.c1 P.out.x.lt
      have q2 := cell_later (B := u6.heap.size) (w := u6) P.out.x.c2 P.out.x.lt
      have q3 := cell_later (B := u6.heap.size) (w := u6) P.out.x.c3 P.out.x.lt
      have q4 := cell_later (B := u6.heap.size) (w := u6) P.out.x.c4 P.out.x.lt
      first | refine mix_pure ?_ | refine mix_pureB ?_
      simp only [List.takeWhile, List.dropWhile, isPure]
      repeat (go_big_quiet_step (fail))
      refine wpQuiet_nil ?_
      clear q0 q1 q2 q3 q4
      first | refine mix_call rfl (fun K hK => ?_) | refine mix_callB rfl (fun K hK => ?_)
      go_simp
      refine (P.out.vcheck HR.out HL.out).mono ?_
      rintro e u7 ⟨rfl, hb⟩
      refine hK _ _ hb ?_
      clear hK K
      try simp only [Act.put]
      have P := Lib.hid (P.out.call hb)
      have HB := Lib.hid (toStart HB.out hb)
      clear hb
      first | refine mix_call rfl (fun K hK => ?_) | refine mix_callB rfl (fun K hK => ?_)
      go_simp
      refine (P.out.rcheck HR.out HL.out).mono ?_
      rintro e u8 ⟨rfl, hb⟩
      refine hK _ _ hb ?_
      clear hK K
      try simp only [Act.put]
      have P := Lib.hid (P.out.call hb)
      have HB := Lib.hid (toStart HB.out hb)
      clear hb
      have q0 := cell_later (B := u8.heap.size) (w := u8) P.out.x.c0 P.out.x.lt
      have q1 := cell_later (B := u8.heap.size) (w := u8) P.out.x.c1 P.out.x.lt
      have q2 := cell_later (B := u8.heap.size) (w := u8) P.out.x.c2 P.out.x.lt
      have q3 := cell_later (B := u8.heap.size) (w := u8) P.out.x.c3 P.out.x.lt
      have q4 := cell_later (B := u8.heap.size) (w := u8) P.out.x.c4 P.out.x.lt
      first | refine mix_pure ?_ | refine mix_pureB ?_
      simp only [List.takeWhile, List.dropWhile, isPure]
      repeat (go_big_quiet_step (fail))
      refine wpQuiet_nil ?_
      clear q0 q1 q2 q3 q4
      first | refine mix_call rfl (fun K hK => ?_) | refine mix_callB rfl (fun K hK => ?_)
      go_simp
      refine (P.out.vdepth HD.out HL.out).mono ?_
      rintro e u9 ⟨rfl, hb⟩
      refine hK _ _ hb ?_
      clear hK K
      try simp only [Act.put]
      have P := Lib.hid (P.out.call hb)
      have HB := Lib.hid (toStart HB.out hb)
      clear hb
      have q0 := cell_later (B := u9.heap.size) (w := u9) P.out.x.c0 P.out.x.lt
      have q1 := cell_later (B := u9.heap.size) (w := u9) P.out.x.c1 P.out.x.lt
      have q2 := cell_later (B := u9.heap.size) (w := u9) P.out.x.c2 P.out.x.lt
      have q3 := cell_later (B := u9.heap.size) (w := u9) P.out.x.c3 P.out.x.lt
      have q4 := cell_later (B := u9.heap.size) (w := u9) P.out.x.c4 P.out.x.lt
      first | refine mix_pure ?_ | refine mix_pureB ?_
      simp only [List.takeWhile, List.dropWhile, isPure]
      repeat (go_big_quiet_step (fail))
      refine wpQuiet_nil ?_
      clear q0 q1 q2 q3 q4
      first | refine mix_call rfl (fun K hK => ?_) | refine mix_callB rfl (fun K hK => ?_)
      go_simp
      refine (P.out.vsize HZ.out HL.out).mono ?_
      rintro e u10 ⟨rfl, hb⟩
      refine hK _ _ hb ?_
      clear hK K
      try simp only [Act.put]
      have P := Lib.hid (P.out.call hb)
      have HB := Lib.hid (toStart HB.out hb)
      clear hb
      have q0 := cell_later (B := u10.heap.size) (w := u10) P.out.x.c0 P.out.x.lt
      have q1 := cell_later (B := u10.heap.size) (w := u10) P.out.x.c1 P.out.x.lt
      have q2 := cell_later (B := u10.heap.size) (w := u10) P.out.x.c2 P.out.x.lt
      have q3 := cell_later (B := u10.heap.size) (w := u10) P.out.x.c3 P.out.x.lt
      have q4 := cell_later (B := u10.heap.size) (w := u10) P.out.x.c4 P.out.x.lt
      first | refine mix_pure ?_ | refine mix_pureB ?_
      simp only [List.takeWhile, List.dropWhile, isPure]
      repeat (go_big_quiet_step (fail))
      refine wpQuiet_nil ?_
      clear q0 q1 q2 q3 q4
      first | refine mix_call rfl (fun K hK => ?_) | refine mix_callB rfl (fun K hK => ?_)
      go_simp
      refine (P.out.vclone).mono ?_
      rintro e u11 ⟨⟨vc, rfl, hc⟩, hb⟩
      refine hK _ _ hb ?_
      clear hK K
      try simp only [Act.put]
      have P := Lib.hid (P.out.call hb)
      have HB := Lib.hid (toStart HB.out hb)
      clear hb
      have HC := Lib.hid hc
      clear hc
      first | refine mix_call rfl (fun K hK => ?_) | refine mix_callB rfl (fun K hK => ?_)
      go_simp
      refine (P.out.rsameC _ HC.out).mono ?_
      rintro e u12 ⟨rfl, hb⟩
      refine hK _ _ hb ?_
      clear hK K
      try simp only [Act.put]
      have P := Lib.hid (P.out.call hb)
      have HB := Lib.hid (toStart HB.out hb)
      clear hb
      clear HC
      have q0 := cell_later (B := u12.heap.size) (w := u12) P.out.x.c0 P.out.x.lt
      have q1 := cell_later (B := u12.heap.size) (w := u12) P.out.x.c1 P.out.x.lt
      have q2 := cell_later (B := u12.heap.size) (w := u12) P.out.x.c2 P.out.x.lt
      have q3 := cell_later (B := u12.heap.size) (w := u12) P.out.x.c3 P.out.x.lt
      have q4 := cell_later (B := u12.heap.size) (w := u12) P.out.x.c4 P.out.x.lt
      first | refine mix_pure ?_ | refine mix_pureB ?_
      simp only [List.takeWhile, List.dropWhile, isPure]
      repeat (go_big_quiet_step (fail))
      refine wpQuiet_nil ?_
      clear q0 q1 q2 q3 q4
      unfold wpMix
      clear P HL HX HR HD HZ
      go_wp2_with fail
      go_ret
      exact ⟨by simp, HB.out⟩
    · obtain ⟨D, hD⟩ : ∃ D : Int, D = (depthT t : Int) := ⟨_, rfl⟩
      obtain ⟨Z, hZ⟩ : ∃ Z : Int, Z = wrap64 (sizeT t) := ⟨_, rfl⟩
      have HD : Hid (D = (if mayT t then (depthT t : Int) else 0)) := Lib.hid (by rw [← HX.out, hD]; simp)
      have HZ : Hid (Z = (if mayT t then wrap64 (sizeT t) else 0)) := Lib.hid (by rw [← HX.out, hZ]; simp)
      have HD1 := Lib.hid hD
      have HZ1 := Lib.hid hZ
      clear hD hZ
      go_wp2_with fail
      refine wp_region_mix [0, 2, 1, 3, 4, 5] (by kernel_rfl) (by kernel_rfl) (fun _ d _ _ _ h => by cases d <;> exact h) ?_
      simp only [atNats, List.filterMap_cons, List.filterMap_nil, List.getElem?_toArray, List.getElem?_cons_succ, List.getElem?_cons_zero]
      have P := Lib.hid P.out.drew
      have HB := Lib.hid HB.out.drew
      generalize u2.drew = u13 at *
      have q0 := cell_later (B := u13.heap.size) (w := u13) P.out.x.c0 P.out.x.lt
      have q1 := cell_later (B := u13.heap.size) (w := u13) P.out.x.c1 P.out.x.lt
      have q2 := cell_later (B := u13.heap.size) (w := u13) P.out.x.c2 P.out.x.lt
      have q3 := cell_later (B := u13.heap.size) (w := u13) P.out.x.c3 P.out.x.lt
      have q4 := cell_later (B := u13.heap.size) (w := u13) P.out.x.c4 P.out.x.lt
      first | refine mix_pure ?_ | refine mix_pureB ?_
      simp only [List.takeWhile, List.dropWhile, isPure]
      repeat (go_big_quiet_step (fail))
      refine wpQuiet_nil ?_
      clear q0 q1 q2 q3 q4
      first | refine mix_call rfl (fun K hK => ?_) | refine mix_callB rfl (fun K hK => ?_)
      go_simp
      refine (P.out.rdepth HD1.out HL.out).mono ?_
      rintro e u14 ⟨rfl, hb⟩
      refine hK _ _ hb ?_
      clear hK K
      try simp only [Act.put]
      have P := Lib.hid (P.out.call hb)
      have HB := Lib.hid (toStart HB.out hb)
      clear hb
      first | refine mix_pure ?_ | refine mix_pureB ?_
      simp only [List.takeWhile, List.dropWhile, isPure]
      repeat (go_big_quiet_step (fail))
      refine wpQuiet_nil ?_
      first | refine mix_call rfl (fun K hK => ?_) | refine mix_callB rfl (fun K hK => ?_)
      go_simp
      refine (P.out.rsize HZ1.out HX.out).mono ?_
      rintro e u15 ⟨rfl, hb⟩
      refine hK _ _ hb ?_
      clear hK K
      try simp only [Act.put]
      have P := Lib.hid (P.out.call hb)
      have HB := Lib.hid (toStart HB.out hb)
      clear hb
      first | refine mix_pure ?_ | refine mix_pureB ?_
      simp only [List.takeWhile, List.dropWhile, isPure]
      repeat (go_big_quiet_step (fail))
      refine wpQuiet_nil ?_
      unfold wpMix
      go_wp2_with fail
      refine wp_region_mix [0, 1, 2, 4, 3, 5, 6, 7, 8, 9, 11, 10, 12, 13, 14, 15, 16, 18, 17, 19, 20, 21, 22, 24, 23, 25, 26, 27, 28, 30, 29, 31, 32, 33] (by kernel_rfl) (by kernel_rfl) (fun _ d _ _ _ h => by cases d <;> exact h) ?_
      simp only [atNats, List.filterMap_cons, List.filterMap_nil, List.getElem?_toArray, List.getElem?_cons_succ, List.getElem?_cons_zero]
      have P := Lib.hid P.out.drew
      have HB := Lib.hid HB.out.drew
      generalize u15.drew = u16 at *
      first | refine mix_call rfl (fun K hK => ?_) | refine mix_callB rfl (fun K hK => ?_)
      go_simp
      refine (lives2_any _).mono ?_
      rintro e u17 ⟨rfl, hb⟩
      refine hK _ _ hb ?_
      clear hK K
      try simp only [Act.put]
      have P := Lib.hid (P.out.call hb)
      have HB := Lib.hid (toStart HB.out hb)
      clear hb
      have q0 := cell_later (B := u17.heap.size) (w := u17) P.out.x.c0 P.out.x.lt
      have q1 := cell_later (B := u17.heap.size) (w := u17) P.out.x.c1 P.out.x.lt
      have q2 := cell_later (B := u17.heap.size) (w := u17) P.out.x.c2 P.out.x.lt
      have q3 := cell_later (B := u17.heap.size) (w := u17) P.out.x.c3 P.out.x.lt
      have q4 := cell_later (B := u17.heap.size) (w := u17) P.out.x.c4 P.out.x.lt
      first | refine mix_pure ?_ | refine mix_pureB ?_
      simp only [List.takeWhile, List.dropWhile, isPure]
      repeat (go_big_quiet_step (fail))
      refine wpQuiet_nil ?_
      clear q0 q1 q2 q3 q4
      first | refine mix_call rfl (fun K hK => ?_) | refine mix_callB rfl (fun K hK => ?_)
      go_simp
      refine (P.out.vmay HX.out HL.out).mono ?_
      rintro e u18 ⟨rfl, hb⟩
      refine hK _ _ hb ?_
      clear hK K
      try simp only [Act.put]
      have P := Lib.hid (P.out.call hb)
      have HB := Lib.hid (toStart HB.out hb)
      clear hb
      first | refine mix_call rfl (fun K hK => ?_) | refine mix_callB rfl (fun K hK => ?_)
      go_simp
      refine (P.out.rmay HX.out).mono ?_
      rintro e u19 ⟨rfl, hb⟩
      refine hK _ _ hb ?_
      clear hK K
      try simp only [Act.put]
      have P := Lib.hid (P.out.call hb)
      have HB := Lib.hid (toStart HB.out hb)
      clear hb
      have q0 := cell_later (B := u19.heap.size) (w := u19) P.out.x.c0 P.out.x.lt
      have q1 := cell_later (B := u19.heap.size) (w := u19) P.out.x.c1 P.out.x.lt
      have q2 := cell_later (B := u19.heap.size) (w := u19) P.out.x.c2 P.out.x.lt
      have q3 := cell_later (B := u19.heap.size) (w := u19) P.out.x.c3 P.out.x.lt
      have q4 := cell_later (B := u19.heap.size) (w := u19) P.out.x.c4 P.out.x.lt
      first | refine mix_pure ?_ | refine mix_pureB ?_
      simp only [List.takeWhile, List.dropWhile, isPure]
      repeat (go_big_quiet_step (fail))
      refine wpQuiet_nil ?_
      clear q0 q1 q2 q3 q4
      first | refine mix_call rfl (fun K hK => ?_) | refine mix_callB rfl (fun K hK => ?_)
      go_simp
      refine (P.out.vcheck HR.out HL.out).mono ?_
      rintro e u20 ⟨rfl, hb⟩
      refine hK _ _ hb ?_
      clear hK K
      try simp only [Act.put]
      have P := Lib.hid (P.out.call hb)
      have HB := Lib.hid (toStart HB.out hb)
      clear hb
      first | refine mix_call rfl (fun K hK => ?_) | refine mix_callB rfl (fun K hK => ?_)
      go_simp
      refine (P.out.rcheck HR.out HL.out).mono ?_
      rintro e u21 ⟨rfl, hb⟩
      refine hK _ _ hb ?_
      clear hK K
      try simp only [Act.put]
      have P := Lib.hid (P.out.call hb)
      have HB := Lib.hid (toStart HB.out hb)
      clear hb
      have q0 := cell_later (B := u21.heap.size) (w := u21) P.out.x.c0 P.out.x.lt
      have q1 := cell_later (B := u21.heap.size) (w := u21) P.out.x.c1 P.out.x.lt
      have q2 := cell_later (B := u21.heap.size) (w := u21) P.out.x.c2 P.out.x.lt
      have q3 := cell_later (B := u21.heap.size) (w := u21) P.out.x.c3 P.out.x.lt
      have q4 := cell_later (B := u21.heap.size) (w := u21) P.out.x.c4 P.out.x.lt
      first | refine mix_pure ?_ | refine mix_pureB ?_
      simp only [List.takeWhile, List.dropWhile, isPure]
      repeat (go_big_quiet_step (fail))
      refine wpQuiet_nil ?_
      clear q0 q1 q2 q3 q4
      first | refine mix_call rfl (fun K hK => ?_) | refine mix_callB rfl (fun K hK => ?_)
      go_simp
      refine (P.out.vdepth HD.out HL.out).mono ?_
      rintro e u22 ⟨rfl, hb⟩
      refine hK _ _ hb ?_
      clear hK K
      try simp only [Act.put]
      have P := Lib.hid (P.out.call hb)
      have HB := Lib.hid (toStart HB.out hb)
      clear hb
      have q0 := cell_later (B := u22.heap.size) (w := u22) P.out.x.c0 P.out.x.lt
      have q1 := cell_later (B := u22.heap.size) (w := u22) P.out.x.c1 P.out.x.lt
      have q2 := cell_later (B := u22.heap.size) (w := u22) P.out.x.c2 P.out.x.lt
      have q3 := cell_later (B := u22.heap.size) (w := u22) P.out.x.c3 P.out.x.lt
      have q4 := cell_later (B := u22.heap.size) (w := u22) P.out.x.c4 P.out.x.lt
      first | refine mix_pure ?_ | refine mix_pureB ?_
      simp only [List.takeWhile, List.dropWhile, isPure]
      repeat (go_big_quiet_step (fail))
      refine wpQuiet_nil ?_
      clear q0 q1 q2 q3 q4
      first | refine mix_call rfl (fun K hK => ?_) | refine mix_callB rfl (fun K hK => ?_)
      go_simp
      refine (P.out.vsize HZ.out HL.out).mono ?_
      rintro e u23 ⟨rfl, hb⟩
      refine hK _ _ hb ?_
      clear hK K
      try simp only [Act.put]
      have P := Lib.hid (P.out.call hb)
      have HB := Lib.hid (toStart HB.out hb)
      clear hb
      have q0 := cell_later (B := u23.heap.size) (w := u23) P.out.x.c0 P.out.x.lt
      have q1 := cell_later (B := u23.heap.size) (w := u23) P.out.x.c1 P.out.x.lt
      have q2 := cell_later (B := u23.heap.size) (w := u23) P.out.x.c2 P.out.x.lt
      have q3 := cell_later (B := u23.heap.size) (w := u23) P.out.x.c3 P.out.x.lt
      have q4 := cell_later (B := u23.heap.size) (w := u23) P.out.x.c4 P.out.x.lt
      first | refine mix_pure ?_ | refine mix_pureB ?_
      simp only [List.takeWhile, List.dropWhile, isPure]
      repeat (go_big_quiet_step (fail))
      refine wpQuiet_nil ?_
      clear q0 q1 q2 q3 q4
      first | refine mix_call rfl (fun K hK => ?_) | refine mix_callB rfl (fun K hK => ?_)
      go_simp
      refine (P.out.vclone).mono ?_
      rintro e u24 ⟨⟨vc, rfl, hc⟩, hb⟩
      refine hK _ _ hb ?_
      clear hK K
      try simp only [Act.put]
      have P := Lib.hid (P.out.call hb)
      have HB := Lib.hid (toStart HB.out hb)
      clear hb
      have HC := Lib.hid hc
      clear hc
      first | refine mix_call rfl (fun K hK => ?_) | refine mix_callB rfl (fun K hK => ?_)
      go_simp
      refine (P.out.rsameC _ HC.out).mono ?_
      rintro e u25 ⟨rfl, hb⟩
      refine hK _ _ hb ?_
      clear hK K
      try simp only [Act.put]
      have P := Lib.hid (P.out.call hb)
      have HB := Lib.hid (toStart HB.out hb)
      clear hb
      clear HC
      have q0 := cell_later (B := u25.heap.size) (w := u25) P.out.x.c0 P.out.x.lt
      have q1 := cell_later (B := u25.heap.size) (w := u25) P.out.x.c1 P.out.x.lt
      have q2 := cell_later (B := u25.heap.size) (w := u25) P.out.x.c2 P.out.x.lt
      have q3 := cell_later (B := u25.heap.size) (w := u25) P.out.x.c3 P.out.x.lt
      have q4 := cell_later (B := u25.heap.size) (w := u25) P.out.x.c4 P.out.x.lt
      first | refine mix_pure ?_ | refine mix_pureB ?_
      simp only [List.takeWhile, List.dropWhile, isPure]
      repeat (go_big_quiet_step (fail))
      refine wpQuiet_nil ?_
      clear q0 q1 q2 q3 q4
      unfold wpMix
      clear P HL HX HR HD HZ
      go_wp2_with fail
      go_ret
      exact ⟨by simp, HB.out⟩
  · go_wp2_with fail
    refine (lives2_any _).mono ?_
    rintro e v9 ⟨rfl, hb⟩
    have HF := Lib.hid (toStart HB.out hb)
    clear hb
    go_wp2_with fail
    go_ret
    exact ⟨rfl, HF.out⟩

set_option maxRecDepth 100000 in
theorem lifted (os : Os) (started : os.Started) (H : Type) (enc : TypeId × Value → H) :
    ReturnsInHanded {} Try.checked os 8 .any (Rows.valueChecksSpec.pre6 enc Try.prog Try.f8 Rows.valueChecksRow.domain false) (Rows.valueChecksSpec.post enc Try.prog Try.f8 false true false false) := by
  refine returnsInHanded_of_change_sized (C := Try.checked) own started (by kernel_rfl) Try.func8
    (ChangeSpec.witness6 (enc := enc) (C := Try.checked) false ⟨#[], #[.agg #[.int .i64 0, .int .i64 0, .string ByteArray.empty, .slice none 0 0, .slice none 0 0]], []⟩ 8 (by kernel_rfl) (by kernel_rfl) (by kernel_rfl) (by kernel_rfl)) ?_
  intro W base args ds gs before hval0 hW hcnd hsz0 _
  have hval : ∀ (j : Nat) t v, Try.f8.params[j]? = some t → args[j]? = some v → Value.okWide Try.prog W .any base t v := hval0
  have hsz : (DataW.weightsEach Try.prog (Try.f8.params.toList ++ Rows.valueChecksSpec.plain.varTypes Try.prog) (ds ++ gs)).all (· ≤ reachBytes) = true := hsz0
  have hW' := hW
  obtain ⟨p, q, hA0, hV, rfl, hfz, hnd⟩ := hW
  have hA : DataW.TrodAll enc Try.prog W 0 (fun _ => true) true Try.f8.params.toList args.toList ds p := hA0
  rw [Try.params8] at hA hval hsz
  obtain ⟨v0, d0, rfl, rfl, h0⟩ := trodAll_one hA
  obtain ⟨rfl, rfl⟩ := trodVars_none hV
  obtain ⟨a0, rfl, -⟩ := okWide_struct Try.underlying49 (hval 0 49 v0 rfl rfl)
  have k0 := h0
  have lt0 : ∀ x ∈ p, x.block < W.heap.size := by obtain ⟨m, hm⟩ := k0; exact DataW.trod_lt m _ _ _ hm
  have wt0 : ∀ n ∈ d0.weights Try.prog 49, n ≤ reachBytes := fun n hn => by have := List.all_eq_true.1 hsz n (DataW.weights_mem_each (j := 0) rfl rfl n hn); simpa using this
  clear hA0 hval0
  obtain ⟨t0, ht0⟩ : ∃ t, LV W (fun b => b < W.heap.size) t (.agg a0) := by
    obtain ⟨m, hm⟩ := k0
    have h3 := open_val m _ _ hm wt0
    simpa [Value.cells] using h3
  refine (walk t0 _ W _ (fun _ h => h) ht0).mono fun e W' ⟨he, bel⟩ => ?_
  subst he
  exact ⟨_, rfl, _, _, _, [], _, [], hW', trodAll_mk1 (shut_bool Try.underlying4 _), trodAll_mk1 (Below.trod laidOut (by kernel_rfl) (of_decide_eq_true (by kernel_rfl)) k0 bel lt0), rfl, bel.frame _, fun h => by cases h⟩

/-- The statement. -/
theorem proved : Rows.ValueChecksSaid :=
  OpenClaim.holds_of_wide 8 Try.f8 rfl rfl rfl rfl rfl rfl rfl ⟨rfl, rfl, rfl, rfl, rfl⟩ rfl rfl rfl rfl rfl (by kernel_rfl) Try.func8 (by kernel_rfl)
    (of_decide_eq_true (by kernel_rfl)) (by unfold Func.isWrapper; first | (rw [if_pos (by decide +kernel)]; kernel_rfl) | (rw [if_neg (by decide +kernel)]; exact ⟨rfl, rfl⟩))
    (fun os started H enc _ => lifted os started H enc)
end Go.Proofs.Yteakkbgfkcknlaa.Checks
