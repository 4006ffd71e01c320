/- What is said where there is no disk. -/
import Derived.Test.YtflkaladkbkbgaaGreatKFlP
namespace Go.Proofs.YtflkaladkbkbgaaGreat
set_option linter.unusedVariables false
set_option linter.unusedSimpArgs false
open Go.RowKit Go.Maps
set_option maxRecDepth 100000
/-- One number; nothing that was there has changed. -/
def Says (w : World) (r : Int) (e : Ending) (w' : World) : Prop := e = .returned (.int .i64 r) ∧ Below w.heap.size w w'
set_option maxHeartbeats 2000000 in
theorem open_nil0 (s : ByteArray) (w : World) : Calls Tryz.prog 52 #[.pointer none, .string s, .slice none 0 0] w fun e w' => e = .returned (.tuple #[.pointer none, .int .i64 6]) ∧ Below w.heap.size w w' := by
  go_enter Tryz.func52, Tryz.ntmps52
  go_wp2_with (at_builtin; go_must (refine app_names_one rfl _ _ rfl rfl _ _ s rfl ?_ ?_))
  · exact Go.Joins.cell_of_block (heap_alloc_new w (.cells #[.string s] 9)) 0
  · intro g cap w2 hc2 hg2 hb2
    have HB := Lib.hid (((Below.refl w.heap.size w).alloc (Nat.le_refl _) (.cells #[.string s] 9)).trans (hb2.mono (by simp)))
    clear hb2 hg2 hc2
    go_wp2_with fail
    refine (refusal_nil _ _).mono ?_
    rintro e u ⟨rfl, rfl⟩
    go_wp2_with fail
    go_ret2
    exact ⟨rfl, HB.out⟩
set_option maxHeartbeats 2000000 in
theorem open_nil1 (s t : ByteArray) (b c : Nat) (w : World) (hb : w.heap[b]? = some (.cells #[.string t] 9 (0, 0))) (hc : c = 1) : Calls Tryz.prog 52 #[.pointer none, .string s, .slice (some ⟨b, 0, none⟩) 1 c] w fun e w' => e = .returned (.tuple #[.pointer none, .int .i64 6]) ∧ ∃ w0, w0 = w ∧ w.os = w'.os ∧ w.tape = w'.tape ∧ w.output = w'.output ∧ w.heap.size ≤ w'.heap.size ∧ ∀ k, k < w.heap.size → k ≠ b → w'.heap[k]? = w.heap[k]? := by
  subst hc
  obtain ⟨i0, hi, hz0, hz1, hz2⟩ := info_parts Tryz.infoSF
  have hown : w.ownsRow 0 9 1 (.slice (some ⟨b, 0, none⟩) 1 1) 1 [.string t] := ⟨rfl, .inr ⟨b, 1, _, rfl, Nat.zero_le _, hb, Nat.le_refl _, by decide, rfl, rfl⟩⟩
  have hbl : b < w.heap.size := (Array.getElem?_eq_some_iff.1 hb).1
  have h1 := World.ownsRow.kept hown (World.grownBy_alloc w (.cells #[.string s] 9) none) (by simp [Value.ownBlock])
  go_enter Tryz.func52, Tryz.ntmps52
  go_wp2_with (at_builtin; go_must (refine wpList_append_own _ rfl _ _ 60 rfl 0 9 i0 (.string ⟨#[]⟩) 1 16 Tryz.underlying60 hi hz0 hz1 hz2 rfl (by decide) _ 1 [.string t] rfl h1 ⟨w.heap.size, 0, none⟩ 1 1 [.string s] rfl rfl ?_ (fun u hu => by simp at hu; subst hu; rfl) (by unfold maxLen; omega) (by omega) (Nat.zero_le _) ?_))
  · intro j u hj
    have : j = 0 := by have := (List.getElem?_eq_some_iff.1 hj).1; simp at this; omega
    subst this
    simp at hj
    subst hj
    rw [addr_addY]
    exact Go.Joins.cell_of_block (heap_alloc_new w (.cells #[.string s] 9)) 0
  · intro v' w2 hv2 hg2 _
    have HB : Hid (w.os = w2.os ∧ w.tape = w2.tape ∧ w.output = w2.output ∧ w.heap.size ≤ w2.heap.size ∧ ∀ k, k < w.heap.size → k ≠ b → w2.heap[k]? = w.heap[k]?) := Lib.hid ⟨hg2.os.symm, hg2.tape.symm, hg2.output.symm, by have := hg2.size; simp at this; omega, fun k hk hn => (hg2.block k (by simp; omega) (fun e => hn (by simpa [Value.ownBlock] using e))).trans (Below.heap_alloc w _ k hk)⟩
    clear hv2 hg2 hown h1
    go_wp2_with fail
    refine (refusal_nil _ _).mono ?_
    rintro e u ⟨rfl, rfl⟩
    go_wp2_with fail
    go_ret2
    exact ⟨rfl, w, rfl, HB.out⟩
set_option maxHeartbeats 2000000 in
theorem read_nil (s : ByteArray) (w : World) : Calls Tryz.prog 34 #[.pointer none, .string s] w fun e w' => e = .returned (.tuple #[.slice none 0 0, .int .i64 6]) ∧ Below w.heap.size w w' := by
  go_enter Tryz.func34, Tryz.ntmps34
  go_wp2_with fail
  refine (open_nil0 s w).mono ?_
  rintro e w1 ⟨rfl, hb1⟩
  have HB := Lib.hid hb1
  clear hb1
  go_wp2_with fail
  go_ret2
  exact ⟨rfl, HB.out⟩
set_option maxHeartbeats 2000000 in
theorem append_nil (s : ByteArray) (A : Option Addr) (n c : Nat) (w : World) : Calls Tryz.prog 71 #[.pointer none, .string s, .slice A n c] w (Says w 6) := by
  obtain ⟨W4, hW4, hb0, hz4, b0, b1, b2, b3⟩ := four_new w (.cells #[.pointer none] 24) (.cells #[.string s] 9) (.cells #[.slice A n c] 33) (.cells #[.string s] 9)
  have HB := Lib.hid hb0
  have HW := Lib.hid hW4
  clear hb0 hz4 b0 b1 b2 b3 hW4
  go_enter Tryz.func71, Tryz.ntmps71
  go_wp2_with fail
  rw [← HW.out]
  refine (refusal_nil _ _).mono ?_
  rintro e u ⟨rfl, rfl⟩
  go_wp2_with fail
  go_ret
  exact ⟨rfl, HB.out⟩
set_option maxHeartbeats 2000000 in
theorem sync_nil (s : ByteArray) (w : World) : Calls Tryz.prog 72 #[.pointer none, .string s] w (Says w 6) := by
  go_enter Tryz.func72, Tryz.ntmps72
  go_wp2_with fail
  refine (open_nil0 s w).mono ?_
  rintro e w1 ⟨rfl, hb1⟩
  have HB : Hid (Below w.heap.size w (w1.alloc (.cells #[.pointer none] 69))) := Lib.hid (hb1.alloc hb1.size _)
  clear hb1
  go_wp2_with fail
  go_ret
  exact ⟨rfl, HB.out⟩
set_option maxHeartbeats 2000000 in
theorem cut_nil (s : ByteArray) (n : Int) (w : World) : Calls Tryz.prog 84 #[.pointer none, .string s, .int .i64 n] w (Says w 6) := by
  go_enter Tryz.func84, Tryz.ntmps84
  go_wp2_with fail
  refine (open_nil0 s _).mono ?_
  rintro e w1 ⟨rfl, hb1⟩
  have hb0 : Below w.heap.size w w1 := ((Below.refl w.heap.size w).alloc (Nat.le_refl _) (.cells #[.int .i64 n] 3)).trans (hb1.mono (by simp))
  have HB : Hid (Below w.heap.size w (w1.alloc (.cells #[.pointer none] 69))) := Lib.hid (hb0.alloc hb0.size _)
  clear hb1 hb0
  go_wp2_with fail
  go_ret
  exact ⟨rfl, HB.out⟩
set_option maxHeartbeats 2000000 in
theorem remove_nil (s : ByteArray) (w : World) : Calls Tryz.prog 36 #[.pointer none, .string s] w (Says w 6) := by
  go_enter Tryz.func36, Tryz.ntmps36
  go_wp2_with fail
  refine (open_nil0 s _).mono ?_
  rintro e w1 ⟨rfl, hb1⟩
  have HB : Hid (Below w.heap.size w w1) := Lib.hid ((((Below.refl w.heap.size w).alloc (Nat.le_refl _) (.cells #[.pointer none] 24)).alloc (by simp) (.cells #[.string s] 9)).trans (hb1.mono (by simp; omega)))
  clear hb1
  go_wp2_with fail
  go_ret
  exact ⟨rfl, HB.out⟩
set_option maxHeartbeats 2000000 in
theorem rename_nil (s t : ByteArray) (w : World) : Calls Tryz.prog 78 #[.pointer none, .string s, .string t] w (Says w 6) := by
  go_enter Tryz.func78, Tryz.ntmps78
  go_wp2_with fail
  obtain ⟨W4, hW4, hb0, hz4, b0, b1, b2, b3⟩ := four_new w (.cells #[.pointer none] 24) (.cells #[.string s] 9) (.cells #[.string t] 9) (.cells #[.string t] 9)
  rw [← hW4]
  refine (open_nil1 s t (w.heap.size + 3) 1 _ b3 rfl).mono ?_
  rintro e w1 ⟨rfl, w0, -, ho, ht, hu, hz, hk⟩
  have hb1 : Below w.heap.size w w1 := ⟨ho.symm.trans hb0.os, ht.symm.trans hb0.tape, hu.symm.trans hb0.output, by omega, fun i hi => (hk i (by omega) (by omega)).trans (hb0.block i hi)⟩
  have HB : Hid (Below w.heap.size w (w1.alloc (.cells #[.pointer none] 69))) := Lib.hid (hb1.alloc hb1.size _)
  clear hb1 hb0 hW4 hz4 b0 b1 b2 b3 ho ht hu hz hk
  go_wp2_with fail
  go_ret
  exact ⟨rfl, HB.out⟩
set_option maxHeartbeats 2000000 in
theorem names_nil (w : World) : Calls Tryz.prog 22 #[.pointer none] w fun e w' => e = .returned (.slice none 0 0) ∧ w' = w := by
  go_enter Tryz.func22, Tryz.ntmps22
  go_wp2_with fail
  refine (made_nil w).mono ?_
  rintro e u ⟨rfl, rfl⟩
  go_wp2_with fail
  go_ret
  exact ⟨rfl, rfl⟩
set_option maxHeartbeats 2000000 in
theorem stop_nil (n t : Int) (w : World) : Calls Tryz.prog 10 #[.pointer none, .int .i64 n, .int .i64 t] w fun e w' => e = .returned (.int .i64 6) ∧ w' = w := by
  go_enter Tryz.func10, Tryz.ntmps10
  go_wp2_with fail
  refine (refusal_nil _ _).mono ?_
  rintro e u ⟨rfl, rfl⟩
  go_wp2_with fail
  go_ret
  exact ⟨rfl, rfl⟩
set_option maxHeartbeats 2000000 in
theorem crash_nil (v : Value) (w : World) : Calls Tryz.prog 12 #[.pointer none, v] w fun e w' => e = .returned (.int .i64 6) ∧ w' = w := by
  go_enter Tryz.func12, Tryz.ntmps12
  go_wp2_with fail
  refine (made_nil w).mono ?_
  rintro e u ⟨rfl, rfl⟩
  go_wp2_with fail
  go_ret
  exact ⟨rfl, rfl⟩
end Go.Proofs.YtflkaladkbkbgaaGreat
