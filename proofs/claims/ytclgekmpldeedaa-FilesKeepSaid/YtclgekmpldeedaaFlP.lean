/- How many bytes a file has; another disk that is the same; what is said where there is no disk. -/
import Derived.Test.YtclgekmpldeedaaFlO
namespace Go.Proofs.Ytclgekmpldeedaa
set_option linter.unusedVariables false
set_option linter.unusedSimpArgs false
open Go.RowKit Go.Maps
set_option maxRecDepth 100000
section
variable {w : World} {Ft : Nat → Prop} {d m : Nat} {gs : List UInt8 → Option Nat} {rv : List UInt8 → Value} {D : DataW Unit} {M : DiskM}
set_option maxHeartbeats 4000000 in
theorem size_any (h : DAt w Ft d M) (s : ByteArray) (hs : s.size ≤ maxLen) : Calls Try.prog 14 #[.pointer (some ⟨d, 0, none⟩), .string s] w fun e w' => e = .returned (.tuple #[.int .i64 ((M.file s.data.toList).b.length : Int), .int .i64 ((M.file s.data.toList).sure : Int)]) ∧ Below w.heap.size w w' := by
  obtain ⟨hlt, m, gs, rv, D, h⟩ := h
  have hl := h.look s hs
  have c0 := h.c0
  have HM := Lib.hid (made_any h)
  have HD := Lib.hid h
  obtain ⟨F, hF⟩ : ∃ F, F = M.file s.data.toList := ⟨_, rfl⟩
  have HF := Lib.hid hF
  rw [← hF]
  clear h hF
  cases hgs : gs s.data.toList with
  | none =>
    rw [hgs] at hl
    have hl' : (Instr.lookup 46 (.map (some m)) (.string s) false).run Try.prog w = .ok (.pointer none) w := hl
    have hf : F = ⟨[], 0⟩ := by
      rw [HF.out]; unfold DiskM.file
      have hok := HD.out.ok s.data.toList
      rw [hgs] at hok
      cases hf : M.fs s.data.toList with
      | none => rfl
      | some f => rw [hf] at hok; cases hok
    have HFF := Lib.hid hf
    clear hl hgs hf
    go_enter Try.func14, Try.ntmps14
    go_wp2_with fail
    refine HM.out.mono ?_
    rintro e u ⟨rfl, rfl⟩
    go_wp2_with fail
    go_ret2
    exact ⟨by rw [HFF.out]; rfl, Below.refl _ _⟩
  | some g =>
    rw [hgs] at hl
    have hl' : (Instr.lookup 46 (.map (some m)) (.string s) false).run Try.prog w = .ok (.pointer (some ⟨g, 0, none⟩)) w := hl
    obtain ⟨f, hf, hFa⟩ := HD.out.ex hgs
    have hff : F = f := by rw [HF.out]; unfold DiskM.file; rw [hf]; rfl
    subst hff
    obtain ⟨A2, c2, hrv⟩ := hFa.own.rdY.shapeY
    have q1 := hFa.c0
    rw [hrv] at q1
    have q1 := cell_row (row := none) (w := w.drew) (b := g) (o := 0) q1 (by simp)
    have q2 := cell_row (row := none) (w := w.drew) (b := g) (o := 1) hFa.c1 (by simp)
    have HB : Hid (Below w.heap.size w w.drew) := Lib.hid (Below.refl _ _).drew
    obtain ⟨n2, hn2⟩ : ∃ x, x = F.b.length := ⟨_, rfl⟩
    rw [← hn2] at q1 ⊢
    clear hl hgs hf hFa hrv hn2
    go_enter Try.func14, Try.ntmps14
    go_wp2_with fail
    refine HM.out.mono ?_
    rintro e u ⟨rfl, rfl⟩
    go_wp2_with fail
    refine wp_region_OT (RowR none) (RowR.refl _) (RowR.trans _) [] (.pure [0, 1, 2, 3, 4, 5, 6, 7, 8, 9, 10] (.tail [])) (by kernel_rfl) (by kernel_rfl) (fun _ d _ _ _ h => by cases d <;> exact h) ?_
    generalize u.drew = w0 at *
    refine ot_pure ?_
    simp only [atNats, List.filterMap_cons, List.filterMap_nil, List.getElem?_toArray, List.getElem?_cons_succ, List.getElem?_cons_zero]
    show wpQuiet _ _ _ _ [_, _, _, _, _, _, _, _, _, _, _] _
    try simp only [List.getElem_toArray, List.getElem_cons_succ, List.getElem_cons_zero, Act.put, List.setIfInBounds_toArray, List.set_cons_succ, List.set_cons_zero] at *
    repeat (go_big_quiet_step (fail))
    refine wpQuiet_nil ?_
    clear q1 q2
    refine ot_end ?_
    go_wp2_with fail
    go_ret2
    exact ⟨rfl, HB.out⟩
end
end Go.Proofs.Ytclgekmpldeedaa
