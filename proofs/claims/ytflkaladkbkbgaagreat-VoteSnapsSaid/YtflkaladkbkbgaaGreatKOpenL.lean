/- Rows of bytes that came in. -/
import Derived.Test.YtflkaladkbkbgaaGreatKOpenB
import Derived.Test.YtflkaladkbkbgaaGreatKFrmA
namespace Go.Proofs.YtflkaladkbkbgaaGreat.OpenB
set_option linter.unusedVariables false
set_option linter.unusedSimpArgs false
open Go.ChangeShapes Go.WideShapes Go.ChangeAt Go.RowKit Go.Joins Go.Deep
set_option linter.unusedVariables false
section
variable {H : Type} {enc : TypeId × Value → H} {W : World} {sp : Nat → Bool}
theorem cellsBs : Tryz.prog.cellsOf 33 = 1 := by kernel_rfl
theorem open_bss {fuel : Nat} {cs : List Value} {x : DataW H × List MemPlace} (h : DataW.trod enc Tryz.prog W 0 sp true fuel 39 cs = some x) :
    ∃ A c, ∃ ls : List (List UInt8), cs = [.slice A ls.length c] ∧ ls.length ≤ c ∧ c ≤ maxLen ∧ (A = none → c = 0) ∧ BssAt W W.heap.size A ls := by
  rcases DataW.trod_slice Tryz.underlying39 h with ⟨e3, -⟩ | ⟨a, len, cap, elems, rest, m, hm, e3, x3, -, hlc, hmx, hel, hat, -, -⟩
  · exact ⟨none, 0, [], e3, by simp, by decide, fun _ => rfl, fun h => absurd h (by simp)⟩
  · have hT : ∀ j, ∃ l : List UInt8, j < len → ∃ v, W.cell? (a.add j) = some v ∧ Rd W W.heap.size v l := by
      intro j
      by_cases hj : j < len
      · have h1 := hat j hj
        rw [cellsBs, List.getElem?_eq_getElem (by omega), Nat.mul_one] at h1
        obtain ⟨cs', hc, ht⟩ := Option.bind_eq_some_iff.1 h1
        obtain ⟨-, hcl, hcat⟩ := World.cells?_some hc
        match cs', hcl with
        | [u], _ =>
          have hu : W.cell? (a.add j) = some u := by simpa [Addr.add] using hcat 0 (by omega)
          rcases DataW.trod_slice Tryz.underlying33 ht with ⟨e4, -⟩ | ⟨a4, len4, cap4, _, _, _, _, e4, -⟩
          · simp only [List.cons.injEq, and_true] at e4
            subst e4
            obtain ⟨⟨l, hl, hr⟩, -⟩ := open_bytes ht
            exact ⟨l, fun _ => ⟨_, hu, by rw [← hl] at hr; exact hr⟩⟩
          · simp only [List.cons.injEq, and_true] at e4
            subst e4
            obtain ⟨⟨l, hl, hr⟩, -⟩ := open_bytes ht
            exact ⟨l, fun _ => ⟨_, hu, by rw [← hl] at hr; exact hr⟩⟩
      · exact ⟨[], fun h => absurd h hj⟩
    obtain ⟨T, hT⟩ := Classical.skolem.1 hT
    have hlm : ((List.range len).map T).length = len := by simp
    refine ⟨some a, cap, (List.range len).map T, by rw [hlm]; exact e3, by rw [hlm]; exact hlc, hmx, (fun h => by cases h), fun hp => ?_⟩
    rw [hlm] at hp
    obtain ⟨b, off, spot⟩ := a
    obtain ⟨v, h0, -⟩ := hT 0 hp
    obtain rfl : spot = none := by simpa [Addr.add] using World.cell?_spot h0
    refine ⟨b, off, rfl, ?_, fun j hj => ?_⟩
    · rw [add_at] at h0; exact World.block_lt_of_cell? W _ h0
    · rw [hlm] at hj
      obtain ⟨v, h0, hr⟩ := hT j hj
      rw [add_at] at h0
      exact ⟨v, h0, by simpa using hr⟩
end
end Go.Proofs.YtflkaladkbkbgaaGreat.OpenB
