/- A slice of texts that came in, read. -/
import Derived.Test.YtipiplnhbecjeaaKMath
import Derived.Deep.Slices
import Derived.SliceStrings
import Derived.SizedLaws
import Derived.Lib.SmallJoins
namespace Go.Proofs.Ytipiplnhbecjeaa
set_option linter.unusedVariables false
set_option linter.unusedSimpArgs false
open Go.ChangeShapes Go.WideShapes Go.RowKit Go.Joins Go.Deep

theorem cellsStr : Try.prog.cellsOf 9 = 1 := by kernel_rfl
theorem bytesStr : Try.prog.bytesOf 9 = 16 := by kernel_rfl
section
variable {H : Type} {enc : TypeId × Value → H} {W : World} {sp : Nat → Bool}

theorem mem_weightsAll {P : Program} {e : TypeId} : ∀ {l : List (DataW H)} {d : DataW H}, d ∈ l → ∀ n ∈ d.weights P e, n ∈ DataW.weightsAll P e l
  | a :: r, d, hd, n, hn => by
    unfold DataW.weightsAll
    rw [List.mem_append]
    rcases List.mem_cons.1 hd with rfl | hd
    · exact .inl hn
    · exact .inr (mem_weightsAll hd n hn)

/-- Texts of a slice. -/
theorem open_names2 {fuel : Nat} {cs : List Value} {x : DataW H × List MemPlace} (h : DataW.trod enc Try.prog W 0 sp true fuel 22 cs = some x) (hw : ∀ n ∈ x.1.weights Try.prog 22, n ≤ reachBytes) :
    ∃ A c, ∃ ns : List ByteArray, cs = [.slice A ns.length c] ∧ ns.length ≤ c ∧ (A = none → c = 0) ∧ ns.length ≤ 8796093021952 ∧ StrsAt W (fun b => b < W.heap.size) A ns := by
  rcases open_strings Try.underlying22 Try.underlying9 cellsStr h with ⟨rfl, _⟩ | ⟨a, len, cap, ss, rfl, -, hl, hm, hsl, hx, hc, hs⟩
  · exact ⟨none, 0, [], rfl, by simp, fun _ => rfl, by simp, fun h => absurd h (by simp)⟩
  · have hle : len ≤ ss.length := by rw [hsl]; split <;> omega
    have hlen : (ss.take len).length = len := by simp; omega
    have hws := hw
    rw [hx] at hws
    simp only [DataW.weights, Try.underlying22] at hws
    have h1 : len ≤ 8796093021952 := by
      have h1 := hws _ (List.mem_cons_self ..)
      rw [bytesStr] at h1
      simp only [strs, List.length_map, hlen, reachBytes] at h1
      omega
    refine ⟨some a, cap, ss.take len, by rw [hlen], by rw [hlen]; exact hl, (fun h => by cases h), by rw [hlen]; exact h1, fun hp => ?_⟩
    rw [hlen] at hp
    obtain ⟨b, off, spot⟩ := a
    have h0 := hc 0 (by omega)
    obtain rfl : spot = none := by simpa [Addr.add] using World.cell?_spot h0
    refine ⟨b, off, rfl, ?_, fun i hi => ?_⟩
    · rw [add_at] at h0; exact World.block_lt_of_cell? W _ h0
    · rw [hlen] at hi
      have hi2 : i < ss.length := by omega
      have h2 := hc i hi2
      rw [add_at] at h2
      refine ⟨?_, ?_⟩
      · rw [h2]; simp [List.getD, List.getElem?_eq_getElem hi2]
      · have hmem : ((.lit (.string ((ss.take len)[i]'(by omega)).data.toList) : DataW H)) ∈ strs (H := H) (ss.take len) := by
          unfold strs
          exact List.mem_map.2 ⟨_, List.getElem_mem _, rfl⟩
        have h3 := hws ((ss.take len)[i]'(by omega)).data.toList.length (List.mem_cons_of_mem _ (List.mem_append_left _ (mem_weightsAll hmem _ (by simp [DataW.weights]))))
        simpa [reachBytes] using h3

theorem open_names {fuel : Nat} {cs : List Value} {x : DataW H × List MemPlace} (h : DataW.trod enc Try.prog W 0 sp true fuel 22 cs = some x) (hw : ∀ n ∈ x.1.weights Try.prog 22, n ≤ reachBytes) :
    ∃ A c, ∃ ns : List ByteArray, cs = [.slice A ns.length c] ∧ ns.length ≤ 8796093021952 ∧ StrsAt W (fun b => b < W.heap.size) A ns := by
  obtain ⟨A, c, ns, h1, -, -, h2, h3⟩ := open_names2 h hw
  exact ⟨A, c, ns, h1, h2, h3⟩
end
end Go.Proofs.Ytipiplnhbecjeaa
