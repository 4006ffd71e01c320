/- A slice of texts that came in, read. -/
import Derived.Test.YtipiplnhbecjeaaGreatKMath
import Derived.Test.YtipiplnhbecjeaaGreatKRefA
import Derived.Deep.Slices
import Derived.SliceStrings
import Derived.SizedLaws
import Derived.Lib.SmallJoins
import Derived.ProofKit
import Derived.OpenShut
import Derived.ChangeOld
namespace Go.Proofs.YtipiplnhbecjeaaGreat
set_option linter.unusedVariables false
set_option linter.unusedSimpArgs false
open Go.ChangeShapes Go.WideShapes Go.RowKit Go.Joins Go.Deep

theorem cellsStr : Tryz.prog.cellsOf 9 = 1 := by kernel_rfl
theorem bytesStr : Tryz.prog.bytesOf 9 = 16 := by kernel_rfl
section
variable {H : Type} {enc : TypeId × Value → H} {W : World} {sp : Nat → Bool}

theorem mem_weightsAll {P : Program} {e : TypeId} : ∀ {l : List (DataW H)} {d : DataW H}, d ∈ l → ∀ n ∈ d.weights P e, n ∈ DataW.weightsAll P e l
  | a :: r, d, hd, n, hn => by
    unfold DataW.weightsAll
    rw [List.mem_append]
    rcases List.mem_cons.1 hd with rfl | hd
    · exact .inl hn
    · exact .inr (mem_weightsAll hd n hn)

/-- Texts of a slice. -/
theorem open_names2 {fuel : Nat} {cs : List Value} {x : DataW H × List MemPlace} (h : DataW.trod enc Tryz.prog W 0 sp true fuel 23 cs = some x) (hw : ∀ n ∈ x.1.weights Tryz.prog 23, n ≤ reachBytes) :
    ∃ A c, ∃ ns : List ByteArray, cs = [.slice A ns.length c] ∧ ns.length ≤ c ∧ (A = none → c = 0) ∧ ns.length ≤ 8796093021952 ∧ StrsAt W (fun b => b < W.heap.size) A ns := by
  rcases open_strings Tryz.underlying23 Tryz.underlying9 cellsStr h with ⟨rfl, _⟩ | ⟨a, len, cap, ss, rfl, -, hl, hm, hsl, hx, hc, hs⟩
  · exact ⟨none, 0, [], rfl, by simp, fun _ => rfl, by simp, fun h => absurd h (by simp)⟩
  · have hle : len ≤ ss.length := by rw [hsl]; split <;> omega
    have hlen : (ss.take len).length = len := by simp; omega
    have hws := hw
    rw [hx] at hws
    simp only [DataW.weights, Tryz.underlying23] at hws
    have h1 : len ≤ 8796093021952 := by
      have h1 := hws _ (List.mem_cons_self ..)
      rw [bytesStr] at h1
      simp only [strs, List.length_map, hlen, reachBytes] at h1
      omega
    refine ⟨some a, cap, ss.take len, by rw [hlen], by rw [hlen]; exact hl, (fun h => by cases h), by rw [hlen]; exact h1, fun hp => ?_⟩
    rw [hlen] at hp
    obtain ⟨b, off, spot⟩ := a
    have h0 := hc 0 (by omega)
    obtain rfl : spot = none := by simpa [Addr.add] using World.cell?_spot h0
    refine ⟨b, off, rfl, ?_, fun i hi => ?_⟩
    · rw [add_at] at h0; exact World.block_lt_of_cell? W _ h0
    · rw [hlen] at hi
      have hi2 : i < ss.length := by omega
      have h2 := hc i hi2
      rw [add_at] at h2
      refine ⟨?_, ?_⟩
      · rw [h2]; simp [List.getD, List.getElem?_eq_getElem hi2]
      · have hmem : ((.lit (.string ((ss.take len)[i]'(by omega)).data.toList) : DataW H)) ∈ strs (H := H) (ss.take len) := by
          unfold strs
          exact List.mem_map.2 ⟨_, List.getElem_mem _, rfl⟩
        have h3 := hws ((ss.take len)[i]'(by omega)).data.toList.length (List.mem_cons_of_mem _ (List.mem_append_left _ (mem_weightsAll hmem _ (by simp [DataW.weights]))))
        simpa [reachBytes] using h3

theorem open_names {fuel : Nat} {cs : List Value} {x : DataW H × List MemPlace} (h : DataW.trod enc Tryz.prog W 0 sp true fuel 23 cs = some x) (hw : ∀ n ∈ x.1.weights Tryz.prog 23, n ≤ reachBytes) :
    ∃ A c, ∃ ns : List ByteArray, cs = [.slice A ns.length c] ∧ ns.length ≤ 8796093021952 ∧ StrsAt W (fun b => b < W.heap.size) A ns := by
  obtain ⟨A, c, ns, h1, -, -, h2, h3⟩ := open_names2 h hw
  exact ⟨A, c, ns, h1, h2, h3⟩
end
end Go.Proofs.YtipiplnhbecjeaaGreat

/- Bytes that came in. -/
namespace Go.Proofs.YtipiplnhbecjeaaGreat.OpenB
set_option linter.unusedVariables false
set_option linter.unusedSimpArgs false
open Go.ChangeShapes Go.WideShapes Go.ChangeAt Go.RowKit Go.Joins Go.Deep
set_option linter.unusedVariables false
section
variable {H : Type} {enc : TypeId × Value → H} {W : World} {sp : Nat → Bool}
theorem add_at (b off i : Nat) : ((⟨b, off, none⟩ : Addr).add i) = ⟨b, off + i, none⟩ := by
  unfold Addr.add
  split
  · next h => simp [h]
  · rfl

theorem open_bytes {fuel : Nat} {A : Option Addr} {len cap : Nat} {x : DataW H × List MemPlace} (h : DataW.trod enc Tryz.prog W 0 sp true fuel 39 [.slice A len cap] = some x) :
    (∃ l : List UInt8, len = l.length ∧ Rd W W.heap.size (.slice A l.length cap) l) ∧ (len = 0 ∨ ∃ es rs, x.1 = .slice es rs ∧ es.length = len) := by
  rcases open_ints Tryz.underlying39 Tryz.underlying5 (by kernel_rfl) h with ⟨hcs, _⟩ | ⟨a, len', cap', zs, hcs, _, hl, hm, hz, hxx, hcell, hwf⟩
  · simp only [List.cons.injEq, Value.slice.injEq, and_true] at hcs
    obtain ⟨rfl, rfl, rfl⟩ := hcs
    exact ⟨⟨[], rfl, none, 0, rfl, by simp, ⟨by decide, fun _ => rfl⟩, fun h => absurd h (by simp)⟩, .inl rfl⟩
  · simp only [List.cons.injEq, Value.slice.injEq, and_true] at hcs
    obtain ⟨rfl, rfl, rfl⟩ := hcs
    have hzl : len ≤ zs.length := by rw [hz]; split <;> omega
    have hlen : len = ((zs.take len).map fun z => UInt8.ofNat z.toNat).length := by simp; omega
    refine ⟨⟨(zs.take len).map fun z => UInt8.ofNat z.toNat, hlen, some a, cap, rfl, by rw [← hlen]; exact hl, ⟨by unfold maxLen at hm; omega, fun h => by cases h⟩, fun hp => ?_⟩, .inr ⟨_, _, by rw [hxx], by simp [lits]; omega⟩⟩
    rw [← hlen] at hp
    obtain ⟨b, off, spot⟩ := a
    have h0 := hcell 0 (by omega)
    obtain rfl : spot = none := by simpa [Addr.add] using World.cell?_spot h0
    refine ⟨b, off, rfl, ?_, fun i hi => ?_⟩
    · rw [add_at] at h0; exact World.block_lt_of_cell? W _ h0
    · rw [← hlen] at hi
      have hi2 : i < zs.length := by omega
      have h1 := hcell i hi2
      rw [add_at] at h1
      rw [h1]
      have hb := bounds_u8 (hwf zs[i] (List.getElem_mem hi2))
      have e : zs.getD i 0 = zs[i] := by simp [List.getD, List.getElem?_eq_getElem hi2]
      rw [e]
      simp only [List.getElem_map, List.getElem_take]
      rw [ofNat_toNat _ (by omega)]
      congr 2
      omega
end
end Go.Proofs.YtipiplnhbecjeaaGreat.OpenB
