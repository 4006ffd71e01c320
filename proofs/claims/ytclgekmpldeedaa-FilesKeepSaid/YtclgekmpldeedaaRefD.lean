/- The document's own source: texts. -/
import Derived.Test.YtclgekmpldeedaaRefC
namespace Go.Proofs.Ytclgekmpldeedaa
set_option linter.unusedVariables false
set_option linter.unusedSimpArgs false
open Go.RowKit

set_option maxRecDepth 100000 in
/-- A slice that came in, cut and made a string. -/
theorem Rd.conv {w : World} {B n cap : Nat} {A : Option Addr} {l : List UInt8} (h : Rd w B (.slice A l.length cap) l) (hn : n ≤ l.length) (c : Nat) :
    (convert 22 9 (.slice A n c)).run Try.prog w = .ok (.string ⟨(l.take n).toArray⟩) w := by
  obtain ⟨A', cap', hv, _, _, h1⟩ := h
  injection hv with hA _ _
  subst hA
  rcases Nat.eq_zero_or_pos n with rfl | hp
  · rcases A with _ | a
    · rw [run_convert_bytes_nil w 22 5 Try.underlying22 Try.underlying5 0 c 9 Try.underlying9]
      rfl
    · exact run_convert_bytes_back w 22 9 5 a c [] Try.underlying22 Try.underlying5 Try.underlying9 (fun j hj => absurd hj (by simp))
  · obtain ⟨b, off, rfl, _, hcell⟩ := h1 (by omega)
    rw [run_convert_bytes_arg w 22 5 Try.underlying22 Try.underlying5 b off n c ((l.take n).map fun b => (b.toNat : Int)) (by simp; omega) ?_ 9 Try.underlying9, strOfNums_bytes]
    intro i hi
    rw [hcell i (by omega)]
    have hi2 : i < l.length := by omega
    simp [List.getElem?_map, List.getElem?_eq_getElem hi2, List.getD, List.getElem?_take, hi]

/-- The slice behind k elements, whatever it is. -/
theorem Rd.cutAny {w : World} {B cap k : Nat} {A : Option Addr} {l : List UInt8} (h : Rd w B (.slice A l.length cap) l) (hk : k ≤ l.length) :
    Rd w B (.slice (if cap = k then A else A.map (·.add k)) (l.length - k) (cap - k)) (l.drop k) := by
  obtain ⟨A', cap', hv, hc, hm, h1⟩ := h
  injection hv with hA _ hcap
  subst hA; subst hcap
  refine ⟨_, _, by rw [List.length_drop], by rw [List.length_drop]; omega, ⟨by omega, fun h => ?_⟩, fun hl => ?_⟩
  · split at h
    · omega
    · rcases A with _ | a
      · have := hm.2 rfl; omega
      · cases h
  · rw [List.length_drop] at hl
    obtain ⟨b, off, rfl, hB, hcell⟩ := h1 (by omega)
    rw [if_neg (by omega)]
    refine ⟨b, off + k, by simp only [Option.map_some, Addr.add]; split <;> simp_all, hB, fun i hi => ?_⟩
    rw [List.length_drop] at hi
    have := hcell (k + i) (by omega)
    rw [List.getElem_drop, Nat.add_assoc]
    exact this

end Go.Proofs.Ytclgekmpldeedaa
