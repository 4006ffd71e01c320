/- The document's own source: texts. -/
import Derived.Test.YteakkbgfkcknlaaRefC
namespace Go.Proofs.Yteakkbgfkcknlaa
open Go.RowKit

/-- A slice that came in, cut and made a string. -/
theorem Rd.conv {w : World} {B n cap : Nat} {A : Option Addr} {l : List UInt8} (h : Rd w B (.slice A l.length cap) l) (hn : n ≤ l.length) (c : Nat) :
    (convert 22 9 (.slice A n c)).run Try.prog w = .ok (.string ⟨(l.take n).toArray⟩) w := by
  obtain ⟨A', cap', hv, _, _, h1⟩ := h
  injection hv with hA _ _
  subst hA
  rcases Nat.eq_zero_or_pos n with rfl | hp
  · rcases A with _ | a
    · rw [run_convert_bytes_nil w 22 5 Try.underlying22 Try.underlying5 0 c 9 Try.underlying9]
      rfl
    · exact run_convert_bytes_back w 22 9 5 a c [] Try.underlying22 Try.underlying5 Try.underlying9 (fun j hj => absurd hj (by simp))
  · obtain ⟨b, off, rfl, _, hcell⟩ := h1 (by omega)
    rw [run_convert_bytes_arg w 22 5 Try.underlying22 Try.underlying5 b off n c ((l.take n).map fun b => (b.toNat : Int)) (by simp; omega) ?_ 9 Try.underlying9, strOfNums_bytes]
    intro i hi
    rw [hcell i (by omega)]
    have hi2 : i < l.length := by omega
    simp [List.getElem?_map, List.getElem?_eq_getElem hi2, List.getD, List.getElem?_take, hi]

/-- The slice behind k elements, whatever it is. -/
theorem Rd.cutAny {w : World} {B cap k : Nat} {A : Option Addr} {l : List UInt8} (h : Rd w B (.slice A l.length cap) l) (hk : k ≤ l.length) :
    Rd w B (.slice (if cap = k then A else A.map (·.add k)) (l.length - k) (cap - k)) (l.drop k) := by
  obtain ⟨A', cap', hv, hc, hm, h1⟩ := h
  injection hv with hA _ hcap
  subst hA; subst hcap
  refine ⟨_, _, by rw [List.length_drop], by rw [List.length_drop]; omega, ⟨by omega, fun h => ?_⟩, fun hl => ?_⟩
  · split at h
    · omega
    · rcases A with _ | a
      · have := hm.2 rfl; omega
      · cases h
  · rw [List.length_drop] at hl
    obtain ⟨b, off, rfl, hB, hcell⟩ := h1 (by omega)
    rw [if_neg (by omega)]
    refine ⟨b, off + k, by simp only [Option.map_some, Addr.add]; split <;> simp_all, hB, fun i hi => ?_⟩
    rw [List.length_drop] at hi
    have := hcell (k + i) (by omega)
    rw [List.getElem_drop, Nat.add_assoc]
    exact this

set_option maxHeartbeats 1000000 in
set_option maxRecDepth 1000000 in
theorem rstext_any (g B : Nat) (n : Int) (st : Option (List UInt8)) (w : World) (h : RS w g B st) (hg : B ≤ g) (hn : n ≤ 9223372036854775807) :
    Calls Try.prog 28 #[.pointer (some ⟨g, 0, none⟩), .int .i64 n] w fun e w' => e = .returned (.string ⟨(rdText n st).1.toArray⟩) ∧ RS w' g B (rdText n st).2 ∧ Only w w' g := by
  have H := Lib.hid h
  obtain ⟨A0, n0, c0, b0, hv⟩ : ∃ A n c b, w.heap[g]? = some (.cells #[.slice A n c, .bool b] 35 (0, 0)) := by
    rcases st with _ | l
    · obtain ⟨A, n, c, hu⟩ := h; exact ⟨_, _, _, _, hu⟩
    · obtain ⟨v, hv, A, c, rfl, _⟩ := h; exact ⟨_, _, _, _, hv⟩
  obtain ⟨k0, k1, e0, e1⟩ := rcells hv
  obtain ⟨m, st', hr⟩ : ∃ m st', rdCount n st = (m, st') := ⟨_, _, rfl⟩
  have HN := Lib.hid hn
  have HR := Lib.hid hr
  have hm0 : st' = none → m = 0 := fun h0 => by
    have h1 : (rdCount n st).2 = none := by rw [hr]; exact h0
    have h2 : (rdCount n st).1 = 0 := by
      unfold rdCount at h1 ⊢
      split at h1
      · next hc => rw [if_pos hc]
      · next hc => rw [if_neg hc]; exact rdN_none _ _ h1
    rw [hr] at h2; exact h2
  clear hv h hn
  rcases st' with _ | r
  · have hm := hm0 rfl
    subst hm
    have HT : Hid (rdText n st = ([], none)) := by show rdText n st = ([], none); unfold rdText; rw [hr, if_pos rfl]
    clear hr hm0
    go_enter Try.func28, Try.ntmps28
    go_wp2_with fail
    refine (rscount_any g B n st _ H.out hg HN.out).mono ?_
    rw [HR.out]
    rintro e w1 ⟨rfl, ⟨Au, nu, cu, hu⟩, ho⟩
    obtain ⟨d0, d1, f0, f1⟩ := rcells hu
    have HU := Lib.hid hu
    clear hu k0 k1 e0 e1
    go_wp2_with fail
    go_ret
    rw [HT.out]
    exact ⟨rfl, ⟨_, _, _, set_rs1 (set_rs0 HU.out)⟩, (ho.set _ _).set _ _⟩
  · by_cases hl : r.length < m
    · have HT : Hid (rdText n st = ([], none)) := by
        show rdText n st = ([], none)
        unfold rdText; rw [hr, if_neg (by omega)]
        show (if r.length < m then _ else _) = _
        rw [if_pos hl]
      clear hr hm0
      go_enter Try.func28, Try.ntmps28
      go_wp2_with fail
      refine (rscount_any g B n st _ H.out hg HN.out).mono ?_
      rw [HR.out]
      rintro e w1 ⟨rfl, ⟨v, hu, A, cap, rfl, _⟩, ho⟩
      obtain ⟨d0, d1, f0, f1⟩ := rcells hu
      have HU := Lib.hid hu
      clear hu k0 k1 e0 e1
      go_wp2_with fail
      go_ret
      rw [HT.out]
      exact ⟨rfl, ⟨_, _, _, set_rs1 (set_rs0 HU.out)⟩, (ho.set _ _).set _ _⟩
    · have HT : Hid (rdText n st = (r.take m, some (r.drop m))) := by
        show rdText n st = (r.take m, some (r.drop m))
        unfold rdText; rw [hr]
        by_cases h0 : m = 0
        · subst h0; rw [if_pos rfl]; simp
        · rw [if_neg h0]
          show (if r.length < m then _ else _) = _
          rw [if_neg hl]
      have hml : m ≤ r.length := by omega
      clear hr hm0
      go_enter Try.func28, Try.ntmps28
      go_wp2_with fail
      refine (rscount_any g B n st _ H.out hg HN.out).mono ?_
      rw [HR.out]
      rintro e w1 ⟨rfl, ⟨v, hu, hrd⟩, ho⟩
      obtain ⟨d0, d1, f0, f1⟩ := rcells hu
      have HRD := Lib.hid hrd
      have HU := Lib.hid hu
      obtain ⟨A, cap, rfl, hcap, hmax, _⟩ := hrd
      have hmax1 := hmax.1
      have hcv := HRD.out.conv hml
      have HCut := Lib.hid (HRD.out.cutAny hml)
      clear hu k0 k1 e0 e1 hmax
      by_cases hck : cap = m
      · subst hck
        have HLL : Hid (r.length - cap = 0) := by show r.length - cap = 0; omega
        go_wp2_with fail
        go_ret
        rw [HT.out]
        exact ⟨rfl, ⟨_, set_rs0 HU.out, (by have h1 := HLL.out; simpa [h1] using HCut.out : Rd w1 B _ (r.drop cap)).keep ((Below.refl _ _).setCell hg _)⟩, ho.set _ _⟩
      · go_wp2_with fail
        go_ret
        rw [HT.out]
        exact ⟨rfl, ⟨_, set_rs0 HU.out, (by simpa [hck] using HCut.out : Rd w1 B _ (r.drop m)).keep ((Below.refl _ _).setCell hg _)⟩, ho.set _ _⟩
end Go.Proofs.Yteakkbgfkcknlaa
