/- Which frames stand, by the program. -/
import Derived.Test.YtclgekmpldeedaaGreatKFrmH
namespace Go.Proofs.YtclgekmpldeedaaGreat
set_option linter.unusedVariables false
set_option linter.unusedSimpArgs false
open Go.RowKit

theorem byte_eq {q : Nat} {a : UInt8} : UInt8.ofNat q = a ↔ q % 256 = a.toNat := by
  constructor
  · rintro rfl; simp [UInt8.toNat_ofNat']
  · intro h; apply UInt8.toNat_inj.1; rw [UInt8.toNat_ofNat']; simpa using h
/-- The four bytes that were read are those of a sum if they are that number. -/
theorem rdSum_four {r : List UInt8} (h : 4 ≤ r.length) : (rdSum 4 0 0 (some r)).2 = some (r.drop 4) ∧ ∀ q, q < 4294967296 → (loB 4 q = r.take 4 ↔ (rdSum 4 0 0 (some r)).1 = q) := by
  match r, h with
  | a :: b :: c :: d :: t, _ =>
    refine ⟨rfl, fun q hq => ?_⟩
    have ha := UInt8.toNat_lt a
    have hb := UInt8.toNat_lt b
    have hc := UInt8.toNat_lt c
    have hd := UInt8.toNat_lt d
    have e : (rdSum 4 0 0 (some (a :: b :: c :: d :: t))).1 = a.toNat + b.toNat * 256 + c.toNat * 65536 + d.toNat * 16777216 := by
      simp only [rdSum, rdByte]
      omega
    rw [e, loB_four]
    simp only [List.take_succ_cons, List.take_zero, List.cons.injEq, and_true, byte_eq]
    omega
theorem rdSum_short : ∀ (j i acc : Nat) (r : List UInt8), r.length < j → (rdSum j i acc (some r)).2 = none
  | 0, _, _, _, h => absurd h (by omega)
  | j + 1, i, acc, [], _ => by
    rw [rdSum]
    have : ∀ (j i acc : Nat), (rdSum j i acc none).2 = none := by
      intro j
      induction j with
      | zero => intro _ _; rfl
      | succ j ih => intro i acc; rw [rdSum]; exact ih _ _
    exact this _ _ _
  | j + 1, i, acc, b :: r, h => by
    rw [rdSum]
    exact rdSum_short j _ _ r (by simp at h; omega)
theorem rdSum_none : ∀ (j i acc : Nat), (rdSum j i acc none).2 = none
  | 0, _, _ => rfl
  | j + 1, i, acc => by rw [rdSum]; exact rdSum_none j _ _
theorem rdSum_lt : ∀ (j i acc : Nat) (st : Option (List UInt8)), acc < 256 ^ i → (rdSum j i acc st).1 < 256 ^ (i + j)
  | 0, i, acc, st, h => h
  | j + 1, i, acc, st, h => by
    rw [rdSum]
    have := rdSum_lt j (i + 1) _ (rdByte st).2 (acc_lt acc (rdByte st).1 i h (rdByte_lt st))
    have e : i + 1 + j = i + (j + 1) := by omega
    rw [e] at this
    exact this

/-- What the program's reading finds, and the frame that comes next. -/
theorem next_none {l : List UInt8} (h : (rdText 65536 (some l)).2 = none) : nextF l = none := by
  rcases hr : rdCount 65536 (some l) with ⟨n, _ | r⟩
  · exact nextF_bad (by rw [hr])
  · unfold rdText at h
    rw [hr] at h
    simp only at h
    split at h
    · cases h
    · split at h
      · next hlt => rw [nextF_some hr, if_pos (by omega)]
      · cases h
theorem text_parts {l r : List UInt8} (h : (rdText 65536 (some l)).2 = some r) : ∃ n r0, rdCount 65536 (some l) = (n, some r0) ∧ n ≤ r0.length ∧ r = r0.drop n ∧ (rdText 65536 (some l)).1 = r0.take n ∧ r0.length ≤ l.length := by
  rcases hr : rdCount 65536 (some l) with ⟨n, _ | r0⟩
  · unfold rdText at h
    rw [hr] at h
    simp only at h
    split at h <;> cases h
  · obtain ⟨k, _, _, hk⟩ := rdCount_suffix hr
    have hle : r0.length ≤ l.length := by rw [hk, List.length_drop]; omega
    refine ⟨n, r0, rfl, ?_⟩
    unfold rdText at h ⊢
    rw [hr] at h ⊢
    simp only at h ⊢
    split at h
    · next hn =>
      injection h with h
      rw [if_pos hn, hn]
      exact ⟨by omega, by rw [← h]; rfl, by simp, hle⟩
    · next hn =>
      rw [if_neg hn]
      split at h
      · cases h
      · next hlt =>
        injection h with h
        rw [if_neg hlt]
        exact ⟨by omega, h.symm, rfl, hle⟩
theorem text_le {l r : List UInt8} (h : (rdText 65536 (some l)).2 = some r) : r.length ≤ l.length ∧ (rdText 65536 (some l)).1.length ≤ l.length := by
  obtain ⟨n, r0, -, h2, h3, h4, h5⟩ := text_parts h
  rw [h3, h4, List.length_drop, List.length_take]
  omega
theorem next_short {l r : List UInt8} (h : (rdText 65536 (some l)).2 = some r) (hr : r.length < 4) : nextF l = none := by
  obtain ⟨n, r0, h1, h2, h3, -, -⟩ := text_parts h
  rw [nextF_some h1, if_pos (by rw [h3, List.length_drop] at hr; omega)]
theorem next_long {l r : List UInt8} (h : (rdText 65536 (some l)).2 = some r) (hr : 4 ≤ r.length) :
    nextF l = if (rdSum 4 0 0 (some r)).1 = crcOf (l.take (l.length - r.length)) then some ((rdText 65536 (some l)).1, l.length - r.length + 4) else none := by
  obtain ⟨n, r0, h1, h2, h3, h4, h5⟩ := text_parts h
  have hl : r.length = r0.length - n := by rw [h3, List.length_drop]
  have e : l.length - r0.length + n = l.length - r.length := by omega
  rw [nextF_some h1, if_neg (by omega), e, ← h3, h4]
  have hq := (rdSum_four hr).2 (crcOf (l.take (l.length - r.length))) (crcOf_lt _)
  by_cases hx : loB 4 (crcOf (l.take (l.length - r.length))) = r.take 4
  · rw [if_pos hx, if_pos (hq.1 hx)]
  · rw [if_neg hx, if_neg fun h => hx (hq.2 h)]

theorem sleftY (g : Nat) (st : Option (List UInt8)) (w : World) (h : SrcL w g st) : Calls Tryz.prog 56 #[.pointer (some ⟨g, 0, none⟩)] w fun e w' => e = .returned (.int .i64 (leftOf st)) ∧ w = w' := by
  rcases st with _ | l
  · exact sleft_none g w h
  · exact sleft_any g l w h
/-- A text made bytes. -/
theorem bytes_rds (l : List UInt8) (hl : l.length ≤ 140737488351232) (w : World) : ∃ v w2, (convert 9 33 (.string ⟨l.toArray⟩)).run Tryz.prog w = .ok v w2 ∧ Below w.heap.size w w2 ∧ RdS w2 (fun b => b = w.heap.size) v l ∧ w2.heap.size = w.heap.size + 1 := by
  refine ⟨_, _, Lib.run_convert_string_bytes w 9 33 5 ⟨l.toArray⟩ Tryz.underlying9 Tryz.underlying33 Tryz.underlying5, Go.Joins.below_bytesWorld _ _ _ _ (Nat.le_refl _), ?_, Lib.bytesWorld_size _ _ _⟩
  have hg := grownCap_ge w l.length 0 5
  have hg2 := grownCap_le_maxLen w l.length 0 5 (by unfold maxLen; omega)
  unfold maxLen at hg2
  refine ⟨some ⟨w.heap.size, 0, none⟩, grownCap w l.length 0 5, by rw [size_mk], hg, ⟨by omega, fun h => by cases h⟩, fun hp => ⟨w.heap.size, 0, rfl, rfl, fun i hi => ?_⟩⟩
  rw [Nat.zero_add, Lib.bytesWorld_cell w _ _ i (by rw [size_mk]; exact hi)]
  congr 2
  simp [List.getD, List.getElem?_eq_getElem hi]
theorem ownsRow_same {w w' : World} {B : Nat} {t : TypeId} {k : Nat} {v : Value} {n : Nat} {xs : List Value} (h : w.ownsRow B t k v n xs) (hb : ∀ b, B ≤ b → b < w.heap.size → w'.heap[b]? = w.heap[b]?) : w'.ownsRow B t k v n xs := by
  obtain ⟨h1, h2⟩ := h
  refine ⟨h1, ?_⟩
  rcases h2 with h2 | ⟨g, cap, cur, hv, hg, hh, r⟩
  · exact Or.inl h2
  · refine Or.inr ⟨g, cap, cur, hv, hg, ?_, r⟩
    have hlt : g < w.heap.size := (Array.getElem?_eq_some_iff.1 hh).1
    rw [hb g hg hlt]; exact hh
theorem Bods.only {w w' : World} {B g : Nat} {v : Value} {ls : List (List UInt8)} (h : Bods w B v ls) (ho : Only w w' g) (hg : g < B) : Bods w' B v ls := by
  have hk : ∀ b, B ≤ b → b < w.heap.size → w'.heap[b]? = w.heap[b]? := fun b h1 h2 => ho.block b h2 (by rintro ⟨⟩; omega)
  obtain ⟨vs, h1, h2, h3⟩ := h
  refine ⟨vs, h1, ownsRow_same h2 hk, fun i hi hi' => ?_⟩
  exact ((h3 i hi hi').keep fun b hb' => hk b hb'.1 hb'.2.1).imp fun b hb' => ⟨hb'.1, Nat.lt_of_lt_of_le hb'.2.1 ho.size, hb'.2.2⟩
theorem Bods.base {w : World} {B B' : Nat} {v : Value} {ls : List (List UInt8)} (h : Bods w B v ls) (hB : B' ≤ B) : Bods w B' v ls := by
  obtain ⟨vs, h1, h2, h3⟩ := h
  exact ⟨vs, h1, Go.Joins.ownsRow_le h2 hB, fun i hi hi' => (h3 i hi hi').imp fun b hb => ⟨Nat.le_trans hB hb.1, hb.2⟩⟩
theorem text_lt {l r : List UInt8} (h : (rdText 65536 (some l)).2 = some r) : r.length < l.length := by
  obtain ⟨n, r0, h1, h2, h3, h4, h5⟩ := text_parts h
  obtain ⟨k, k1, k2, hk⟩ := rdCount_suffix h1
  have : r0.length = l.length - k := by rw [hk, List.length_drop]
  rw [h3, List.length_drop]
  omega
theorem text_drop {l r : List UInt8} (h : (rdText 65536 (some l)).2 = some r) : r = l.drop (l.length - r.length) := by
  obtain ⟨n, r0, h1, h2, h3, h4, h5⟩ := text_parts h
  obtain ⟨k, k1, k2, hk⟩ := rdCount_suffix h1
  have e0 : r0.length = l.length - k := by rw [hk, List.length_drop]
  have e1 : l.length - r.length = k + n := by rw [h3, List.length_drop]; omega
  rw [e1, h3, hk, List.drop_drop]
end Go.Proofs.YtclgekmpldeedaaGreat
