/- Which frames stand, by the program. -/
import Derived.Test.YtflkaladkbkbgaaGreatKFrmG
namespace Go.Proofs.YtflkaladkbkbgaaGreat
set_option linter.unusedVariables false
set_option linter.unusedSimpArgs false
open Go.RowKit

theorem byte_eq {q : Nat} {a : UInt8} : UInt8.ofNat q = a ↔ q % 256 = a.toNat := by
  constructor
  · rintro rfl; simp [UInt8.toNat_ofNat']
  · intro h; apply UInt8.toNat_inj.1; rw [UInt8.toNat_ofNat']; simpa using h
/-- The four bytes that were read are those of a sum if they are that number. -/
theorem rdSum_four {r : List UInt8} (h : 4 ≤ r.length) : (rdSum 4 0 0 (some r)).2 = some (r.drop 4) ∧ ∀ q, q < 4294967296 → (loB 4 q = r.take 4 ↔ (rdSum 4 0 0 (some r)).1 = q) := by
  match r, h with
  | a :: b :: c :: d :: t, _ =>
    refine ⟨rfl, fun q hq => ?_⟩
    have ha := UInt8.toNat_lt a
    have hb := UInt8.toNat_lt b
    have hc := UInt8.toNat_lt c
    have hd := UInt8.toNat_lt d
    have e : (rdSum 4 0 0 (some (a :: b :: c :: d :: t))).1 = a.toNat + b.toNat * 256 + c.toNat * 65536 + d.toNat * 16777216 := by
      simp only [rdSum, rdByte]
      omega
    rw [e, loB_four]
    simp only [List.take_succ_cons, List.take_zero, List.cons.injEq, and_true, byte_eq]
    omega
theorem rdSum_short : ∀ (j i acc : Nat) (r : List UInt8), r.length < j → (rdSum j i acc (some r)).2 = none
  | 0, _, _, _, h => absurd h (by omega)
  | j + 1, i, acc, [], _ => by
    rw [rdSum]
    have : ∀ (j i acc : Nat), (rdSum j i acc none).2 = none := by
      intro j
      induction j with
      | zero => intro _ _; rfl
      | succ j ih => intro i acc; rw [rdSum]; exact ih _ _
    exact this _ _ _
  | j + 1, i, acc, b :: r, h => by
    rw [rdSum]
    exact rdSum_short j _ _ r (by simp at h; omega)
theorem rdSum_none : ∀ (j i acc : Nat), (rdSum j i acc none).2 = none
  | 0, _, _ => rfl
  | j + 1, i, acc => by rw [rdSum]; exact rdSum_none j _ _
theorem rdSum_lt : ∀ (j i acc : Nat) (st : Option (List UInt8)), acc < 256 ^ i → (rdSum j i acc st).1 < 256 ^ (i + j)
  | 0, i, acc, st, h => h
  | j + 1, i, acc, st, h => by
    rw [rdSum]
    have := rdSum_lt j (i + 1) _ (rdByte st).2 (acc_lt acc (rdByte st).1 i h (rdByte_lt st))
    have e : i + 1 + j = i + (j + 1) := by omega
    rw [e] at this
    exact this

/-- What the program's reading finds, and the frame that comes next. -/
theorem next_none {l : List UInt8} (h : (rdText 65536 (some l)).2 = none) : nextF l = none := by
  rcases hr : rdCount 65536 (some l) with ⟨n, _ | r⟩
  · exact nextF_bad (by rw [hr])
  · unfold rdText at h
    rw [hr] at h
    simp only at h
    split at h
    · cases h
    · split at h
      · next hlt => rw [nextF_some hr, if_pos (by omega)]
      · cases h
theorem text_parts {l r : List UInt8} (h : (rdText 65536 (some l)).2 = some r) : ∃ n r0, rdCount 65536 (some l) = (n, some r0) ∧ n ≤ r0.length ∧ r = r0.drop n ∧ (rdText 65536 (some l)).1 = r0.take n ∧ r0.length ≤ l.length := by
  rcases hr : rdCount 65536 (some l) with ⟨n, _ | r0⟩
  · unfold rdText at h
    rw [hr] at h
    simp only at h
    split at h <;> cases h
  · obtain ⟨k, _, _, hk⟩ := rdCount_suffix hr
    have hle : r0.length ≤ l.length := by rw [hk, List.length_drop]; omega
    refine ⟨n, r0, rfl, ?_⟩
    unfold rdText at h ⊢
    rw [hr] at h ⊢
    simp only at h ⊢
    split at h
    · next hn =>
      injection h with h
      rw [if_pos hn, hn]
      exact ⟨by omega, by rw [← h]; rfl, by simp, hle⟩
    · next hn =>
      rw [if_neg hn]
      split at h
      · cases h
      · next hlt =>
        injection h with h
        rw [if_neg hlt]
        exact ⟨by omega, h.symm, rfl, hle⟩
theorem text_le {l r : List UInt8} (h : (rdText 65536 (some l)).2 = some r) : r.length ≤ l.length ∧ (rdText 65536 (some l)).1.length ≤ l.length := by
  obtain ⟨n, r0, -, h2, h3, h4, h5⟩ := text_parts h
  rw [h3, h4, List.length_drop, List.length_take]
  omega
theorem next_short {l r : List UInt8} (h : (rdText 65536 (some l)).2 = some r) (hr : r.length < 4) : nextF l = none := by
  obtain ⟨n, r0, h1, h2, h3, -, -⟩ := text_parts h
  rw [nextF_some h1, if_pos (by rw [h3, List.length_drop] at hr; omega)]
theorem next_long {l r : List UInt8} (h : (rdText 65536 (some l)).2 = some r) (hr : 4 ≤ r.length) :
    nextF l = if (rdSum 4 0 0 (some r)).1 = crcOf (l.take (l.length - r.length)) then some ((rdText 65536 (some l)).1, l.length - r.length + 4) else none := by
  obtain ⟨n, r0, h1, h2, h3, h4, h5⟩ := text_parts h
  have hl : r.length = r0.length - n := by rw [h3, List.length_drop]
  have e : l.length - r0.length + n = l.length - r.length := by omega
  rw [nextF_some h1, if_neg (by omega), e, ← h3, h4]
  have hq := (rdSum_four hr).2 (crcOf (l.take (l.length - r.length))) (crcOf_lt _)
  by_cases hx : loB 4 (crcOf (l.take (l.length - r.length))) = r.take 4
  · rw [if_pos hx, if_pos (hq.1 hx)]
  · rw [if_neg hx, if_neg fun h => hx (hq.2 h)]

theorem sleftY (g : Nat) (st : Option (List UInt8)) (w : World) (h : SrcL w g st) : Calls Tryz.prog 56 #[.pointer (some ⟨g, 0, none⟩)] w fun e w' => e = .returned (.int .i64 (leftOf st)) ∧ w = w' := by
  rcases st with _ | l
  · exact sleft_none g w h
  · exact sleft_any g l w h
/-- A text made bytes. -/
theorem bytes_rds (l : List UInt8) (hl : l.length ≤ 140737488351232) (w : World) : ∃ v w2, (convert 9 33 (.string ⟨l.toArray⟩)).run Tryz.prog w = .ok v w2 ∧ Below w.heap.size w w2 ∧ RdS w2 (fun b => b = w.heap.size) v l ∧ w2.heap.size = w.heap.size + 1 := by
  refine ⟨_, _, Lib.run_convert_string_bytes w 9 33 5 ⟨l.toArray⟩ Tryz.underlying9 Tryz.underlying33 Tryz.underlying5, Go.Joins.below_bytesWorld _ _ _ _ (Nat.le_refl _), ?_, Lib.bytesWorld_size _ _ _⟩
  have hg := grownCap_ge w l.length 0 5
  have hg2 := grownCap_le_maxLen w l.length 0 5 (by unfold maxLen; omega)
  unfold maxLen at hg2
  refine ⟨some ⟨w.heap.size, 0, none⟩, grownCap w l.length 0 5, by rw [size_mk], hg, ⟨by omega, fun h => by cases h⟩, fun hp => ⟨w.heap.size, 0, rfl, rfl, fun i hi => ?_⟩⟩
  rw [Nat.zero_add, Lib.bytesWorld_cell w _ _ i (by rw [size_mk]; exact hi)]
  congr 2
  simp [List.getD, List.getElem?_eq_getElem hi]
theorem ownsRow_same {w w' : World} {B : Nat} {t : TypeId} {k : Nat} {v : Value} {n : Nat} {xs : List Value} (h : w.ownsRow B t k v n xs) (hb : ∀ b, B ≤ b → b < w.heap.size → w'.heap[b]? = w.heap[b]?) : w'.ownsRow B t k v n xs := by
  obtain ⟨h1, h2⟩ := h
  refine ⟨h1, ?_⟩
  rcases h2 with h2 | ⟨g, cap, cur, hv, hg, hh, r⟩
  · exact Or.inl h2
  · refine Or.inr ⟨g, cap, cur, hv, hg, ?_, r⟩
    have hlt : g < w.heap.size := (Array.getElem?_eq_some_iff.1 hh).1
    rw [hb g hg hlt]; exact hh
theorem Bods.only {w w' : World} {B g : Nat} {v : Value} {ls : List (List UInt8)} (h : Bods w B v ls) (ho : Only w w' g) (hg : g < B) : Bods w' B v ls := by
  have hk : ∀ b, B ≤ b → b < w.heap.size → w'.heap[b]? = w.heap[b]? := fun b h1 h2 => ho.block b h2 (by rintro ⟨⟩; omega)
  obtain ⟨vs, h1, h2, h3⟩ := h
  refine ⟨vs, h1, ownsRow_same h2 hk, fun i hi hi' => ?_⟩
  exact ((h3 i hi hi').keep fun b hb' => hk b hb'.1 hb'.2.1).imp fun b hb' => ⟨hb'.1, Nat.lt_of_lt_of_le hb'.2.1 ho.size, hb'.2.2⟩
theorem Bods.base {w : World} {B B' : Nat} {v : Value} {ls : List (List UInt8)} (h : Bods w B v ls) (hB : B' ≤ B) : Bods w B' v ls := by
  obtain ⟨vs, h1, h2, h3⟩ := h
  exact ⟨vs, h1, Go.Joins.ownsRow_le h2 hB, fun i hi hi' => (h3 i hi hi').imp fun b hb => ⟨Nat.le_trans hB hb.1, hb.2⟩⟩
theorem text_lt {l r : List UInt8} (h : (rdText 65536 (some l)).2 = some r) : r.length < l.length := by
  obtain ⟨n, r0, h1, h2, h3, h4, h5⟩ := text_parts h
  obtain ⟨k, k1, k2, hk⟩ := rdCount_suffix h1
  have : r0.length = l.length - k := by rw [hk, List.length_drop]
  rw [h3, List.length_drop]
  omega
theorem text_drop {l r : List UInt8} (h : (rdText 65536 (some l)).2 = some r) : r = l.drop (l.length - r.length) := by
  obtain ⟨n, r0, h1, h2, h3, h4, h5⟩ := text_parts h
  obtain ⟨k, k1, k2, hk⟩ := rdCount_suffix h1
  have e0 : r0.length = l.length - k := by rw [hk, List.length_drop]
  have e1 : l.length - r.length = k + n := by rw [h3, List.length_drop]; omega
  rw [e1, h3, hk, List.drop_drop]
end Go.Proofs.YtflkaladkbkbgaaGreat

/- Which frames stand, by the program: the walk. -/
namespace Go.Proofs.YtflkaladkbkbgaaGreat
set_option linter.unusedVariables false
set_option linter.unusedSimpArgs false
open Go.RowKit

set_option maxHeartbeats 4000000 in
set_option maxRecDepth 100000 in
theorem fscan_any (v : Value) (l : List UInt8) (bs : List (List UInt8)) (m : Nat) (w : World) (h : Rd w w.heap.size v l) (hl : l.length ≤ 140737488000) (hsc : ScanR l bs m) :
    Calls Tryz.prog 35 #[v] w (ScansR bs m w) := by
  obtain ⟨A, cap, rfl⟩ := h.shapeY
  have hlc : l.length ≤ cap := by
    obtain ⟨A', cap', hv, h2, _⟩ := h
    injection hv with _ _ e3
    omega
  have HF := Lib.hid (from_any _ _ w h.strY)
  obtain ⟨ll, hll⟩ : ∃ n, n = l.length := ⟨_, rfl⟩
  have HL := Lib.hid hll
  have H := Lib.hid h
  have HSC := Lib.hid hsc
  rw [← hll] at hl hlc HF ⊢
  clear h hsc hll
  go_enter Tryz.func35, Tryz.ntmps35
  go_wp2_with fail
  refine HF.out.mono ?_
  rintro e w0 ⟨rfl, hs0, hb0⟩
  have HS0 : Hid (SrcL w0 w.heap.size (some l)) := ⟨hs0, by have := HL.out; omega⟩
  have HB0 := Lib.hid hb0
  clear hs0 hb0 HF
  obtain ⟨g, hg⟩ : ∃ g, g = w.heap.size := ⟨_, rfl⟩
  have HG := Lib.hid hg
  rw [← hg] at HS0 ⊢
  clear hg
  go_wp2_with fail
  go_loopw [4, 5] (fun o i wr => ∃ (at_ : Nat) (ls : List (List UInt8)), i = .int .i64 at_ ∧ at_ ≤ ll ∧ Hid (ls.length ≤ at_) ∧ Hid (Bods wr (w.heap.size + 1) o ls) ∧ Hid (SrcL wr g (some (l.drop at_))) ∧ Hid (Below w.heap.size w wr) ∧ Hid (∀ cs n, ScanR (l.drop at_) cs n → bs = ls ++ cs ∧ m = at_ + n)) (fun _ i _ => ll - (intOf i).toNat)
  case atStart => exact ⟨0, [], rfl, by omega, by show 0 ≤ 0; omega, Bods.nil _ _, HS0, HB0, fun cs n k => by
    obtain ⟨e1, e2⟩ := HSC.out.unique k
    exact ⟨e1, by omega⟩⟩
  case round =>
    obtain ⟨at_, ls, rfl, hat, HLS, HO, HS, HB, HI⟩ := hrel
    have hz := HB.out.size
    have hglt : g < wr.heap.size := HS.out.lt
    obtain ⟨l', hl'⟩ : ∃ x, x = l.drop at_ := ⟨_, rfl⟩
    have HL' := Lib.hid hl'
    have hll' : l'.length = ll - at_ := by rw [hl', List.length_drop, HL.out]
    rw [← hl'] at HS
    clear hl'
    go_wp2_with fail
    refine (stext_any g (some l') 65536 wr HS.out (by decide)).mono ?_
    rintro e w1 ⟨rfl, hs1, ho1⟩
    have hb1 := HB.out.trans (ho1.below hz (by rw [HG.out]; exact Nat.le_refl _))
    have hz1 := hb1.size
    have hn1 := @next_none l'
    have hn2 := fun r => @next_short l' r
    have hn3 := fun r => @next_long l' r
    have hle := fun r h => And.intro (@text_lt l' r h) (And.intro (@text_drop l' r h) (@text_le l' r h).2)
    obtain ⟨body, st1, hbs⟩ : ∃ body st1, rdText 65536 (some l') = (body, st1) := ⟨_, _, rfl⟩
    rw [hbs] at hs1 hn1 hn2 hn3 hle
    rw [hbs]
    have HS1 := Lib.hid hs1
    have HB1 := Lib.hid hb1
    have HO1 := Lib.hid ho1
    have HN1 := Lib.hid hn1
    have HN2 := Lib.hid hn2
    have HN3 := Lib.hid hn3
    have HLE := Lib.hid hle
    have HO2 := Lib.hid (HO.out.only ho1 (by rw [HG.out]; omega))
    clear hs1 hb1 ho1 hn1 hn2 hn3 hbs hle HS HO HB
    go_wp2_with fail
    refine (sleftY g st1 w1 HS1.out).mono ?_
    rintro e w1' ⟨rfl, rfl⟩
    rcases st1 with _ | r
    · have hno : nextF l' = none := HN1.out rfl
      have e0 : leftOf none = 0 := rfl
      rw [e0]
      obtain ⟨e1, e2⟩ := HI.out [] 0 (.stop (by rw [← HL'.out]; exact hno))
      rw [List.append_nil] at e1
      rw [Nat.add_zero] at e2
      have HE1 := Lib.hid e1
      have HE2 := Lib.hid e2
      clear hno e1 e2 HN1 HN2 HN3 HI
      go_wp2_with fail
      refine (readsum_any g none w1 HS1.out).mono ?_
      rw [rdSum_none]
      obtain ⟨q, hq⟩ : ∃ q, q = (rdSum 4 0 0 none).1 := ⟨_, rfl⟩
      rw [← hq]
      clear hq
      rintro e w2 ⟨rfl, hs2, ho2⟩
      have HB2 := Lib.hid (HB1.out.trans (ho2.below hz1 (by rw [HG.out]; exact Nat.le_refl _)))
      have HO3 := Lib.hid (HO2.out.only ho2 (by rw [HG.out]; omega))
      have HS2 := Lib.hid hs2
      clear hs2 ho2
      go_wp2_with fail
      refine (sbad_any g none w2 HS2.out).mono ?_
      rintro e w2' ⟨rfl, rfl⟩
      simp only [Option.isNone_none]
      go_wp2_with fail
      go_ret2
      exact ⟨_, by rw [HE2.out]; rfl, by rw [HE1.out]; exact HO3.out.base (by omega), HB2.out⟩
    · have e0 : leftOf (some r) = (r.length : Int) := rfl
      rw [e0]
      obtain ⟨hrl, hrd0, hbl⟩ := HLE.out r rfl
      have HRD0 := Lib.hid hrd0
      clear hrd0
      obtain ⟨k, hk⟩ : ∃ k, k = r.length := ⟨_, rfl⟩
      have HK := Lib.hid hk
      rw [← hk] at hrl ⊢
      clear hk
      by_cases hsh : k < 4
      · have hno : nextF l' = none := HN2.out r rfl (by rw [← HK.out]; exact hsh)
        have hst2 := rdSum_short 4 0 0 r (by rw [← HK.out]; exact hsh)
        obtain ⟨e1, e2⟩ := HI.out [] 0 (.stop (by rw [← HL'.out]; exact hno))
        rw [List.append_nil] at e1
        rw [Nat.add_zero] at e2
        have HE1 := Lib.hid e1
        have HE2 := Lib.hid e2
        have HR := Lib.hid (readsum_any g (some r) w1 HS1.out)
        rw [hst2] at HR
        obtain ⟨q, hq⟩ : ∃ q, q = (rdSum 4 0 0 (some r)).1 := ⟨_, rfl⟩
        rw [← hq] at HR
        clear hno e1 e2 HN1 HN2 HN3 HI hst2 hq
        go_wp2_with fail
        refine HR.out.mono ?_
        rintro e w2 ⟨rfl, hs2, ho2⟩
        have HB2 := Lib.hid (HB1.out.trans (ho2.below hz1 (by rw [HG.out]; exact Nat.le_refl _)))
        have HO3 := Lib.hid (HO2.out.only ho2 (by rw [HG.out]; omega))
        have HS2 := Lib.hid hs2
        clear hs2 ho2
        go_wp2_with fail
        refine (sbad_any g none w2 HS2.out).mono ?_
        rintro e w2' ⟨rfl, rfl⟩
        simp only [Option.isNone_none]
        go_wp2_with fail
        go_ret2
        exact ⟨_, by rw [HE2.out]; rfl, by rw [HE1.out]; exact HO3.out.base (by omega), HB2.out⟩
      · have hnx := HN3.out r rfl (by rw [← HK.out]; omega)
        obtain ⟨hst2, -⟩ := rdSum_four (r := r) (by rw [← HK.out]; omega)
        have HR := Lib.hid (readsum_any g (some r) w1 HS1.out)
        rw [hst2] at HR
        have hqlt := rdSum_lt 4 0 0 (some r) (by decide)
        obtain ⟨q, hq⟩ : ∃ q, q = (rdSum 4 0 0 (some r)).1 := ⟨_, rfl⟩
        rw [← hq] at HR hnx hqlt
        have hql : q < 4294967296 := hqlt
        rw [← HK.out, hll'] at hnx
        obtain ⟨E, hE⟩ : ∃ E : Nat, E = ll - k := ⟨_, rfl⟩
        have hEi : (ll : Int) - (k : Int) = (E : Int) := by omega
        have eE : ll - at_ - k = E - at_ := by omega
        rw [eE] at hnx
        have HNX := Lib.hid hnx
        have HE := Lib.hid hE
        have hE1 : at_ < E := by omega
        have hE2 : E + 4 ≤ ll := by omega
        clear hnx hst2 hq hqlt eE hE HN1 HN2 HN3 e0
        go_wp2_with fail
        refine HR.out.mono ?_
        rintro e w2 ⟨rfl, hs2, ho2⟩
        have HB2 := Lib.hid (HB1.out.trans (ho2.below hz1 (by rw [HG.out]; exact Nat.le_refl _)))
        have HO3 := Lib.hid (HO2.out.only ho2 (by rw [HG.out]; omega))
        have HS2 := Lib.hid hs2
        clear hs2 ho2
        obtain ⟨b, off, rfl⟩ : ∃ b off, A = some ⟨b, off, none⟩ := by
          obtain ⟨A', cap', hv, _, _, h4⟩ := H.out
          injection hv with e1 e2 e3
          subst e1
          obtain ⟨b, off, e, _⟩ := h4 (by have := HL.out; omega)
          exact ⟨b, off, e⟩
        have hrd := (H.out.keep HB2.out).mid (k := at_) (n := E - at_) (by have := HL.out; omega) (by omega)
        rw [← HL'.out] at hrd
        have HRD := Lib.hid hrd
        have hlen : (l'.take (E - at_)).length ≤ 9223372036854775807 := by rw [List.length_take]; omega
        have HSUM := Lib.hid (sum_any _ _ w2 _ hrd hlen)
        clear hrd hlen
        go_wp2_with fail
        refine (sbad_any g (some (r.drop 4)) w2 HS2.out).mono ?_
        rintro e w2' ⟨rfl, rfl⟩
        simp only [Option.isNone_some]
        go_wp2_with fail
        refine HSUM.out.mono ?_
        rintro e w2' ⟨rfl, rfl⟩
        obtain ⟨x, hx⟩ : ∃ x, x = crcOf (l'.take (E - at_)) := ⟨_, rfl⟩
        rw [← hx] at HNX ⊢
        clear hx HSUM HRD
        by_cases hqx : q = x
        rotate_left
        · have hne : ((q : Int) != (x : Int)) = true := by simp; omega
          rw [if_neg hqx] at HNX
          obtain ⟨e1, e2⟩ := HI.out [] 0 (.stop (by rw [← HL'.out]; exact HNX.out))
          rw [List.append_nil] at e1
          rw [Nat.add_zero] at e2
          have HE1 := Lib.hid e1
          have HE2 := Lib.hid e2
          clear e1 e2 HI hqx
          go_wp2_with fail
          go_ret2
          exact ⟨_, by rw [HE2.out]; rfl, by rw [HE1.out]; exact HO3.out.base (by omega), HB2.out⟩
        · rw [if_pos hqx] at HNX
          subst hqx
          have hI2 : ∀ cs n, ScanR (l.drop (E + 4)) cs n → bs = (ls ++ [body]) ++ cs ∧ m = (E + 4) + n := fun cs n hk => by
            have e4 : E + 4 = at_ + (E - at_ + 4) := by omega
            rw [e4, ← List.drop_drop, ← HL'.out] at hk
            obtain ⟨e1, e2⟩ := HI.out (body :: cs) (E - at_ + 4 + n) (by rw [← HL'.out]; exact .step HNX.out hk)
            exact ⟨by rw [e1]; simp, by omega⟩
          have HI2 := Lib.hid hI2
          have hbl2 : body.length ≤ 140737488351232 := by omega
          obtain ⟨v1, w3, hrun, hb3, hv1, hz3⟩ := bytes_rds body hbl2 w2
          have HB3 := Lib.hid (HB2.out.trans (hb3.mono HB2.out.size))
          have hown := fun q hq => World.ownsRow.lt (HO3.out).choose_spec.2.1 q hq
          have hbx : Below w3.heap.size w3 (w3.alloc (.cells #[v1] 33)) := (Below.refl _ _).alloc (Nat.le_refl _) _
          have HO4 := Lib.hid ((HO3.out.below hb3).below hbx)
          have hz2 := HB2.out.size
          have hg2 : g < w2.heap.size := HS2.out.lt
          have hu := (hv1.keep (w' := w3.alloc (.cells #[v1] 33)) fun b hb => hbx.block b (by omega)).imp (T := fun b => w.heap.size + 1 ≤ b ∧ b < (w3.alloc (.cells #[v1] 33)).heap.size ∧ _ ≠ some b) fun b hb => ⟨by have := HG.out; omega, by simp; omega, fun e => by have := hown b e; omega⟩
          have HU := Lib.hid hu
          have hc0 : (w3.alloc (.cells #[v1] 33)).cell? ⟨w3.heap.size, 0, none⟩ = some v1 := Go.Joins.cell_of_block (heap_alloc_new w3 _) 0
          have HC0 := Lib.hid hc0
          have HBX := Lib.hid (HB3.out.alloc (by omega) (.cells #[v1] 33))
          have HS4 := Lib.hid ((HS2.out.keep hb3 hg2).keep hbx (by omega))
          have hls : ls.length ≤ at_ := HLS.out
          have hbb : w.heap.size + 1 ≤ (w3.alloc (.cells #[v1] 33)).heap.size := by simp; omega
          have HBB := Lib.hid hbb
          obtain ⟨X, y, e3, -⟩ := id hv1
          clear hI2 hb3 hv1 hown hbx hu hc0 HI hbl hbb hz3
          subst e3
          go_wp2_with (at_builtin; go_must (refine append_body rfl _ _ rfl (w.heap.size + 1) _ ls rfl HO4.out _ _ body rfl HC0.out HU.out HBB.out (by omega) ?_))
          intro v2 w4 hv2 hg4
          have hgr := hg4
          have HB5 := Lib.hid (HBX.out.grown hg4 HBX.out.size (fun q hq => Nat.le_of_succ_le ((World.ownsRow.lt (HO4.out).choose_spec.2.1 q hq)).1))
          have HO5 := Lib.hid hv2
          have HS5 : Hid (SrcL w4 g (some (r.drop 4))) := HS4.out.of (hg4.block g HS4.out.lt (fun e => by have := (World.ownsRow.lt (HO4.out).choose_spec.2.1 g e.symm).1; have := HG.out; omega))
          have hls5 : (ls ++ [body]).length ≤ E + 4 := by simp; omega
          have HLS5 := Lib.hid hls5
          clear hv2 hg4 hgr hls5 hrun
          go_wp2_with fail
          refine (sleftY g _ w4 HS5.out).mono ?_
          rintro e w4' ⟨rfl, rfl⟩
          have e0 : leftOf (some (r.drop 4)) = ((ll - (E + 4) : Nat) : Int) := by
            show (((r.drop 4).length : Nat) : Int) = _
            rw [List.length_drop, ← HK.out]
            have := HE.out
            omega
          rw [e0]
          have hdr : r.drop 4 = l.drop (E + 4) := by
            have h1 := HRD0.out
            rw [← HK.out, hll'] at h1
            rw [h1, HL'.out, List.drop_drop, List.drop_drop]
            congr 1
            have := HE.out
            omega
          rw [hdr] at HS5
          clear e0 hdr
          go_wp2_with fail
          go_roundw
          case rel => exact ⟨E + 4, ls ++ [body], by go_num, by omega, HLS5, HO5, HS5, HB5, HI2⟩
          case measure => simp [intOf]; omega
end Go.Proofs.YtflkaladkbkbgaaGreat

/- Frames that stand, plain: one that is whole is found, one that is cut is not; each bytes have just one answer. -/
namespace Go.Proofs.YtflkaladkbkbgaaGreat
set_option linter.unusedVariables false
set_option linter.unusedSimpArgs false
open Go.RowKit

theorem getG_more : ∀ (p r : List UInt8) (i acc : Nat), (getG i acc p).2 ≠ 0 → getG i acc (p ++ r) = getG i acc p
  | [], r, i, acc, h => absurd rfl h
  | b :: p, r, i, acc, h => by
    rw [List.cons_append]
    unfold getG at h ⊢
    by_cases h1 : 10 ≤ i
    · rw [if_pos h1] at h; exact absurd rfl h
    · rw [if_neg h1] at h ⊢
      rw [if_neg h1]
      by_cases h2 : i = 9 ∧ 1 < b.toNat
      · rw [if_pos h2] at h; exact absurd rfl h
      · rw [if_neg h2] at h ⊢
        rw [if_neg h2]
        by_cases h3 : b.toNat < 128
        · rw [if_pos h3, if_pos h3]
        · rw [if_neg h3] at h ⊢
          rw [if_neg h3]
          exact getG_more p r _ _ h
theorem getG_cut (n j : Nat) (hn : n < 18446744073709551616) (hj : j < (grp n).length) : (getG 0 0 ((grp n).take j)).2 = 0 := by
  rcases Nat.eq_zero_or_pos (getG 0 0 ((grp n).take j)).2 with h | h
  · exact h
  · have h1 := getG_more ((grp n).take j) ((grp n).drop j) 0 0 (by omega)
    rw [List.take_append_drop] at h1
    have h2 := getG_grp n [] hn
    rw [List.append_nil, h1] at h2
    have h3 := (getG_size_le ((grp n).take j) 0 0).1
    rw [h2, List.length_take] at h3
    simp only at h3
    omega
theorem rdCount_grp (n : Nat) (r : List UInt8) (hn : n ≤ 65536) : rdCount 65536 (some (grp n ++ r)) = (n, some r) := by
  unfold rdCount
  rw [if_neg (by decide)]
  have e : mc 65536 = 65536 := by unfold mc; rw [if_pos (by decide)]; rfl
  rw [e]
  simp only [rdN]
  have hg := getG_grp n r (by omega)
  have hl := (grp_length n).2
  rw [hg, if_neg (by simp only; omega)]
  simp only [List.drop_left]
theorem next_frame (l r : List UInt8) (h : l.length ≤ 65536) : nextF (frameF l ++ r) = some (l, frameLen l.length) := by
  have e : frameF l ++ r = grp l.length ++ (l ++ (loB 4 (crcOf (headF l)) ++ r)) := by unfold frameF headF; simp
  have hc := rdCount_grp l.length (l ++ (loB 4 (crcOf (headF l)) ++ r)) h
  rw [← e] at hc
  have h4 := loB_length 4 (crcOf (headF l))
  have el : (frameF l ++ r).length - (l ++ (loB 4 (crcOf (headF l)) ++ r)).length + l.length = (headF l).length := by
    rw [e]; unfold headF; simp only [List.length_append]; omega
  rw [nextF_some hc, if_neg (by simp only [List.length_append]; omega), el]
  have e2 : (frameF l ++ r).take (headF l).length = headF l := by
    unfold frameF
    rw [List.append_assoc, List.take_left]
  rw [e2, List.drop_left, List.take_left' h4, if_pos rfl, List.take_left]
  unfold frameLen headF
  rw [List.length_append]
theorem next_cut (l : List UInt8) (j : Nat) (h : l.length ≤ 65536) (hj : j < frameLen l.length) : nextF ((frameF l).take j) = none := by
  by_cases hg : j < (grp l.length).length
  · have e : (frameF l).take j = (grp l.length).take j := by
      unfold frameF headF
      rw [List.append_assoc, List.take_append_of_le_length (by omega)]
    rw [e]
    apply nextF_bad
    unfold rdCount
    rw [if_neg (by decide)]
    simp only [rdN]
    rw [if_pos (.inl (getG_cut l.length j (by omega) hg))]
  · have e : (frameF l).take j = grp l.length ++ (l ++ loB 4 (crcOf (headF l))).take (j - (grp l.length).length) := by
      have e1 : frameF l = grp l.length ++ (l ++ loB 4 (crcOf (headF l))) := by unfold frameF headF; simp
      rw [e1, List.take_append]
      rw [List.take_of_length_le (by omega)]
    have hc := rdCount_grp l.length ((l ++ loB 4 (crcOf (headF l))).take (j - (grp l.length).length)) h
    rw [← e] at hc
    rw [nextF_some hc, if_pos]
    rw [List.length_take]
    unfold frameLen at hj
    omega
theorem next_nil : nextF [] = none := by
  apply nextF_bad
  unfold rdCount
  rw [if_neg (by decide)]
  simp only [rdN, getG]
  rfl
theorem scan_exists : ∀ (n : Nat) (l : List UInt8), l.length ≤ n → ∃ bs m, ScanR l bs m ∧ m ≤ l.length
  | 0, l, h => by
    obtain rfl : l = [] := List.eq_nil_of_length_eq_zero (by omega)
    exact ⟨[], 0, .stop next_nil, Nat.le_refl _⟩
  | n + 1, l, h => by
    rcases hx : nextF l with _ | ⟨b, k⟩
    · exact ⟨[], 0, .stop hx, by omega⟩
    · obtain ⟨k1, k2, _, _⟩ := nextF_le hx
      obtain ⟨bs, m, h1, h2⟩ := scan_exists n (l.drop k) (by rw [List.length_drop]; omega)
      rw [List.length_drop] at h2
      exact ⟨b :: bs, k + m, .step hx h1, by omega⟩
end Go.Proofs.YtflkaladkbkbgaaGreat
