/- Which frames stand, by the program: the walk. -/
import Derived.Test.YtclgekmpldeedaaGreatKFrmI
namespace Go.Proofs.YtclgekmpldeedaaGreat
set_option linter.unusedVariables false
set_option linter.unusedSimpArgs false
open Go.RowKit

set_option maxHeartbeats 4000000 in
set_option maxRecDepth 100000 in
theorem fscan_any (v : Value) (l : List UInt8) (bs : List (List UInt8)) (m : Nat) (w : World) (h : Rd w w.heap.size v l) (hl : l.length ≤ 140737488000) (hsc : ScanR l bs m) :
    Calls Tryz.prog 35 #[v] w (ScansR bs m w) := by
  obtain ⟨A, cap, rfl⟩ := h.shapeY
  have hlc : l.length ≤ cap := by
    obtain ⟨A', cap', hv, h2, _⟩ := h
    injection hv with _ _ e3
    omega
  have HF := Lib.hid (from_any _ _ w h.strY)
  obtain ⟨ll, hll⟩ : ∃ n, n = l.length := ⟨_, rfl⟩
  have HL := Lib.hid hll
  have H := Lib.hid h
  have HSC := Lib.hid hsc
  rw [← hll] at hl hlc HF ⊢
  clear h hsc hll
  go_enter Tryz.func35, Tryz.ntmps35
  go_wp2_with fail
  refine HF.out.mono ?_
  rintro e w0 ⟨rfl, hs0, hb0⟩
  have HS0 : Hid (SrcL w0 w.heap.size (some l)) := ⟨hs0, by have := HL.out; omega⟩
  have HB0 := Lib.hid hb0
  clear hs0 hb0 HF
  obtain ⟨g, hg⟩ : ∃ g, g = w.heap.size := ⟨_, rfl⟩
  have HG := Lib.hid hg
  rw [← hg] at HS0 ⊢
  clear hg
  go_wp2_with fail
  go_loopw [4, 5] (fun o i wr => ∃ (at_ : Nat) (ls : List (List UInt8)), i = .int .i64 at_ ∧ at_ ≤ ll ∧ Hid (ls.length ≤ at_) ∧ Hid (Bods wr (w.heap.size + 1) o ls) ∧ Hid (SrcL wr g (some (l.drop at_))) ∧ Hid (Below w.heap.size w wr) ∧ Hid (∀ cs n, ScanR (l.drop at_) cs n → bs = ls ++ cs ∧ m = at_ + n)) (fun _ i _ => ll - (intOf i).toNat)
  case atStart => exact ⟨0, [], rfl, by omega, by show 0 ≤ 0; omega, Bods.nil _ _, HS0, HB0, fun cs n k => by
    obtain ⟨e1, e2⟩ := HSC.out.unique k
    exact ⟨e1, by omega⟩⟩
  case round =>
    obtain ⟨at_, ls, rfl, hat, HLS, HO, HS, HB, HI⟩ := hrel
    have hz := HB.out.size
    have hglt : g < wr.heap.size := HS.out.lt
    obtain ⟨l', hl'⟩ : ∃ x, x = l.drop at_ := ⟨_, rfl⟩
    have HL' := Lib.hid hl'
    have hll' : l'.length = ll - at_ := by rw [hl', List.length_drop, HL.out]
    rw [← hl'] at HS
    clear hl'
    go_wp2_with fail
    refine (stext_any g (some l') 65536 wr HS.out (by decide)).mono ?_
    rintro e w1 ⟨rfl, hs1, ho1⟩
    have hb1 := HB.out.trans (ho1.below hz (by rw [HG.out]; exact Nat.le_refl _))
    have hz1 := hb1.size
    have hn1 := @next_none l'
    have hn2 := fun r => @next_short l' r
    have hn3 := fun r => @next_long l' r
    have hle := fun r h => And.intro (@text_lt l' r h) (And.intro (@text_drop l' r h) (@text_le l' r h).2)
    obtain ⟨body, st1, hbs⟩ : ∃ body st1, rdText 65536 (some l') = (body, st1) := ⟨_, _, rfl⟩
    rw [hbs] at hs1 hn1 hn2 hn3 hle
    rw [hbs]
    have HS1 := Lib.hid hs1
    have HB1 := Lib.hid hb1
    have HO1 := Lib.hid ho1
    have HN1 := Lib.hid hn1
    have HN2 := Lib.hid hn2
    have HN3 := Lib.hid hn3
    have HLE := Lib.hid hle
    have HO2 := Lib.hid (HO.out.only ho1 (by rw [HG.out]; omega))
    clear hs1 hb1 ho1 hn1 hn2 hn3 hbs hle HS HO HB
    go_wp2_with fail
    refine (sleftY g st1 w1 HS1.out).mono ?_
    rintro e w1' ⟨rfl, rfl⟩
    rcases st1 with _ | r
    · have hno : nextF l' = none := HN1.out rfl
      have e0 : leftOf none = 0 := rfl
      rw [e0]
      obtain ⟨e1, e2⟩ := HI.out [] 0 (.stop (by rw [← HL'.out]; exact hno))
      rw [List.append_nil] at e1
      rw [Nat.add_zero] at e2
      have HE1 := Lib.hid e1
      have HE2 := Lib.hid e2
      clear hno e1 e2 HN1 HN2 HN3 HI
      go_wp2_with fail
      refine (readsum_any g none w1 HS1.out).mono ?_
      rw [rdSum_none]
      obtain ⟨q, hq⟩ : ∃ q, q = (rdSum 4 0 0 none).1 := ⟨_, rfl⟩
      rw [← hq]
      clear hq
      rintro e w2 ⟨rfl, hs2, ho2⟩
      have HB2 := Lib.hid (HB1.out.trans (ho2.below hz1 (by rw [HG.out]; exact Nat.le_refl _)))
      have HO3 := Lib.hid (HO2.out.only ho2 (by rw [HG.out]; omega))
      have HS2 := Lib.hid hs2
      clear hs2 ho2
      go_wp2_with fail
      refine (sbad_any g none w2 HS2.out).mono ?_
      rintro e w2' ⟨rfl, rfl⟩
      simp only [Option.isNone_none]
      go_wp2_with fail
      go_ret2
      exact ⟨_, by rw [HE2.out]; rfl, by rw [HE1.out]; exact HO3.out.base (by omega), HB2.out⟩
    · have e0 : leftOf (some r) = (r.length : Int) := rfl
      rw [e0]
      obtain ⟨hrl, hrd0, hbl⟩ := HLE.out r rfl
      have HRD0 := Lib.hid hrd0
      clear hrd0
      obtain ⟨k, hk⟩ : ∃ k, k = r.length := ⟨_, rfl⟩
      have HK := Lib.hid hk
      rw [← hk] at hrl ⊢
      clear hk
      by_cases hsh : k < 4
      · have hno : nextF l' = none := HN2.out r rfl (by rw [← HK.out]; exact hsh)
        have hst2 := rdSum_short 4 0 0 r (by rw [← HK.out]; exact hsh)
        obtain ⟨e1, e2⟩ := HI.out [] 0 (.stop (by rw [← HL'.out]; exact hno))
        rw [List.append_nil] at e1
        rw [Nat.add_zero] at e2
        have HE1 := Lib.hid e1
        have HE2 := Lib.hid e2
        have HR := Lib.hid (readsum_any g (some r) w1 HS1.out)
        rw [hst2] at HR
        obtain ⟨q, hq⟩ : ∃ q, q = (rdSum 4 0 0 (some r)).1 := ⟨_, rfl⟩
        rw [← hq] at HR
        clear hno e1 e2 HN1 HN2 HN3 HI hst2 hq
        go_wp2_with fail
        refine HR.out.mono ?_
        rintro e w2 ⟨rfl, hs2, ho2⟩
        have HB2 := Lib.hid (HB1.out.trans (ho2.below hz1 (by rw [HG.out]; exact Nat.le_refl _)))
        have HO3 := Lib.hid (HO2.out.only ho2 (by rw [HG.out]; omega))
        have HS2 := Lib.hid hs2
        clear hs2 ho2
        go_wp2_with fail
        refine (sbad_any g none w2 HS2.out).mono ?_
        rintro e w2' ⟨rfl, rfl⟩
        simp only [Option.isNone_none]
        go_wp2_with fail
        go_ret2
        exact ⟨_, by rw [HE2.out]; rfl, by rw [HE1.out]; exact HO3.out.base (by omega), HB2.out⟩
      · have hnx := HN3.out r rfl (by rw [← HK.out]; omega)
        obtain ⟨hst2, -⟩ := rdSum_four (r := r) (by rw [← HK.out]; omega)
        have HR := Lib.hid (readsum_any g (some r) w1 HS1.out)
        rw [hst2] at HR
        have hqlt := rdSum_lt 4 0 0 (some r) (by decide)
        obtain ⟨q, hq⟩ : ∃ q, q = (rdSum 4 0 0 (some r)).1 := ⟨_, rfl⟩
        rw [← hq] at HR hnx hqlt
        have hql : q < 4294967296 := hqlt
        rw [← HK.out, hll'] at hnx
        obtain ⟨E, hE⟩ : ∃ E : Nat, E = ll - k := ⟨_, rfl⟩
        have hEi : (ll : Int) - (k : Int) = (E : Int) := by omega
        have eE : ll - at_ - k = E - at_ := by omega
        rw [eE] at hnx
        have HNX := Lib.hid hnx
        have HE := Lib.hid hE
        have hE1 : at_ < E := by omega
        have hE2 : E + 4 ≤ ll := by omega
        clear hnx hst2 hq hqlt eE hE HN1 HN2 HN3 e0
        go_wp2_with fail
        refine HR.out.mono ?_
        rintro e w2 ⟨rfl, hs2, ho2⟩
        have HB2 := Lib.hid (HB1.out.trans (ho2.below hz1 (by rw [HG.out]; exact Nat.le_refl _)))
        have HO3 := Lib.hid (HO2.out.only ho2 (by rw [HG.out]; omega))
        have HS2 := Lib.hid hs2
        clear hs2 ho2
        obtain ⟨b, off, rfl⟩ : ∃ b off, A = some ⟨b, off, none⟩ := by
          obtain ⟨A', cap', hv, _, _, h4⟩ := H.out
          injection hv with e1 e2 e3
          subst e1
          obtain ⟨b, off, e, _⟩ := h4 (by have := HL.out; omega)
          exact ⟨b, off, e⟩
        have hrd := (H.out.keep HB2.out).mid (k := at_) (n := E - at_) (by have := HL.out; omega) (by omega)
        rw [← HL'.out] at hrd
        have HRD := Lib.hid hrd
        have hlen : (l'.take (E - at_)).length ≤ 9223372036854775807 := by rw [List.length_take]; omega
        have HSUM := Lib.hid (sum_any _ _ w2 _ hrd hlen)
        clear hrd hlen
        go_wp2_with fail
        refine (sbad_any g (some (r.drop 4)) w2 HS2.out).mono ?_
        rintro e w2' ⟨rfl, rfl⟩
        simp only [Option.isNone_some]
        go_wp2_with fail
        refine HSUM.out.mono ?_
        rintro e w2' ⟨rfl, rfl⟩
        obtain ⟨x, hx⟩ : ∃ x, x = crcOf (l'.take (E - at_)) := ⟨_, rfl⟩
        rw [← hx] at HNX ⊢
        clear hx HSUM HRD
        by_cases hqx : q = x
        rotate_left
        · have hne : ((q : Int) != (x : Int)) = true := by simp; omega
          rw [if_neg hqx] at HNX
          obtain ⟨e1, e2⟩ := HI.out [] 0 (.stop (by rw [← HL'.out]; exact HNX.out))
          rw [List.append_nil] at e1
          rw [Nat.add_zero] at e2
          have HE1 := Lib.hid e1
          have HE2 := Lib.hid e2
          clear e1 e2 HI hqx
          go_wp2_with fail
          go_ret2
          exact ⟨_, by rw [HE2.out]; rfl, by rw [HE1.out]; exact HO3.out.base (by omega), HB2.out⟩
        · rw [if_pos hqx] at HNX
          subst hqx
          have hI2 : ∀ cs n, ScanR (l.drop (E + 4)) cs n → bs = (ls ++ [body]) ++ cs ∧ m = (E + 4) + n := fun cs n hk => by
            have e4 : E + 4 = at_ + (E - at_ + 4) := by omega
            rw [e4, ← List.drop_drop, ← HL'.out] at hk
            obtain ⟨e1, e2⟩ := HI.out (body :: cs) (E - at_ + 4 + n) (by rw [← HL'.out]; exact .step HNX.out hk)
            exact ⟨by rw [e1]; simp, by omega⟩
          have HI2 := Lib.hid hI2
          have hbl2 : body.length ≤ 140737488351232 := by omega
          obtain ⟨v1, w3, hrun, hb3, hv1, hz3⟩ := bytes_rds body hbl2 w2
          have HB3 := Lib.hid (HB2.out.trans (hb3.mono HB2.out.size))
          have hown := fun q hq => World.ownsRow.lt (HO3.out).choose_spec.2.1 q hq
          have hbx : Below w3.heap.size w3 (w3.alloc (.cells #[v1] 33)) := (Below.refl _ _).alloc (Nat.le_refl _) _
          have HO4 := Lib.hid ((HO3.out.below hb3).below hbx)
          have hz2 := HB2.out.size
          have hg2 : g < w2.heap.size := HS2.out.lt
          have hu := (hv1.keep (w' := w3.alloc (.cells #[v1] 33)) fun b hb => hbx.block b (by omega)).imp (T := fun b => w.heap.size + 1 ≤ b ∧ b < (w3.alloc (.cells #[v1] 33)).heap.size ∧ _ ≠ some b) fun b hb => ⟨by have := HG.out; omega, by simp; omega, fun e => by have := hown b e; omega⟩
          have HU := Lib.hid hu
          have hc0 : (w3.alloc (.cells #[v1] 33)).cell? ⟨w3.heap.size, 0, none⟩ = some v1 := Go.Joins.cell_of_block (heap_alloc_new w3 _) 0
          have HC0 := Lib.hid hc0
          have HBX := Lib.hid (HB3.out.alloc (by omega) (.cells #[v1] 33))
          have HS4 := Lib.hid ((HS2.out.keep hb3 hg2).keep hbx (by omega))
          have hls : ls.length ≤ at_ := HLS.out
          have hbb : w.heap.size + 1 ≤ (w3.alloc (.cells #[v1] 33)).heap.size := by simp; omega
          have HBB := Lib.hid hbb
          obtain ⟨X, y, e3, -⟩ := id hv1
          clear hI2 hb3 hv1 hown hbx hu hc0 HI hbl hbb hz3
          subst e3
          go_wp2_with (at_builtin; go_must (refine append_body rfl _ _ rfl (w.heap.size + 1) _ ls rfl HO4.out _ _ body rfl HC0.out HU.out HBB.out (by omega) ?_))
          intro v2 w4 hv2 hg4
          have hgr := hg4
          have HB5 := Lib.hid (HBX.out.grown hg4 HBX.out.size (fun q hq => Nat.le_of_succ_le ((World.ownsRow.lt (HO4.out).choose_spec.2.1 q hq)).1))
          have HO5 := Lib.hid hv2
          have HS5 : Hid (SrcL w4 g (some (r.drop 4))) := HS4.out.of (hg4.block g HS4.out.lt (fun e => by have := (World.ownsRow.lt (HO4.out).choose_spec.2.1 g e.symm).1; have := HG.out; omega))
          have hls5 : (ls ++ [body]).length ≤ E + 4 := by simp; omega
          have HLS5 := Lib.hid hls5
          clear hv2 hg4 hgr hls5 hrun
          go_wp2_with fail
          refine (sleftY g _ w4 HS5.out).mono ?_
          rintro e w4' ⟨rfl, rfl⟩
          have e0 : leftOf (some (r.drop 4)) = ((ll - (E + 4) : Nat) : Int) := by
            show (((r.drop 4).length : Nat) : Int) = _
            rw [List.length_drop, ← HK.out]
            have := HE.out
            omega
          rw [e0]
          have hdr : r.drop 4 = l.drop (E + 4) := by
            have h1 := HRD0.out
            rw [← HK.out, hll'] at h1
            rw [h1, HL'.out, List.drop_drop, List.drop_drop]
            congr 1
            have := HE.out
            omega
          rw [hdr] at HS5
          clear e0 hdr
          go_wp2_with fail
          go_roundw
          case rel => exact ⟨E + 4, ls ++ [body], by go_num, by omega, HLS5, HO5, HS5, HB5, HI2⟩
          case measure => simp [intOf]; omega
end Go.Proofs.YtclgekmpldeedaaGreat
