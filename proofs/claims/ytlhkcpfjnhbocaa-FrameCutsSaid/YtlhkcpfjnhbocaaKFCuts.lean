/- Of frames one behind the other, cut off anywhere, just those stand that are whole. No conditions. -/
import Derived.Test.YtlhkcpfjnhbocaaKFrmL
import Derived.Test.YtlhkcpfjnhbocaaKOpenL
import Derived.SizedLaws
import Derived.ProofKit
import Derived.OpenShut
import Derived.ShutString
import Derived.ChangeOld
import Derived.Below
namespace Go.Proofs.Ytlhkcpfjnhbocaa
set_option linter.unusedVariables false
set_option linter.unusedSimpArgs false
open Go.RowKit
/-- Frames one behind the other. -/
def framesF (ls : List (List UInt8)) : List UInt8 := (ls.map frameF).flatten
theorem framesF_cons (l : List UInt8) (ls : List (List UInt8)) : framesF (l :: ls) = frameF l ++ framesF ls := by simp [framesF]
theorem framesF_take (ls : List (List UInt8)) (k : Nat) (h : k < ls.length) : framesF (ls.take (k + 1)) = framesF (ls.take k) ++ frameF ls[k] := by
  rw [List.take_succ_eq_append_getElem h]
  unfold framesF
  rw [List.map_append, List.flatten_append]
  simp only [List.map_cons, List.map_nil, List.flatten_cons, List.flatten_nil, List.append_nil]
/-- How many frames are whole in the first n bytes. -/
theorem scan_cut : ∀ (ls : List (List UInt8)) (n k : Nat), (∀ l ∈ ls, l.length ≤ 65536) → k ≤ ls.length → (framesF (ls.take k)).length ≤ n → (∀ h : k < ls.length, n < (framesF (ls.take (k + 1))).length) → n ≤ (framesF ls).length →
    ScanR ((framesF ls).take n) (ls.take k) (framesF (ls.take k)).length
  | ls, n, 0, hl, hk, h1, h2, h3 => by
    rw [List.take_zero]
    refine .stop ?_
    match ls, hl, h2, h3 with
    | [], _, _, _ => simp only [framesF, List.map_nil, List.flatten_nil, List.take_nil]; exact next_nil
    | l :: r, hl, h2, h3 =>
      have h4 := h2 (by simp)
      have e : ((l :: r).take (0 + 1)) = [l] := by simp
      rw [e, framesF_cons] at h4
      simp only [framesF, List.map_nil, List.flatten_nil, List.append_nil] at h4
      rw [frameF_length] at h4
      rw [framesF_cons, List.take_append_of_le_length (by rw [frameF_length]; omega)]
      exact next_cut l n (hl l (by simp)) h4
  | [], n, k + 1, hl, hk, h1, h2, h3 => absurd hk (by simp)
  | l :: r, n, k + 1, hl, hk, h1, h2, h3 => by
    have e1 : (l :: r).take (k + 1) = l :: r.take k := rfl
    rw [e1, framesF_cons, List.length_append] at h1
    have ih := scan_cut r (n - (frameF l).length) k (fun x hx => hl x (by simp [hx])) (by simpa using hk) (by omega) (fun h => by
      have h4 := h2 (by simpa using h)
      have e2 : (l :: r).take (k + 1 + 1) = l :: r.take (k + 1) := rfl
      rw [e2, framesF_cons, List.length_append] at h4
      omega) (by rw [framesF_cons, List.length_append] at h3; omega)
    have e3 : (framesF (l :: r)).take n = frameF l ++ (framesF r).take (n - (frameF l).length) := by
      rw [framesF_cons, List.take_append, List.take_of_length_le (by omega)]
    have hn := next_frame l ((framesF r).take (n - (frameF l).length)) (hl l (by simp))
    rw [← e3] at hn
    have hd : ((framesF (l :: r)).take n).drop (frameLen l.length) = (framesF r).take (n - (frameF l).length) := by
      rw [e3, List.drop_left' (frameF_length l)]
    rw [← hd] at ih
    have := ScanR.step hn ih
    have e4 : (framesF (l :: r.take k)).length = frameLen l.length + (framesF (r.take k)).length := by rw [framesF_cons, List.length_append, frameF_length]
    rw [e1, e4]
    exact this
theorem frames_small : ∀ (ls : List (List UInt8)), (∀ l ∈ ls, l.length ≤ 500) → (framesF ls).length ≤ 515 * ls.length
  | [], _ => by simp [framesF]
  | l :: r, h => by
    have h1 := frames_small r fun x hx => h x (by simp [hx])
    have h2 := h l (by simp)
    have h3 := (grp_length l.length).1
    rw [framesF_cons, List.length_append, frameF_length, List.length_cons]
    unfold frameLen
    omega
theorem BssAt.take {w : World} {B k : Nat} {A : Option Addr} {ls : List (List UInt8)} (h : BssAt w B A ls) : BssAt w B A (ls.take k) := fun hp => by
  rw [List.length_take] at hp
  obtain ⟨b, off, hA, hb, hc⟩ := h (by omega)
  refine ⟨b, off, hA, hb, fun i hi => ?_⟩
  rw [List.length_take] at hi
  obtain ⟨v, h1, h2⟩ := hc i (by omega)
  exact ⟨v, h1, by rw [List.getElem_take]; exact h2⟩
theorem BssAt.up {w : World} {B B' : Nat} {A : Option Addr} {ls : List (List UInt8)} (h : BssAt w B A ls) (hB : B ≤ B') : BssAt w B' A ls := fun hp => by
  obtain ⟨b, off, hA, hb, hc⟩ := h hp
  refine ⟨b, off, hA, by omega, fun i hi => ?_⟩
  obtain ⟨v, h1, h2⟩ := hc i hi
  exact ⟨v, h1, h2.upY hB⟩
end Go.Proofs.Ytlhkcpfjnhbocaa
namespace Go.Proofs.Ytlhkcpfjnhbocaa.FCuts
open Go.ChangeShapes Go.WideShapes Go.ChangeAt Go.RowKit Go.Joins OpenB
set_option linter.unusedVariables false

theorem own : ownKnob Try.prog.godebug = none := by kernel_rfl
theorem laidOut : laidOutB Try.prog = true := by kernel_rfl

set_option maxHeartbeats 4000000 in
set_option maxRecDepth 100000 in
theorem walk (A : Option Addr) (cap : Nat) (ls : List (List UInt8)) (n : Int) (w : World) (h : BssAt w w.heap.size A ls) (hcl : ls.length ≤ cap) (hcm : cap ≤ maxLen) (hAc : A = none → cap = 0) (hn1 : -9223372036854775808 ≤ n) (hn2 : n ≤ 9223372036854775807) :
    Calls Try.prog 6 #[.slice A ls.length cap, .int .i64 n] w fun e w' => e = .returned (.bool true) ∧ Below w.heap.size w w' := by
  obtain ⟨ll, hll⟩ : ∃ n, n = ls.length := ⟨_, rfl⟩
  have HL := Lib.hid hll
  have H := Lib.hid h
  rw [← hll] at hcl ⊢
  have hcm2 : cap ≤ 9223372036854775807 := by unfold maxLen at hcm; omega
  clear hll h
  go_enter Try.func6, Try.ntmps6
  go_wp2_with fail
  go_loopw [6, 7] (fun b i wr => ∃ k : Nat, i = .int .i64 k ∧ k ≤ 50 ∧ k ≤ ll ∧ Hid (OwnB wr w.heap.size b (framesF (ls.take k))) ∧ Hid (Below w.heap.size w wr) ∧ Hid (∀ l ∈ ls.take k, l.length ≤ 500)) (fun _ i _ => ll - (intOf i).toNat)
  case atStart => exact ⟨0, rfl, by omega, by omega, World.ownsRow_nil _ _ _ _, Below.refl _ _, fun l hl => absurd hl (by simp)⟩
  case round =>
    obtain ⟨k, rfl, hk50, hkl, HO, HB, HS⟩ := hrel
    have hz := HB.out.size
    by_cases hlt : k < ll
    · by_cases h50 : k = 50
      · subst h50
        go_wp2_with fail
        refine (lives10_any _).mono ?_
        rintro e v9 ⟨rfl, hb⟩
        have HF := Lib.hid (HB.out.trans (hb.mono hz))
        clear hb
        go_wp2_with fail
        go_ret
        exact ⟨rfl, HF.out⟩
      have hk50' : ¬ ((50 : Int) ≤ (k : Int)) := by omega
      obtain ⟨p, o, rfl, hp, hc⟩ := (H.out.keep HB.out) (by have := HL.out; omega)
      obtain ⟨v, c1, r1⟩ := hc k (by have := HL.out; omega)
      obtain ⟨X, x, rfl⟩ := r1.shapeY
      obtain ⟨l, hl⟩ : ∃ l, l = ls[k]'(by have := HL.out; omega) := ⟨_, rfl⟩
      have HLK := Lib.hid hl
      rw [← hl] at c1 r1
      have hlm : l.length ≤ 9223372036854775807 := by
        obtain ⟨_, c', hv, h2, ⟨h3, _⟩, _⟩ := r1
        injection hv with _ _ e3
        omega
      have R1 := Lib.hid r1
      obtain ⟨m, hm⟩ : ∃ m, m = l.length := ⟨_, rfl⟩
      have HM := Lib.hid hm
      rw [← hm] at c1 hlm
      clear hc r1 hm hl
      by_cases hbig : (500 : Int) < (m : Int)
      · go_wp2_with fail
        refine (lives10_any _).mono ?_
        rintro e v9 ⟨rfl, hb⟩
        have HF := Lib.hid (HB.out.trans (hb.mono hz))
        clear hb
        go_wp2_with fail
        go_ret
        exact ⟨rfl, HF.out⟩
      have HFR := Lib.hid (rframe_any (.slice X l.length x) l wr (R1.out.upY hz) (by have := HM.out; omega))
      have hmm := HM.out
      rw [← hmm] at HFR
      clear hmm
      go_wp2_with fail
      refine HFR.out.mono ?_
      rintro e w1 ⟨v1, rfl, hv1, hb1⟩
      have HO1 := Lib.hid (HO.out.below hb1)
      have HB1 := Lib.hid (HB.out.trans (hb1.mono hz))
      have HV1 := Lib.hid hv1.rdY
      have hz1 := HB1.out.size
      have hf1 : (framesF (ls.take k)).length ≤ 60000 := by
        have h1 := frames_small (ls.take k) HS.out
        have h2 : (ls.take k).length ≤ 50 := by rw [List.length_take]; omega
        have h3 : 515 * (ls.take k).length ≤ 515 * 50 := Nat.mul_le_mul_left _ h2
        omega
      have hf2 : (frameF l).length ≤ 600 := by
        have := (grp_length l.length).1
        rw [frameF_length]
        unfold frameLen
        have := HM.out
        omega
      have HF1 := Lib.hid hf1
      have HF2 := Lib.hid hf2
      clear hv1 hb1 hf1 hf2 HFR
      go_wp2_with (at_builtin; go_must (refine append_bytesY rfl _ _ rfl w.heap.size _ (framesF (ls.take k)) rfl HO1.out _ _ (frameF l) rfl HV1.out hz1 (by have := HF1.out; have := HF2.out; omega) ?_))
      intro v2 w2 hv2 hg2
      have HB2 := Lib.hid (below_ownY HB1.out HO1.out hz1 hg2)
      have hfk := framesF_take ls k (by have := HL.out; omega)
      rw [← HLK.out] at hfk
      rw [← hfk] at hv2
      have HO2 := Lib.hid hv2
      have hs2 : ∀ l ∈ ls.take (k + 1), l.length ≤ 500 := fun y hy => by
        rw [List.take_succ_eq_append_getElem (by have := HL.out; omega)] at hy
        rcases List.mem_append.1 hy with hy | hy
        · exact HS.out y hy
        · rw [List.mem_singleton, ← HLK.out] at hy
          subst hy
          have := HM.out
          omega
      have HS2 := Lib.hid hs2
      clear hv2 hg2 hfk hs2
      go_wp2_with fail
      go_roundw
      case rel => exact ⟨k + 1, by go_num, by omega, by omega, HO2, HB2, HS2⟩
      case measure => simp [intOf]; omega
    · have hkn : k = ll := by omega
      have hfull : ls.take k = ls := by rw [hkn, HL.out]; exact List.take_of_length_le (Nat.le_refl _)
      rw [hfull] at HO HS
      subst hkn
      obtain ⟨X, x, e⟩ := HO.out.rdY.shapeY
      subst e
      have hfx : (framesF ls).length ≤ x := by
        obtain ⟨A', c', hv, h2, _⟩ := HO.out.rdY
        injection hv with _ _ e3
        omega
      obtain ⟨F, hF⟩ : ∃ F, F = framesF ls := ⟨_, rfl⟩
      have HF := Lib.hid hF
      have hf1 : F.length ≤ 60000 := by
        have h1 := frames_small ls HS.out
        have h2 : ls.length ≤ 50 := by rw [← HL.out]; omega
        have h3 : 515 * ls.length ≤ 515 * 50 := Nat.mul_le_mul_left _ h2
        rw [hF]
        omega
      rw [← hF] at HO hfx ⊢
      obtain ⟨f, hf⟩ : ∃ f, f = F.length := ⟨_, rfl⟩
      have HFL := Lib.hid hf
      rw [← hf] at HO hf1 hfx ⊢
      clear hfull hF hf
      by_cases hlo : n < 0
      · go_wp2_with fail
        refine (lives10_any _).mono ?_
        rintro e v9 ⟨rfl, hb⟩
        have HF := Lib.hid (HB.out.trans (hb.mono hz))
        clear hb
        go_wp2_with fail
        go_ret
        exact ⟨rfl, HF.out⟩
      obtain ⟨N, rfl⟩ := Int.eq_ofNat_of_zero_le (by omega : 0 ≤ n)
      by_cases hhi : (f : Int) < (N : Int)
      · go_wp2_with fail
        refine (lives10_any _).mono ?_
        rintro e v9 ⟨rfl, hb⟩
        have HF := Lib.hid (HB.out.trans (hb.mono hz))
        clear hb
        go_wp2_with fail
        go_ret
        exact ⟨rfl, HF.out⟩
      have hNf : N ≤ f := by omega
      have hNx : N ≤ x := by omega
      have hN6 : N ≤ 60000 := by omega
      obtain ⟨w1, hw1⟩ : ∃ w1, w1 = wr := ⟨_, rfl⟩
      rw [← hw1] at HO HB hz
      rw [← hw1]
      clear hw1 hn1 hn2
      go_wp2_with fail
      go_loopw [5, 8] (fun s i wr => ∃ j z : Nat, s = .int .i64 z ∧ i = .int .i64 j ∧ j ≤ k ∧ z ≤ N ∧ Hid (z = (framesF (ls.take j)).length) ∧ Hid (Below w1.heap.size w1 wr)) (fun _ i _ => k - (intOf i).toNat)
      case atStart => exact ⟨0, 0, rfl, rfl, by omega, by omega, by show 0 = _; simp [framesF], Below.refl _ _⟩
      case round =>
        obtain ⟨j, z, rfl, rfl, hj, hzN, HZ, HB1⟩ := hrel
        have hz1 := HB1.out.size
        by_cases hlt : j < k
        · obtain ⟨p, o, rfl, hp, hc⟩ := H.out (by have := HL.out; omega)
          obtain ⟨v, c0, r0⟩ := hc j (by have := HL.out; omega)
          obtain ⟨Y, y, rfl⟩ := r0.shapeY
          have hzz := HB.out.trans (HB1.out.mono hz)
          have c1 := (hzz.cell (p := ⟨p, o + j, none⟩) hp).trans c0
          have r1 := r0.keep hzz
          obtain ⟨l, hl⟩ : ∃ l, l = ls[j]'(by have := HL.out; omega) := ⟨_, rfl⟩
          have HLK := Lib.hid hl
          rw [← hl] at c1 r1 c0 r0
          have hll5 : l.length ≤ 500 := by
            rw [hl]
            exact HS.out _ (List.getElem_mem _)
          have HL5 := Lib.hid hll5
          have hzw := hzz.size
          have HFR := Lib.hid (rframe_any (.slice Y l.length y) l wr (r1.upY hzw) (by omega))
          have R0 := Lib.hid r0
          obtain ⟨m, hm⟩ : ∃ m, m = l.length := ⟨_, rfl⟩
          have HM := Lib.hid hm
          rw [← hm] at c1 HFR c0
          have C0 := Lib.hid c0
          obtain ⟨q, hq⟩ : ∃ q, q = (frameF l).length := ⟨_, rfl⟩
          have HQ := Lib.hid hq
          have hq1 : 1 ≤ q := by rw [hq, frameF_length]; unfold frameLen; omega
          have hq6 : q ≤ 600 := by
            have := (grp_length l.length).1
            rw [hq, frameF_length]; unfold frameLen; omega
          have hnext : z + q = (framesF (ls.take (j + 1))).length := by
            rw [framesF_take ls j (by have := HL.out; omega), List.length_append, ← HZ.out, hq, hl]
          have HNX := Lib.hid hnext
          clear hc r1 r0 c0 hm hl hll5 hq hnext hzz
          go_wp2_with fail
          refine HFR.out.mono ?_
          rintro e w2 ⟨v1, rfl, hv1, hb2⟩
          obtain ⟨g, cg, e3, -, -, -⟩ := hv1.shape (by rw [← HQ.out]; exact hq1)
          rw [← HQ.out] at e3
          have HBW := Lib.hid (HB1.out.trans (hb2.mono hz1))
          subst e3
          clear hv1 hb2 HFR
          by_cases hfit : (z : Int) + (q : Int) ≤ (N : Int)
          · have hzz2 := HB.out.trans (HBW.out.mono hz)
            have hzw2 := hzz2.size
            have c2 := (hzz2.cell (p := ⟨p, o + j, none⟩) hp).trans C0.out
            have HFR := Lib.hid (rframe_any (.slice Y l.length y) l w2 ((R0.out.keep hzz2).upY hzw2) (by have := HL5.out; omega))
            have hmm := HM.out
            rw [← hmm] at HFR
            clear hmm hzz2 c1
            go_wp2_with fail
            refine HFR.out.mono ?_
            rintro e w3 ⟨v1, rfl, hv1, hb3⟩
            obtain ⟨g2, cg2, e3, -, -, -⟩ := hv1.shape (by rw [← HQ.out]; exact hq1)
            rw [← HQ.out] at e3
            have HBW3 := Lib.hid (HBW.out.trans (hb3.mono HBW.out.size))
            subst e3
            clear hv1 hb3 HFR c2
            go_wp2_with fail
            go_roundw
            case rel => exact ⟨j + 1, z + q, by go_num, by go_num, by omega, by omega, HNX, HBW3⟩
            case measure => simp [intOf]; omega
          · have HNEXT : Hid (j < k → N < (framesF (ls.take (j + 1))).length) := fun _ => by have := HNX.out; omega
            have HBx := Lib.hid (HB.out.trans (HBW.out.mono hz))
            have HOx := Lib.hid (HO.out.below HBW.out)
            have hzx := HBx.out.size
            have hsc : ScanR (F.take N) (ls.take j) z := by
              have h1 := scan_cut ls N j (fun y hy => by have := HS.out y hy; omega) (by have := HL.out; omega) (by have := HZ.out; omega) (fun hjl => HNEXT.out (by have := HL.out; omega)) (by rw [← HF.out]; have := HFL.out; omega)
              rw [HF.out, HZ.out]
              exact h1
            have HSC := Lib.hid hsc
            have hb0 : Below w2.heap.size w2 (w2.alloc (.cells #[] 5)) := (Below.refl _ _).alloc (Nat.le_refl _) _
            have HO0 := Lib.hid ((own_zeroY w2).base (B' := w.heap.size) hzx)
            have hr0 := (HOx.out.below hb0).rdY
            have HR0 := Lib.hid ((by have h1 := hr0; exact h1.takeY' (n := N) hNf))
            have HB0 := Lib.hid (HBx.out.alloc hzx (.cells #[] 5))
            have hz0 := HB0.out.size
            have hlt : (F.take N).length ≤ 60000 := by rw [List.length_take]; omega
            have HLT := Lib.hid hlt
            clear hsc hb0 hr0 hlt HNEXT
            go_wp2_with (at_builtin; go_must (refine append_bytesY rfl _ _ rfl w.heap.size _ [] rfl HO0.out _ _ (F.take N) rfl HR0.out hz0 (by have := HLT.out; simp only [List.length_nil]; omega) ?_))
            intro v2 w2 hv2 hg2
            have hb2 := below_ownY HB0.out HO0.out hz0 hg2
            have HB2 := Lib.hid hb2
            have hz2 := hb2.size
            have HD := Lib.hid (fscan_any v2 (F.take N) (ls.take j) z w2 (OwnB.rdY hv2) (by have := HLT.out; omega) HSC.out)
            clear hb2 hv2 hg2 HO0 HR0 HB0
            go_wp2_with fail
            refine HD.out.mono ?_
            rintro e w3 ⟨va, rfl, hva, hb3⟩
            have HB3 := Lib.hid (HB2.out.trans (hb3.mono hz2))
            have HVA3 := Lib.hid hva
            have hz3 := HB3.out.size
            clear hva hb3 HD
            go_wp2_with fail
            refine (lives10_any _).mono ?_
            rintro e w4 ⟨rfl, hb⟩
            have HB4 := Lib.hid (HB3.out.trans (hb.mono hz3))
            have hva := HVA3.out.below hb
            obtain ⟨A1, c1, e1, -, -⟩ := hva.shape
            have ha := hva.at e1
            have hz4 := HB4.out.size
            have htl : (ls.take j).length = j := by rw [List.length_take]; have := HL.out; omega
            have hb' : BssAt w4 w4.heap.size (some ⟨p, o, none⟩) (ls.take j) := (((H.out.keep HB4.out)).take (k := j)).up hz4
            have HSM := rsameB_any A1 (some ⟨p, o, none⟩) c1 cap (ls.take j) (ls.take j) w4.heap.size w4 (Nat.le_refl _) ha hb' (by omega) (by omega)
            rw [htl] at HSM
            rw [htl] at e1
            have HSM := Lib.hid HSM
            subst e1
            clear hb hva ha hb' htl
            go_wp2_with fail
            refine HSM.out.mono ?_
            rintro e w5 ⟨rfl, hb5⟩
            have HB5 := Lib.hid (HB4.out.trans (hb5.mono HB4.out.size))
            clear hb5 HSM
            simp only [decide_true]
            go_wp2_with fail
            go_ret
            exact ⟨by simp, HB5.out⟩
        · have hjk : j = k := by omega
          have HNEXT : Hid (j < k → N < (framesF (ls.take (j + 1))).length) := fun h => absurd h hlt
          subst hjk
          have HBW := HB1
          obtain ⟨w2, hw2⟩ : ∃ w2, w2 = wr := ⟨_, rfl⟩
          rw [← hw2] at HBW HB1 hz1
          rw [← hw2]
          clear hw2
          have HBx := Lib.hid (HB.out.trans (HBW.out.mono hz))
          have HOx := Lib.hid (HO.out.below HBW.out)
          have hzx := HBx.out.size
          have hsc : ScanR (F.take N) (ls.take j) z := by
            have h1 := scan_cut ls N j (fun y hy => by have := HS.out y hy; omega) (by have := HL.out; omega) (by have := HZ.out; omega) (fun hjl => HNEXT.out (by have := HL.out; omega)) (by rw [← HF.out]; have := HFL.out; omega)
            rw [HF.out, HZ.out]
            exact h1
          have HSC := Lib.hid hsc
          have hb0 : Below w2.heap.size w2 (w2.alloc (.cells #[] 5)) := (Below.refl _ _).alloc (Nat.le_refl _) _
          have HO0 := Lib.hid ((own_zeroY w2).base (B' := w.heap.size) hzx)
          have hr0 := (HOx.out.below hb0).rdY
          have HR0 := Lib.hid ((by have h1 := hr0; exact h1.takeY' (n := N) hNf))
          have HB0 := Lib.hid (HBx.out.alloc hzx (.cells #[] 5))
          have hz0 := HB0.out.size
          have hlt : (F.take N).length ≤ 60000 := by rw [List.length_take]; omega
          have HLT := Lib.hid hlt
          clear hsc hb0 hr0 hlt HNEXT
          go_wp2_with (at_builtin; go_must (refine append_bytesY rfl _ _ rfl w.heap.size _ [] rfl HO0.out _ _ (F.take N) rfl HR0.out hz0 (by have := HLT.out; simp only [List.length_nil]; omega) ?_))
          intro v2 w2 hv2 hg2
          have hb2 := below_ownY HB0.out HO0.out hz0 hg2
          have HB2 := Lib.hid hb2
          have hz2 := hb2.size
          have HD := Lib.hid (fscan_any v2 (F.take N) (ls.take j) z w2 (OwnB.rdY hv2) (by have := HLT.out; omega) HSC.out)
          clear hb2 hv2 hg2 HO0 HR0 HB0
          go_wp2_with fail
          refine HD.out.mono ?_
          rintro e w3 ⟨va, rfl, hva, hb3⟩
          have HB3 := Lib.hid (HB2.out.trans (hb3.mono hz2))
          have HVA3 := Lib.hid hva
          have hz3 := HB3.out.size
          clear hva hb3 HD
          go_wp2_with fail
          refine (lives10_any _).mono ?_
          rintro e w4 ⟨rfl, hb⟩
          have HB4 := Lib.hid (HB3.out.trans (hb.mono hz3))
          have hva := HVA3.out.below hb
          obtain ⟨A1, c1, e1, -, -⟩ := hva.shape
          have ha := hva.at e1
          have hz4 := HB4.out.size
          have htl : (ls.take j).length = j := by rw [List.length_take]; have := HL.out; omega
          have hb' : BssAt w4 w4.heap.size A (ls.take j) := (((H.out.keep HB4.out)).take (k := j)).up hz4
          have HSM := rsameB_any A1 A c1 cap (ls.take j) (ls.take j) w4.heap.size w4 (Nat.le_refl _) ha hb' (by omega) (by omega)
          rw [htl] at HSM
          rw [htl] at e1
          have HSM := Lib.hid HSM
          subst e1
          clear hb hva ha hb' htl
          go_wp2_with fail
          refine HSM.out.mono ?_
          rintro e w5 ⟨rfl, hb5⟩
          have HB5 := Lib.hid (HB4.out.trans (hb5.mono HB4.out.size))
          clear hb5 HSM
          simp only [decide_true]
          go_wp2_with fail
          go_ret
          exact ⟨by simp, HB5.out⟩

set_option maxRecDepth 100000 in
theorem lifted (os : Os) (started : os.Started) (H : Type) (enc : TypeId × Value → H) :
    ReturnsInHanded {} Try.checked os 6 .any (Rows.frameCutsSpec.pre6 enc Try.prog Try.f6 Rows.frameCutsRow.domain false) (Rows.frameCutsSpec.post enc Try.prog Try.f6 false true false false) := by
  refine returnsInHanded_of_change_sized (C := Try.checked) own started (by kernel_rfl) Try.func6
    (ChangeSpec.witness6 (enc := enc) (C := Try.checked) false ⟨#[], #[.slice none 0 0, .int .i64 0], []⟩ 8 (by kernel_rfl) (by kernel_rfl) (by kernel_rfl) (by kernel_rfl)) ?_
  intro W base args ds gs before hval0 hW hcnd hsz0 _
  have hval : ∀ (j : Nat) t v, Try.f6.params[j]? = some t → args[j]? = some v → Value.okWide Try.prog W .any base t v := hval0
  have hsz : (DataW.weightsEach Try.prog (Try.f6.params.toList ++ Rows.frameCutsSpec.plain.varTypes Try.prog) (ds ++ gs)).all (· ≤ reachBytes) = true := hsz0
  have hW' := hW
  obtain ⟨p, q, hA0, hV, rfl, hfz, hnd⟩ := hW
  have hA : DataW.TrodAll enc Try.prog W 0 (fun _ => true) true Try.f6.params.toList args.toList ds p := hA0
  rw [Try.params6] at hA hval hsz
  obtain ⟨v0, v1, d0, d1, p0, p1, rfl, rfl, rfl, h0, h1⟩ := trodAll_two hA
  obtain ⟨rfl, rfl⟩ := trodVars_none hV
  obtain ⟨A0, n0, c0, rfl⟩ := okWide_slice Try.underlying31 (hval 0 31 v0 rfl rfl)
  have k0 := h0
  have lt0 : ∀ x ∈ p0, x.block < W.heap.size := by obtain ⟨m, hm⟩ := k0; exact DataW.trod_lt m _ _ _ hm
  obtain ⟨a1, rfl, rfl, rfl, wa1⟩ := open_int Try.underlying3 (hval 1 3 v1 rfl rfl) h1
  clear hA0 hval0
  obtain ⟨ys0, hn0, hcl0, hm0, hA0, hz0⟩ : ∃ ys : List (List UInt8), n0 = ys.length ∧ ys.length ≤ c0 ∧ c0 ≤ maxLen ∧ (A0 = none → c0 = 0) ∧ BssAt W W.heap.size A0 ys := by
    obtain ⟨m, hm⟩ := k0
    obtain ⟨B, e, ys, he, g0, g1, g2, g3⟩ := open_bss hm
    have he' : [Value.slice A0 n0 c0] = [Value.slice B ys.length e] := he
    simp only [List.cons.injEq, Value.slice.injEq, and_true] at he'
    obtain ⟨rfl, rfl, rfl⟩ := he'
    exact ⟨ys, rfl, g0, g1, g2, g3⟩
  subst hn0
  have ha1 := in64_of_wf wa1
  refine (walk A0 c0 ys0 a1 W hz0 hcl0 hm0 hA0 ha1.1 ha1.2).mono fun e W' ⟨he, bel⟩ => ?_
  subst he
  exact ⟨_, rfl, _, _, _, [], _, [], hW', trodAll_mk1 (shut_bool Try.underlying4 _), trodAll_mk2 (Below.trod laidOut (by kernel_rfl) (of_decide_eq_true (by kernel_rfl)) k0 bel lt0) (shut_int Try.underlying3 wa1), rfl, bel.frame _, fun h => by cases h⟩

/-- The statement. -/
theorem proved : Rows.FrameCutsSaid :=
  OpenClaim.holds_of_wide 6 Try.f6 rfl rfl rfl rfl rfl rfl rfl ⟨rfl, rfl, rfl, rfl, rfl⟩ rfl rfl rfl rfl rfl (by kernel_rfl) Try.func6 (by kernel_rfl)
    (of_decide_eq_true (by kernel_rfl)) (by unfold Func.isWrapper; first | (rw [if_pos (by decide +kernel)]; kernel_rfl) | (rw [if_neg (by decide +kernel)]; exact ⟨rfl, rfl⟩))
    (fun os started H enc _ => lifted os started H enc)

end Go.Proofs.Ytlhkcpfjnhbocaa.FCuts
