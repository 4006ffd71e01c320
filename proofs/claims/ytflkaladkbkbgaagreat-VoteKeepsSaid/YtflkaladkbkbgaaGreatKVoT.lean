/- What the file of votes holds, plain: frames of ballots, one behind the other; a crash cuts within the last one. -/
import Derived.Test.YtflkaladkbkbgaaGreatKVoR
import Derived.Test.YtflkaladkbkbgaaGreatKVoL
namespace Go.Proofs.YtflkaladkbkbgaaGreat
set_option linter.unusedVariables false
set_option linter.unusedSimpArgs false
open Go.RowKit Go.Maps
set_option maxRecDepth 100000
def bodB (p : Int × Int) : List UInt8 := grp p.1.toNat ++ grp (zig p.2)
def catB (L : List (Int × Int)) : List UInt8 := (L.map fun p => codeF p.1 p.2).flatten
def lastL (L : List (Int × Int)) : Int × Int := L.getLast?.getD (0, -1)
theorem codeF_eq (p : Int × Int) : codeF p.1 p.2 = frameF (bodB p) := rfl
theorem mayB_iff {t n : Int} : mayB t n = true ↔ (0 ≤ t ∧ t ≤ 1099511627776) ∧ (-1 ≤ n ∧ n ≤ 63) := by
  unfold mayB
  simp [and_assoc]
theorem bodB_small (p : Int × Int) : (bodB p).length ≤ 22 := by
  unfold bodB
  have h1 := (grp_length p.1.toNat).1
  have h2 := (grp_length (zig p.2)).1
  rw [List.length_append]
  omega
theorem code_small (p : Int × Int) : (codeF p.1 p.2).length ≤ 40 := by
  rw [codeF_eq, frameF_length]
  unfold frameLen
  have h1 := (grp_length (bodB p).length).1
  have h2 := bodB_small p
  omega
theorem bodB_pos (p : Int × Int) : 0 < (codeF p.1 p.2).length := by
  rw [codeF_eq, frameF_length]
  unfold frameLen
  omega
theorem rdN_grp (most a : Nat) (r : List UInt8) (ha : a < 18446744073709551616) (hm : a ≤ most) : rdN most (some (grp a ++ r)) = (a, some r) := by
  have hg := getG_grp a r ha
  have hl := (grp_length a).2
  simp only [rdN]
  rw [hg, if_neg (by simp only; omega)]
  simp only [List.drop_left]
theorem read_back (p : Int × Int) (h : mayB p.1 p.2 = true) : readOk (bodB p) = true ∧ readBt (bodB p) = p.1 ∧ readBn (bodB p) = p.2 := by
  have h' := mayB_iff.1 h
  have hz : zig p.2 < 18446744073709551616 := zig_lt _ (by omega) (by omega)
  have e1 : rdCount 1099511627776 (some (bodB p)) = (p.1.toNat, some (grp (zig p.2))) := by
    unfold rdCount bodB
    rw [if_neg (by decide)]
    have e : mc 1099511627776 = 1099511627776 := by unfold mc; rw [if_pos (by decide)]; rfl
    rw [e]
    exact rdN_grp _ _ _ (by omega) (by omega)
  have e2 : rdInt (some (grp (zig p.2))) = (p.2, some []) := by
    unfold rdInt
    have h1 := rdN_grp 18446744073709551615 (zig p.2) [] hz (by omega)
    rw [List.append_nil] at h1
    rw [h1, zag_zig]
  have b1 : readBt (bodB p) = p.1 := by unfold readBt; rw [e1]; simp only; omega
  have b2 : readBn (bodB p) = p.2 := by unfold readBn; rw [e1]; simp only; rw [e2]
  refine ⟨?_, b1, b2⟩
  unfold readOk restB
  rw [e1]
  simp only
  rw [e2, b1, b2, h]
  rfl
theorem lastB_map (L : List (Int × Int)) (h : ∀ p ∈ L, mayB p.1 p.2 = true) : lastB (L.map bodB) = lastL L := by
  rcases List.eq_nil_or_concat L with rfl | ⟨l, p, rfl⟩
  · rfl
  · obtain ⟨k1, k2, k3⟩ := read_back p (h p (by simp))
    unfold lastB lastL
    simp [k1, k2, k3]
theorem catB_snoc (L : List (Int × Int)) (p : Int × Int) : catB (L ++ [p]) = catB L ++ codeF p.1 p.2 := by simp [catB]
theorem scan_cat : ∀ (L : List (Int × Int)) (r : List UInt8), nextF r = none → ScanR (catB L ++ r) (L.map bodB) (catB L).length
  | [], r, h => .stop h
  | p :: L, r, h => by
    have e : catB (p :: L) ++ r = frameF (bodB p) ++ (catB L ++ r) := by simp [catB, codeF_eq]
    have hn := next_frame (bodB p) (catB L ++ r) (by have := bodB_small p; omega)
    rw [← e] at hn
    have hd : (catB (p :: L) ++ r).drop (frameLen (bodB p).length) = catB L ++ r := by
      rw [e, List.drop_left' (frameF_length _)]
    have hl : (catB (p :: L)).length = frameLen (bodB p).length + (catB L).length := by
      rw [← frameF_length, ← codeF_eq]; simp [catB]
    rw [hl, List.map_cons]
    exact .step hn (by rw [hd]; exact scan_cat L r h)
theorem catB_small (L : List (Int × Int)) : (catB L).length ≤ 40 * L.length := by
  induction L with
  | nil => simp [catB]
  | cons p L ih =>
    have h1 := code_small p
    have e : (catB (p :: L)).length = (codeF p.1 p.2).length + (catB L).length := by simp [catB]
    rw [e, List.length_cons]
    omega
/-- Between two calls: the power is on, and the file is frames of ballots, all of them sure. -/
structure VoIs (M : DiskM) (L : List (Int × Int)) : Prop where
  on : M.gone = false
  may : ∀ p ∈ L, mayB p.1 p.2 = true
  few : L.length ≤ 32
  fs : (M.fs voteN = none ∧ L = []) ∨ M.fs voteN = some ⟨catB L, (catB L).length⟩
/-- In the middle of noting p. -/
structure VoMid (M : DiskM) (L : List (Int × Int)) (p : Int × Int) : Prop where
  mayp : mayB p.1 p.2 = true
  may : ∀ p ∈ L, mayB p.1 p.2 = true
  few : L.length ≤ 32
  fs : (M.fs voteN = none ∧ L = []) ∨ ∃ j, M.fs voteN = some ⟨catB L ++ (codeF p.1 p.2).take j, (catB L).length⟩
theorem lastL_may {L : List (Int × Int)} (h : ∀ p ∈ L, mayB p.1 p.2 = true) : mayB (lastL L).1 (lastL L).2 = true := by
  rcases List.eq_nil_or_concat L with rfl | ⟨l, p, rfl⟩
  · decide
  · unfold lastL
    simpa using h p (by simp)
theorem VoIs.mid {M : DiskM} {L : List (Int × Int)} (h : VoIs M L) : VoMid M L (lastL L) := by
  refine ⟨lastL_may h.may, h.may, h.few, ?_⟩
  rcases h.fs with h1 | h1
  · exact .inl h1
  · exact .inr ⟨0, by rw [h1, List.take_zero, List.append_nil]⟩
theorem VoIs.read {M : DiskM} {L : List (Int × Int)} (h : VoIs M L) : (M.read voteN = ([], 4) ∧ L = []) ∨ (M.read voteN = (catB L, 0)) := by
  unfold DiskM.read
  rw [h.on, if_neg (by decide), if_neg (by decide)]
  rcases h.fs with ⟨h1, h2⟩ | h1
  · rw [h1]; exact .inl ⟨rfl, h2⟩
  · rw [h1]; exact .inr rfl
theorem VoIs.trimK {M : DiskM} {L : List (Int × Int)} (h : VoIs M L) (Ft : Nat → Prop) (d : Nat) : TrimK Ft d M L.length := by
  rcases h.read with ⟨h1, h2⟩ | h1
  · subst h2; exact trimK_none h1
  · have hs := scan_cat L [] next_nil
    rw [List.append_nil] at hs
    have := trimK_file (Ft := Ft) (d := d) _ _ h1 hs (by have := catB_small L; have := h.few; omega)
    rwa [List.length_map] at this
theorem rem_on {M : DiskM} (a : List UInt8) (h : M.gone = false) (hr : (M.rem a).1 ≠ 90) : (M.rem a).2.gone = false := by
  unfold DiskM.rem at hr ⊢
  rw [h, if_neg (by decide)] at hr ⊢
  by_cases hb : badNm a = true
  · rw [if_pos hb]; exact h
  rw [if_neg hb] at hr ⊢
  cases hf : M.fs a with
  | none => exact h
  | some f =>
    rw [hf] at hr
    by_cases hl : M.left = 0
    · simp only [if_pos hl] at hr; exact absurd rfl hr
    · simp only [if_neg hl]; exact h
theorem remZ_on {M : DiskM} (a : List UInt8) (h : M.gone = false) (hr : (remZ a M).1 ≠ 90) : (remZ a M).2.gone = false := by
  unfold remZ at hr ⊢
  refine rem_on a h ?_
  by_cases h4 : (M.rem a).1 = 4
  · rw [h4]; decide
  · simp only [if_neg h4] at hr; exact hr
theorem app_on {M : DiskM} (a b : List UInt8) (h : M.gone = false) (hr : (M.app a b).1 ≠ 90) : (M.app a b).2.gone = false := by
  unfold DiskM.app at hr ⊢
  rw [h, if_neg (by decide)] at hr ⊢
  split
  · exact h
  next h1 =>
    rw [if_neg h1] at hr
    split
    · exact h
    next h2 =>
      rw [if_neg h2] at hr
      split
      · exact h
      next h3 =>
        rw [if_neg h3] at hr
        split
        next h4 => rw [if_pos h4] at hr; exact absurd rfl hr
        · exact h
theorem snc_on {M : DiskM} (a : List UInt8) (h : M.gone = false) (hr : (M.snc a).1 ≠ 90) : (M.snc a).2.gone = false := by
  unfold DiskM.snc at hr ⊢
  rw [h, if_neg (by decide)] at hr ⊢
  by_cases hb : badNm a = true
  · rw [if_pos hb]; exact h
  rw [if_neg hb] at hr ⊢
  cases hf : M.fs a with
  | none => exact h
  | some f =>
    rw [hf] at hr
    by_cases hl : M.left = 0
    · simp only [if_pos hl] at hr; exact absurd rfl hr
    · simp only [if_neg hl]; exact h
theorem ren_on {M : DiskM} (a b : List UInt8) (h : M.gone = false) (hr : (M.ren a b).1 ≠ 90) : (M.ren a b).2.gone = false := by
  unfold DiskM.ren at hr ⊢
  rw [h, if_neg (by decide)] at hr ⊢
  by_cases hb : (badNm a || badNm b) = true
  · rw [if_pos hb]; exact h
  rw [if_neg hb] at hr ⊢
  cases hf : M.fs a with
  | none => exact h
  | some f =>
    rw [hf] at hr
    by_cases he : a = b
    · simp only [if_pos he]; exact h
    by_cases hl : M.left = 0
    · simp only [if_neg he, if_pos hl] at hr; exact absurd rfl hr
    · simp only [if_neg he, if_neg hl]; exact h
theorem newv_ne : voteN ≠ newNm voteN := by decide
/-- A file of votes made anew. -/
theorem rep_vote (b : List UInt8) (M : DiskM) (h : M.gone = false) :
    ((repM voteN (frameF b) M).1 = 0 → (repM voteN (frameF b) M).2.fs voteN = some ⟨frameF b, (frameF b).length⟩) ∧ ((repM voteN (frameF b) M).1 ≠ 0 → (repM voteN (frameF b) M).2.fs voteN = M.fs voteN) ∧ ((repM voteN (frameF b) M).1 ≠ 90 → (repM voteN (frameF b) M).2.gone = false) := by
  unfold repM
  obtain ⟨a, ha⟩ : ∃ a, a = newNm voteN := ⟨_, rfl⟩
  have hne : voteN ≠ a := by rw [ha]; exact newv_ne
  rw [← ha]
  clear ha
  simp only [stepsM]
  have k1 : (remZ a M).2.fs voteN = M.fs voteN := rem_other M a voteN hne
  by_cases h1 : (remZ a M).1 = 0
  · rw [if_pos h1]
    have n1 := rem_none M a h1
    have g1 := remZ_on a h (by omega)
    obtain ⟨M1, hM1⟩ : ∃ M1, M1 = (remZ a M).2 := ⟨_, rfl⟩
    rw [← hM1] at k1 n1 g1 ⊢
    have k2 := app_other M1 a (frameF b) voteN hne
    by_cases h2 : (M1.app a (frameF b)).1 = 0
    · rw [if_pos h2]
      have n2 := app_same M1 a (frameF b) h2
      have g2 := app_on a (frameF b) g1 (by omega)
      obtain ⟨M2, hM2⟩ : ∃ M2, M2 = (M1.app a (frameF b)).2 := ⟨_, rfl⟩
      rw [← hM2] at k2 n2 g2 ⊢
      have hfile : M1.file a = ⟨[], 0⟩ := by unfold DiskM.file; rw [n1]; rfl
      rw [hfile] at n2
      have k3 := snc_other M2 a voteN hne
      by_cases h3 : (M2.snc a).1 = 0
      · rw [if_pos h3]
        have n3 := snc_same M2 a _ n2 h3
        have g3 := snc_on a g2 (by omega)
        obtain ⟨M3, hM3⟩ : ∃ M3, M3 = (M2.snc a).2 := ⟨_, rfl⟩
        rw [← hM3] at k3 n3 g3 ⊢
        by_cases h4 : (M3.ren a voteN).1 = 0
        · rw [if_pos h4]
          refine ⟨fun _ => ?_, fun hn => absurd rfl hn, fun _ => ren_on a voteN g3 (by omega)⟩
          have n4 := ren_done M3 a voteN _ n3 h4
          rw [n4]
          simp
        · rw [if_neg h4]
          refine ⟨fun hn => absurd hn h4, fun _ => ?_, fun h9 => ren_on a voteN g3 h9⟩
          rw [ren_not M3 a voteN h4, k3, k2, k1]
      · rw [if_neg h3]
        exact ⟨fun hn => absurd hn h3, fun _ => by rw [k3, k2, k1], fun h9 => snc_on a g2 h9⟩
    · rw [if_neg h2]
      exact ⟨fun hn => absurd hn h2, fun _ => by rw [k2, k1], fun h9 => app_on a (frameF b) g1 h9⟩
  · rw [if_neg h1]
    exact ⟨fun hn => absurd hn h1, fun _ => by rw [k1], fun h9 => remZ_on a h h9⟩
end Go.Proofs.YtflkaladkbkbgaaGreat

/- What noting makes of the file of votes, and what is read behind a crash. -/
namespace Go.Proofs.YtflkaladkbkbgaaGreat
set_option linter.unusedVariables false
set_option linter.unusedSimpArgs false
open Go.RowKit Go.Maps
set_option maxRecDepth 100000
theorem VoIs.file {M : DiskM} {L : List (Int × Int)} (h : VoIs M L) : M.file voteN = ⟨catB L, (catB L).length⟩ := by
  unfold DiskM.file
  rcases h.fs with ⟨h1, rfl⟩ | h1
  · rw [h1]; rfl
  · rw [h1]; rfl
theorem app_cases (M : DiskM) (a b : List UInt8) (h : M.gone = false) : (M.app a b).1 = 0 ∨ ((M.app a b).1 = 90 ∧ (M.app a b).2.fs a = some ⟨(M.file a).b ++ b.take M.torn.toNat, (M.file a).sure⟩) ∨ ((M.app a b).1 ≠ 0 ∧ (M.app a b).1 ≠ 90 ∧ (M.app a b).2 = M) := by
  unfold DiskM.app
  rw [h, if_neg (by decide)]
  split
  · exact .inr (.inr ⟨by simp, by simp, rfl⟩)
  split
  · exact .inr (.inr ⟨by simp, by simp, rfl⟩)
  split
  · exact .inr (.inr ⟨by simp, by simp, rfl⟩)
  split
  · exact .inr (.inl ⟨rfl, put_fs_same _ _ _⟩)
  · exact .inl rfl
theorem snc_cases (M : DiskM) (f : FileM) (hf : M.fs voteN = some f) (h : M.gone = false) : (M.snc voteN).1 = 0 ∨ ((M.snc voteN).1 = 90 ∧ (M.snc voteN).2.fs voteN = some f) := by
  by_cases hl : M.left = 0
  · have e : M.snc voteN = (90, M.off) := by
      unfold DiskM.snc
      rw [h, if_neg (by decide), if_neg (by decide), hf]
      simp only [if_pos hl]
    rw [e]; exact .inr ⟨rfl, hf⟩
  · have e : (M.snc voteN).1 = 0 := by
      unfold DiskM.snc
      rw [h, if_neg (by decide), if_neg (by decide), hf]
      simp only [if_neg hl]
    exact .inl e
theorem remZ_fine (M : DiskM) (a : List UInt8) (ha : badNm a = false) (g : M.gone = false) (l : M.left = -1) : (remZ a M).1 = 0 ∧ (remZ a M).2.left = -1 := by
  cases hf : M.fs a with
  | none =>
    have e : M.rem a = (4, M) := by
      unfold DiskM.rem
      rw [g, if_neg (by decide), ha, if_neg (by decide), hf]
    unfold remZ
    rw [e]
    exact ⟨rfl, l⟩
  | some f =>
    have e : M.rem a = (0, (M.del a).spent) := by
      unfold DiskM.rem
      rw [g, if_neg (by decide), ha, if_neg (by decide), hf]
      simp only [l]
      rfl
    unfold remZ
    rw [e]
    refine ⟨rfl, ?_⟩
    show (if 0 < M.left then M.left - 1 else M.left) = -1
    rw [l]
    rfl
theorem note_step (M : DiskM) (L : List (Int × Int)) (p : Int × Int) (h : VoIs M L) (hp : mayB p.1 p.2 = true) :
    ((noteK L.length p.1 p.2 M).1 = 0 → ∃ L', VoIs (noteK L.length p.1 p.2 M).2 L' ∧ lastL L' = p) ∧
    ((noteK L.length p.1 p.2 M).1 = 90 → VoMid (noteK L.length p.1 p.2 M).2 L p) ∧
    ((noteK L.length p.1 p.2 M).1 ≠ 0 → (noteK L.length p.1 p.2 M).1 ≠ 90 → VoIs (noteK L.length p.1 p.2 M).2 L) := by
  unfold noteK
  by_cases hk : 32 ≤ L.length
  · rw [if_pos hk, codeF_eq]
    obtain ⟨r1, r2, r3⟩ := rep_vote (bodB p) M h.on
    refine ⟨fun h0 => ⟨[p], ⟨r3 (by omega), fun q hq => by rw [List.mem_singleton.1 hq]; exact hp, by simp, .inr ?_⟩, rfl⟩, fun h9 => ⟨hp, h.may, h.few, ?_⟩, fun h0 h9 => ⟨r3 h9, h.may, h.few, ?_⟩⟩
    · rw [r1 h0]
      simp [catB, codeF_eq]
    · rw [r2 (by omega)]
      rcases h.fs with h1 | h1
      · exact .inl h1
      · exact .inr ⟨0, by rw [h1, List.take_zero, List.append_nil]⟩
    · rw [r2 h0]; exact h.fs
  · rw [if_neg hk]
    unfold noteM
    simp only [stepsM]
    have hfile := h.file
    rcases app_cases M voteN (codeF p.1 p.2) h.on with h0 | ⟨h9, hf⟩ | ⟨h0, h9, hM⟩
    · rw [if_pos h0]
      have n1 := app_same M voteN _ h0
      have g1 := app_on voteN (codeF p.1 p.2) h.on (by omega)
      rw [hfile] at n1
      obtain ⟨M1, hM1⟩ : ∃ M1, M1 = (M.app voteN (codeF p.1 p.2)).2 := ⟨_, rfl⟩
      rw [← hM1] at n1 g1 ⊢
      rcases snc_cases M1 _ n1 g1 with h0 | ⟨h9, hf⟩
      · rw [if_pos h0]
        have n2 := snc_same M1 voteN _ n1 h0
        refine ⟨fun _ => ⟨L ++ [p], ⟨snc_on voteN g1 (by omega), fun q hq => ?_, by rw [List.length_append]; simp; omega, .inr ?_⟩, by simp [lastL]⟩, fun h => absurd h (by simp), fun h => absurd rfl h⟩
        · rcases List.mem_append.1 hq with hq | hq
          · exact h.may q hq
          · rw [List.mem_singleton.1 hq]; exact hp
        · rw [n2, catB_snoc]
      · rw [if_neg (by omega)]
        refine ⟨fun h => by omega, fun _ => ⟨hp, h.may, h.few, .inr ⟨(codeF p.1 p.2).length, ?_⟩⟩, fun _ h => absurd h9 h⟩
        rw [hf, List.take_length]
    · rw [if_neg (by omega)]
      refine ⟨fun h => by omega, fun _ => ⟨hp, h.may, h.few, .inr ⟨M.torn.toNat, ?_⟩⟩, fun _ h => absurd h9 h⟩
      rw [hf, hfile]
    · rw [if_neg h0]
      refine ⟨fun h => absurd h h0, fun h => absurd h h9, fun _ _ => ?_⟩
      rw [hM]; exact h
theorem stop_vote (M : DiskM) (n t : Int) (L : List (Int × Int)) (h : VoIs M L) : VoIs (M.stop n t).2 L := by
  unfold DiskM.stop
  split
  · exact h
  split
  · exact h
  · exact ⟨h.on, h.may, h.few, h.fs⟩
theorem crashF_take (b : List UInt8) (q : List UInt8) (n : Int) : ∃ j, (crashF ⟨b ++ q, b.length⟩ n).b = b ++ q.take j := by
  refine ⟨(min (max n 0) ((q.length : Int))).toNat, ?_⟩
  unfold crashF
  have e : ((b.length : Int) + min (max n 0) (((b ++ q).length : Int) - (b.length : Int))).toNat = b.length + (min (max n 0) ((q.length : Int))).toNat := by
    rw [List.length_append]; push_cast; omega
  simp only [e]
  rw [List.take_append, List.take_of_length_le (by omega), Nat.add_sub_cancel_left]
/-- What opening finds. -/
def FoundV (M3 : DiskM) (a b : Int × Int) : Prop :=
  (M3.read voteN = ([], 4) ∧ a = (0, -1)) ∨
  ∃ bb bs m M4, M3.read voteN = (bb, 0) ∧ ScanR bb bs m ∧ m ≤ bb.length ∧ bb.length ≤ 140737488000 ∧ bs.length ≤ 1000000 ∧ (∀ x, (bodyAt bs x).length ≤ 65536) ∧ trimM voteN bb.length m M3 = (0, M4) ∧ (lastB bs = a ∨ lastB bs = b)
theorem bodyAt_small (L : List (Int × Int)) (x : Nat) : (bodyAt (L.map bodB) x).length ≤ 65536 := by
  unfold bodyAt
  rcases h : (L.map bodB)[x]? with _ | y
  · simp
  · obtain ⟨hx, he⟩ := List.getElem?_eq_some_iff.1 h
    rw [← he]
    simp only [Option.getD_some, List.getElem_map]
    have := bodB_small (L[x]'(by simpa using hx))
    omega
theorem crash_vote (M : DiskM) (l : List (List UInt8 × Int)) (L : List (Int × Int)) (p : Int × Int) (h : VoMid M L p) (hb : l.any (fun k => badNm k.1) = false) :
    (M.crash l).1 = 0 ∧ ∃ M3, remZ (newNm voteN) (M.crash l).2 = (0, M3) ∧ FoundV M3 (lastL L) p := by
  obtain ⟨M2, hM2⟩ : ∃ M2, M2 = (M.crash l).2 := ⟨_, rfl⟩
  have h1 : (M.crash l).1 = 0 := by unfold DiskM.crash; rw [hb, if_neg (by decide)]
  have g2 : M2.gone = false := by rw [hM2]; unfold DiskM.crash; rw [hb, if_neg (by decide)]
  have l2 : M2.left = -1 := by rw [hM2]; unfold DiskM.crash; rw [hb, if_neg (by decide)]
  have f2 : M2.fs voteN = (M.fs voteN).map fun f => crashF f (keepOf l voteN) := by rw [hM2]; unfold DiskM.crash; rw [hb, if_neg (by decide)]
  rw [← hM2]
  refine ⟨h1, (remZ (newNm voteN) M2).2, ?_, ?_⟩
  · rw [← (remZ_fine M2 (newNm voteN) (by decide) g2 l2).1]
  have k3 : (remZ (newNm voteN) M2).2.fs voteN = M2.fs voteN := rem_other M2 _ _ newv_ne
  have g3 : (remZ (newNm voteN) M2).2.gone = false := remZ_on _ g2 (by rw [(remZ_fine M2 (newNm voteN) (by decide) g2 l2).1]; decide)
  have l3 := (remZ_fine M2 (newNm voteN) (by decide) g2 l2).2
  obtain ⟨M3, hM3⟩ : ∃ M3, M3 = (remZ (newNm voteN) M2).2 := ⟨_, rfl⟩
  rw [← hM3] at k3 g3 l3 ⊢
  rcases h.fs with ⟨hn, hL⟩ | ⟨j, hj⟩
  · refine .inl ⟨?_, by rw [hL]; rfl⟩
    unfold DiskM.read
    rw [g3, if_neg (by decide), if_neg (by decide), k3, f2, hn]
    rfl
  · right
    obtain ⟨i, hi⟩ := crashF_take (catB L) ((codeF p.1 p.2).take j) (keepOf l voteN)
    rw [List.take_take] at hi
    have hrd : M3.read voteN = (catB L ++ (codeF p.1 p.2).take (min i j), 0) := by
      unfold DiskM.read
      rw [g3, if_neg (by decide), if_neg (by decide), k3, f2, hj]
      simp only [Option.map_some]
      rw [hi]
    obtain ⟨u, hu⟩ : ∃ u, u = min i j := ⟨_, rfl⟩
    rw [← hu] at hrd
    have htr : ∀ n m, ∃ M4, trimM voteN n m M3 = (0, M4) := fun n m => by
      unfold trimM
      split
      · unfold DiskM.cut
        rw [g3, if_neg (by decide), if_neg (by decide), k3, f2, hj]
        simp only [Option.map_some, l3]
        exact ⟨_, rfl⟩
      · exact ⟨_, rfl⟩
    by_cases hfull : (codeF p.1 p.2).length ≤ u
    · rw [List.take_of_length_le hfull, ← catB_snoc] at hrd
      have hs := scan_cat (L ++ [p]) [] next_nil
      rw [List.append_nil] at hs
      obtain ⟨M4, hM4⟩ := htr (catB (L ++ [p])).length (catB (L ++ [p])).length
      refine ⟨_, _, _, M4, hrd, hs, Nat.le_refl _, ?_, ?_, bodyAt_small _, hM4, .inr ?_⟩
      · have h1 := catB_small (L ++ [p]); have h2 := h.few; rw [List.length_append, List.length_singleton] at h1; omega
      · have := h.few; simp; omega
      · rw [lastB_map _ (fun q hq => by
          rcases List.mem_append.1 hq with hq | hq
          · exact h.may q hq
          · rw [List.mem_singleton.1 hq]; exact h.mayp)]
        simp [lastL]
    · have hs := scan_cat L ((codeF p.1 p.2).take u) (by
        rw [codeF_eq]
        exact next_cut (bodB p) u (by have := bodB_small p; omega) (by rw [← frameF_length, ← codeF_eq]; omega))
      obtain ⟨M4, hM4⟩ := htr (catB L ++ (codeF p.1 p.2).take u).length (catB L).length
      refine ⟨_, _, _, M4, hrd, hs, by rw [List.length_append]; omega, ?_, ?_, bodyAt_small _, hM4, .inl (lastB_map L h.may)⟩
      · have h1 := catB_small L; have h2 := h.few; have h3 := code_small p; rw [List.length_append, List.length_take]; omega
      · have := h.few; simp; omega
end Go.Proofs.YtflkaladkbkbgaaGreat

/- Votes as a run sees them: what Set leaves, what opening behind a crash finds. -/
namespace Go.Proofs.YtflkaladkbkbgaaGreat
set_option linter.unusedVariables false
set_option linter.unusedSimpArgs false
open Go.RowKit Go.Maps
set_option maxRecDepth 100000
theorem LiveV.set {W w w' : World} {d v : Nat} {M M' : DiskM} {t n r t' n' : Int} {e : Ending} (h : LiveV W w d M v t n) (hs : SetR w h.Ft d v r t' n' M' e w') : e = .returned (.int .i64 r) ∧ Nonempty (LiveV W w' d M' v t' n') := by
  obtain ⟨he, hv, Ft', hn, hg, hd⟩ := hs
  have hF : ∀ k, (h.Ft k ∨ k = v) → W.heap.size ≤ k := fun k hk => by
    rcases hk with hk | hk
    · exact h.base k hk
    · rw [hk]; exact h.hvb
  exact ⟨he, ⟨⟨Ft', hd, fun k hk => hg.base h.below.size hF k (.inl hk), h.below.trans (hg.below h.below.size hF), hv, hn, h.hvb⟩⟩⟩
theorem LiveV.gr {W w w' : World} {d v : Nat} {M M' : DiskM} {t n : Int} (h : LiveV W w d M v t n) {Ft' : Nat → Prop} (hg : Gr h.Ft w Ft' w') (hd : DAt w' Ft' d M') : Nonempty (LiveV W w' d M' v t n) :=
  ⟨⟨Ft', hd, hg.base h.below.size h.base, h.below.trans (hg.below h.below.size h.base), (hg.block v (Array.getElem?_eq_some_iff.1 h.hv).1 h.hn).trans h.hv, fun hf => by
    rcases hg.ft v hf with h1 | h1
    · exact h.hn h1
    · have := (Array.getElem?_eq_some_iff.1 h.hv).1; omega, h.hvb⟩⟩
/-- Between two calls: t and n count, and the file says so. -/
def VoRun (W : World) (d v : Nat) (t n : Int) (w : World) : Prop := ∃ M L, Nonempty (LiveV W w d M v t n) ∧ VoIs M L ∧ lastL L = (t, n)
/-- t and n count; in the middle of noting p. -/
def VoEnd (W : World) (d v : Nat) (t n : Int) (p : Int × Int) (w : World) : Prop := ∃ M L, Nonempty (LiveV W w d M v t n) ∧ VoMid M L p ∧ lastL L = (t, n)
theorem VoRun.ends {W w : World} {d v : Nat} {t n : Int} (h : VoRun W d v t n w) : VoEnd W d v t n (t, n) w := by
  obtain ⟨M, L, hL, hV, hl⟩ := h
  exact ⟨M, L, hL, hl ▸ hV.mid, hl⟩
theorem VoRun.below {W w : World} {d v : Nat} {t n : Int} (h : VoRun W d v t n w) : Below W.heap.size W w := by
  obtain ⟨M, L, ⟨hL⟩, -⟩ := h
  exact hL.below
theorem VoEnd.below {W w : World} {d v : Nat} {t n : Int} {p : Int × Int} (h : VoEnd W d v t n p w) : Below W.heap.size W w := by
  obtain ⟨M, L, ⟨hL⟩, -⟩ := h
  exact hL.below
/-- What Set answers, and what is then. -/
def SetOut (W : World) (d v : Nat) (t0 n0 t n r : Int) (w' : World) : Prop :=
  (r = 0 ∧ VoRun W d v t n w') ∨ (r = 90 ∧ VoEnd W d v t0 n0 (t, n) w') ∨ (r ≠ 0 ∧ r ≠ 90 ∧ VoRun W d v t0 n0 w')
theorem set_all {W w : World} {d v : Nat} {t0 n0 : Int} (h : VoRun W d v t0 n0 w) (t n : Int) :
    Calls Tryz.prog 11 #[.pointer (some ⟨v, 0, none⟩), .int .i64 t, .int .i64 n] w fun e w' => ∃ r, e = .returned (.int .i64 r) ∧ SetOut W d v t0 n0 t n r w' := by
  obtain ⟨M, L, ⟨hL⟩, hV, hl⟩ := h
  cases hm : mayB t n
  · refine (set_bad hL.hv t n hm).mono ?_
    rintro e w' ⟨rfl, hb⟩
    exact ⟨1, rfl, .inr (.inr ⟨by decide, by decide, M, L, hL.stay hb, hV, hl⟩)⟩
  cases hf : followB t n t0 n0
  · refine (set_refused hL.hv t n hm hf).mono ?_
    rintro e w' ⟨rfl, hb⟩
    exact ⟨120, rfl, .inr (.inr ⟨by decide, by decide, M, L, hL.stay hb, hV, hl⟩)⟩
  cases hz : (t == t0 && n == n0)
  · obtain ⟨n1, n2, n3⟩ := note_step M L (t, n) hV hm
    obtain ⟨r, hr⟩ : ∃ r, r = (noteK L.length t n M).1 := ⟨_, rfl⟩
    obtain ⟨M', hM'⟩ : ∃ M', M' = (noteK L.length t n M).2 := ⟨_, rfl⟩
    have hrm : noteK L.length t n M = (r, M') := by rw [hr, hM']
    simp only [hrm] at n1 n2 n3
    by_cases h0 : r = 0
    · refine (set_core hL.at_ L.length (hV.trimK _ _) hL.hv hL.hn t n hm hf false hz r M' (fun _ => hrm) 0 t n M' (fun h => by cases h) (fun _ _ => ⟨rfl, rfl, rfl, rfl⟩) (fun _ h => absurd h0 h)).mono ?_
      rintro e w' hs
      obtain ⟨rfl, hL'⟩ := hL.set hs
      obtain ⟨L', v1, v2⟩ := n1 h0
      exact ⟨0, rfl, .inl ⟨rfl, M', L', hL', v1, v2⟩⟩
    · refine (set_core hL.at_ L.length (hV.trimK _ _) hL.hv hL.hn t n hm hf false hz r M' (fun _ => hrm) r t0 n0 M' (fun h => by cases h) (fun _ h => absurd h h0) (fun _ _ => ⟨rfl, rfl, rfl, rfl⟩)).mono ?_
      rintro e w' hs
      obtain ⟨rfl, hL'⟩ := hL.set hs
      by_cases h9 : r = 90
      · exact ⟨r, rfl, .inr (.inl ⟨h9, M', L, hL', n2 h9, hl⟩)⟩
      · exact ⟨r, rfl, .inr (.inr ⟨h0, h9, M', L, hL', n3 h0 h9, hl⟩)⟩
  · refine (set_core hL.at_ L.length (hV.trimK _ _) hL.hv hL.hn t n hm hf true hz 0 M (fun h => by cases h) 0 t n M (fun _ => ⟨rfl, rfl, rfl, rfl⟩) (fun h => by cases h) (fun h => by cases h)).mono ?_
    rintro e w' hs
    obtain ⟨rfl, hL'⟩ := hL.set hs
    simp only [Bool.and_eq_true, beq_iff_eq] at hz
    obtain ⟨rfl, rfl⟩ := hz
    exact ⟨0, rfl, .inl ⟨rfl, M, L, hL', hV, hl⟩⟩
theorem open_found {w : World} {Ft : Nat → Prop} {d : Nat} {M M3 : DiskM} {a b : Int × Int} (h : DAt w Ft d M) (h1 : remZ (newNm voteN) M = (0, M3)) (hf : FoundV M3 a b) :
    Calls Tryz.prog 7 #[.pointer (some ⟨d, 0, none⟩)] w fun e w' => ∃ v Ft' tn, e = .returned (.tuple #[.pointer (some ⟨v, 0, none⟩), .int .i64 0]) ∧ VAt w' v d tn.1 tn.2 ∧ Gr Ft w Ft' w' ∧ (tn = a ∨ tn = b) := by
  rcases hf with ⟨hr, rfl⟩ | ⟨bb, bs, m, M4, hr, hsc, hm, hbl, hcnt, hbs, htr, hab⟩
  · refine (vopen_any (M2 := M3) (tn := (0, -1)) h h1 fun W Ft' v t n hd hv hn => load_none2 hd hr hv hn).mono ?_
    rintro e w' ⟨v, Ft', rfl, hv, -, -, hg, -⟩
    exact ⟨v, Ft', _, rfl, hv, hg, .inl rfl⟩
  · refine (vopen_any (M2 := M4) (tn := lastB bs) h h1 fun W Ft' v t n hd hv hn => load_any hd bb bs m hr hsc hm hbl hcnt hbs htr hv hn).mono ?_
    rintro e w' ⟨v, Ft', rfl, hv, -, -, hg, -⟩
    exact ⟨v, Ft', _, rfl, hv, hg, hab⟩
end Go.Proofs.YtflkaladkbkbgaaGreat
