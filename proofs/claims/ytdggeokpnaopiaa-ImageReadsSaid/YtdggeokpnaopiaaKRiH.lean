/- Images: their code is read back: plain. -/
import Derived.Test.YtdggeokpnaopiaaKRiF
import Derived.Test.YtdggeokpnaopiaaKCodM
namespace Go.Proofs.Ytdggeokpnaopiaa
set_option linter.unusedVariables false
set_option linter.unusedSimpArgs false
set_option maxRecDepth 100000
/-- What lies in the ring can be read of its code. -/
def ImT.Rng (m : ImT) : Prop := ∀ j t, m.ring j = some t → rngT t
theorem ImAt.rng {w : World} {S : Nat → Prop} {g : Nat} {m : ImT} (h : ImAt w S g m) (j : Nat) (hj : j < 64) (t : VT) (ht : m.ring j = some t) : rngT t := by
  obtain ⟨C, h1, h2, h3⟩ := h
  have h4 := h3 j (by omega)
  rw [ht] at h4
  obtain ⟨q, a0, a1, a2, a3, a4, -, -, -, h5⟩ := h4
  exact rng_lv (depthT t) t _ (Nat.le_refl _) h5
theorem kept_mark {o : Option VT} (ho : ∀ t, o = some t → (checkT t = 0 ∧ sizeT t ≤ 9223372036854775807) ∧ rngT t) (r : List UInt8) : keptO (some (markK o ++ r)) = o ∧ (rdKept (some (markK o ++ r))).2.2 = some r := by
  cases o with
  | none =>
    have hb : rdByte (some (markK none ++ r)) = (0, some r) := rfl
    have hk : rdKept (some (markK none ++ r)) = (zeroT, false, some r) := by unfold rdKept; rw [hb]; rfl
    unfold keptO
    rw [hk]
    exact ⟨rfl, rfl⟩
  | some t =>
    obtain ⟨⟨h1, h2⟩, h3⟩ := ho t rfl
    obtain ⟨k1, k2, k3⟩ := (check_zero h2).1 h1
    have he : encO t = encT t := by unfold encO; rw [if_pos h1]
    have hb : rdByte (some (markK (some t) ++ r)) = (1, some (encT t ++ r)) := by rw [← he]; rfl
    have hro : readO (some (encT t ++ r)) = (t, some r) := by rw [readO_some, readS_code ⟨k1, k2, k3⟩ h3 r]
    have hk : rdKept (some (markK (some t) ++ r)) = (t, true, some r) := by
      unfold rdKept
      rw [hb]
      simp [hro]
    unfold keptO
    rw [hk]
    exact ⟨rfl, rfl⟩
theorem marks_cons (m : ImT) (i n : Nat) : m.marks i (n + 1) = markK (m.at i) ++ m.marks (i + 1) n := by
  unfold ImT.marks
  rw [List.range_succ_eq_map]
  simp only [List.map_cons, List.map_map, List.flatten_cons, Nat.add_zero]
  congr 2
  apply List.map_congr_left
  intro j _
  show markK (m.at (i + (j + 1))) = markK (m.at (i + 1 + j))
  congr 2
  omega
/-- The documents of n indexes from i on. -/
def ImT.ats (m : ImT) (i n : Nat) : List (Option VT) := (List.range n).map fun j => m.at (i + j)
theorem ats_cons (m : ImT) (i n : Nat) : m.ats i (n + 1) = m.at i :: m.ats (i + 1) n := by
  unfold ImT.ats
  rw [List.range_succ_eq_map]
  simp only [List.map_cons, List.map_map, Nat.add_zero]
  congr 1
  apply List.map_congr_left
  intro j _
  show m.at (i + (j + 1)) = m.at (i + 1 + j)
  congr 1
  omega
theorem rdRing_marks {m : ImT} (hg : m.Good) (hr : ∀ i t, m.at i = some t → rngT t) (rest : List UInt8) : ∀ (n i : Nat) (m0 : ImT), rdRing n m0 (some (m.marks i n ++ rest)) = ((m.ats i n).foldl ImT.note m0, some rest)
  | 0, i, m0 => by simp [rdRing, ImT.marks, ImT.ats]
  | n + 1, i, m0 => by
    have hk := kept_mark (o := m.at i) (fun t ht => ⟨hg _ t (by unfold ImT.at at ht; exact ht), hr i t ht⟩) (m.marks (i + 1) n ++ rest)
    rw [marks_cons, ats_cons, List.append_assoc]
    show rdRing n (m0.note (keptO (some (markK (m.at i) ++ (m.marks (i + 1) n ++ rest))))) (rdKept (some (markK (m.at i) ++ (m.marks (i + 1) n ++ rest)))).2.2 = _
    rw [hk.1, hk.2, rdRing_marks hg hr rest n (i + 1)]
    rfl
theorem fold_weak : ∀ (l : List (Option VT)) (m : ImT) (r : RefI), WkI m r → 0 ≤ m.keep → 0 ≤ r.base → WkI (l.foldl ImT.note m) (l.foldl RefI.note r)
  | [], _, _, h, _, _ => h
  | o :: l, m, r, h, h1, h2 => fold_weak l (m.note o) (r.note o) (h.note h1 h2 o) (by rw [note_keep]; exact h1) h2
theorem fold_ref : ∀ (l : List (Option VT)) (r : RefI), l.foldl RefI.note r = { r with l := r.l ++ l }
  | [], r => by simp
  | o :: l, r => by
    show l.foldl RefI.note (r.note o) = _
    rw [fold_ref l (r.note o)]
    show (⟨r.keep, r.base, (r.l ++ [o]) ++ l⟩ : RefI) = ⟨r.keep, r.base, r.l ++ o :: l⟩
    simp
theorem fold_base : ∀ (l : List (Option VT)) (m : ImT), (l.foldl ImT.note m).base = m.base ∧ (l.foldl ImT.note m).keep = m.keep
  | [], _ => ⟨rfl, rfl⟩
  | o :: l, m => by
    have h := fold_base l (m.note o)
    rw [note_base, note_keep] at h
    exact h
theorem ats_at (m : ImT) (i n j : Nat) (h : j < n) : (m.ats i n)[j]? = some (m.at (i + j)) := by
  unfold ImT.ats
  rw [List.getElem?_map, List.getElem?_range h]
  rfl
theorem ats_len (m : ImT) (i n : Nat) : (m.ats i n).length = n := by simp [ImT.ats]
/-- The code is read: images that keep the same. -/
theorem rdImg_code {m : ImT} {r : RefI} (hm : m.Fine) (hg : m.Good) (hr : 0 < m.keep → ∀ i t, m.at i = some t → rngT t) (ht : m.top ≤ 1099511627776) (h : AgI m r) (hrf : r.Fine) : ∃ m', rdImg (some m.code) = (some m', some []) ∧ AgI m' r := by
  obtain ⟨k, hk⟩ : ∃ n : Nat, m.keep = (n : Int) := ⟨m.keep.toNat, by have := hm.k0; omega⟩
  obtain ⟨b, hb⟩ : ∃ n : Nat, m.base = (n : Int) := ⟨m.base.toNat, by have := hm.b0; omega⟩
  obtain ⟨t, htt⟩ : ∃ n : Nat, m.top = (n : Int) := ⟨m.top.toNat, by have := hm.b0; have := hm.b1; omega⟩
  have hk1 : k ≤ 64 := by have := hm.k1; omega
  have hbt : b ≤ t := by have := hm.b1; omega
  have ht1 : t ≤ 1099511627776 := by omega
  obtain ⟨f0, hf0⟩ : ∃ f, f = max b (t - k) := ⟨_, rfl⟩
  have hmax : max m.base (m.top - m.keep) = (f0 : Int) := by rw [hk, hb, htt]; omega
  have hcnt : m.cnt = t - f0 := by unfold ImT.cnt; rw [hmax, htt]; omega
  have hfirst : (max m.base (m.top - m.keep) + 1).toNat = f0 + 1 := by rw [hmax]; omega
  have e1 : m.keep.toNat = k := by rw [hk]; rfl
  have e2 : m.base.toNat = b := by rw [hb]; rfl
  have e3 : m.top.toNat = t := by rw [htt]; rfl
  have hcode : m.code = grp k ++ (grp b ++ (grp t ++ (m.marks (f0 + 1) (t - f0) ++ []))) := by
    unfold ImT.code cntI
    rw [hcnt, hfirst, e1, e2, e3]
    simp
  have c0 : rdCount 64 (some m.code) = (k, some (grp b ++ (grp t ++ (m.marks (f0 + 1) (t - f0) ++ [])))) := by rw [hcode]; exact rdCount_code (m := 64) _ hk1 (by omega)
  have c1 : rdCount 1099511627776 (some (grp b ++ (grp t ++ (m.marks (f0 + 1) (t - f0) ++ [])))) = (b, some (grp t ++ (m.marks (f0 + 1) (t - f0) ++ []))) := rdCount_code (m := 1099511627776) _ (by omega) (by omega)
  have c2 : rdCount 1099511627776 (some (grp t ++ (m.marks (f0 + 1) (t - f0) ++ []))) = (t, some (m.marks (f0 + 1) (t - f0) ++ [])) := rdCount_code (m := 1099511627776) _ ht1 (by omega)
  refine ⟨(m.ats (f0 + 1) (t - f0)).foldl ImT.note (startI k b t), ?_, ?_⟩
  · unfold rdImg
    rw [c0]
    simp only [c1, c2]
    rw [if_neg (by omega), ← hf0]
    have hring : rdRing (t - f0) (startI k b t) (some (m.marks (f0 + 1) (t - f0) ++ [])) = ((m.ats (f0 + 1) (t - f0)).foldl ImT.note (startI k b t), some []) := by
      by_cases h0 : 0 < m.keep
      · exact rdRing_marks hg (hr h0) [] (t - f0) (f0 + 1) _
      · have hz : t - f0 = 0 := by omega
        rw [hz]
        rfl
    rw [hring]
    rfl
  · have hw : WkI (startI k b t) ⟨k, f0, []⟩ := ⟨rfl, by show max (b : Int) ((t : Int) - k) = (f0 : Int) + ((0 : Nat) : Int); omega, fun k h => absurd h (by simp)⟩
    have h2 := fold_weak (m.ats (f0 + 1) (t - f0)) _ _ hw (by show (0 : Int) ≤ k; omega) (by show (0 : Int) ≤ f0; omega)
    rw [fold_ref] at h2
    have h3 := fold_base (m.ats (f0 + 1) (t - f0)) (startI k b t)
    have hrt : (⟨k, f0, [] ++ m.ats (f0 + 1) (t - f0)⟩ : RefI).top = (t : Int) := by
      show (f0 : Int) + (([] ++ m.ats (f0 + 1) (t - f0)).length : Int) = t
      rw [List.nil_append, ats_len]; omega
    have e4 := h2.top
    rw [hrt] at e4
    have a1 := h.keep
    have a2 := h.top
    have a3 := h.first
    have hT : r.top = r.base + r.l.length := rfl
    refine ⟨by rw [h3.2, ← a1, hk]; rfl, by rw [e4, ← a2, htt], ?_, ?_⟩
    · rw [h3.1, h3.2, e4, ← a3, hmax]
      show max (b : Int) ((t : Int) - k) = f0
      omega
    · intro j hj hlt
      have hi : ∃ i : Nat, r.base + 1 + (j : Int) = (i : Int) := ⟨(r.base + 1 + (j : Int)).toNat, by have := hrf.b0; omega⟩
      obtain ⟨i, hi⟩ := hi
      have hif : f0 + 1 ≤ i ∧ i ≤ t := by
        have := hrf.b0
        rw [hmax] at a3
        omega
      have h5 := h.ring j hj hlt
      rw [hi] at h5 ⊢
      have h6 := h2.ring (i - (f0 + 1)) (by show _ < ([] ++ m.ats (f0 + 1) (t - f0)).length; rw [List.nil_append, ats_len]; omega) (by rw [hrt]; show (t : Int) - k < (f0 : Int) + 1 + ((i - (f0 + 1) : Nat) : Int); omega)
      have h7 : ((m.ats (f0 + 1) (t - f0)))[i - (f0 + 1)]? = some (m.at i) := by rw [ats_at _ _ _ _ (by omega)]; congr 2; omega
      have h8 : ((⟨k, f0, [] ++ m.ats (f0 + 1) (t - f0)⟩ : RefI).base + 1 + ((i - (f0 + 1) : Nat) : Int)).toNat = i := by show ((f0 : Int) + 1 + ((i - (f0 + 1) : Nat) : Int)).toNat = i; omega
      rw [h8] at h6
      have h9 : ([] ++ m.ats (f0 + 1) (t - f0))[i - (f0 + 1)]? = some (m.at i) := by rw [List.nil_append]; exact h7
      have h10 : some (m.at i) = some (((m.ats (f0 + 1) (t - f0)).foldl ImT.note (startI k b t)).ring (i % ((m.ats (f0 + 1) (t - f0)).foldl ImT.note (startI k b t)).keep.toNat)) := h9.symm.trans h6
      have ei : (i : Int).toNat = i := rfl
      rw [ei] at h5 ⊢
      rw [h5, ← h10]
      rfl
end Go.Proofs.Ytdggeokpnaopiaa
