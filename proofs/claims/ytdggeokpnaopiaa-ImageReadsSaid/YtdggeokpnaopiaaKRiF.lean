/- Images and the document's images agree: plain. -/
import Derived.Test.YtdggeokpnaopiaaKRiD
namespace Go.Proofs.Ytdggeokpnaopiaa
set_option linter.unusedVariables false
set_option linter.unusedSimpArgs false
set_option maxRecDepth 100000
/-- What both keep of the last indexes is alike. -/
structure WkI (m : ImT) (r : RefI) : Prop where
  keep : m.keep = r.keep
  top : m.top = r.top
  ring : ∀ k, k < r.l.length → r.top - r.keep < r.base + 1 + k → r.l[k]? = some (m.ring ((r.base + 1 + (k : Int)).toNat % m.keep.toNat))
structure AgI (m : ImT) (r : RefI) : Prop where
  keep : m.keep = r.keep
  top : m.top = r.top
  first : max m.base (m.top - m.keep) = max r.base (r.top - r.keep)
  ring : ∀ k, k < r.l.length → r.top - r.keep < r.base + 1 + k → r.l[k]? = some (m.ring ((r.base + 1 + (k : Int)).toNat % m.keep.toNat))
theorem AgI.new (keep base : Int) : AgI (newI keep base) ⟨keep, base, []⟩ :=
  ⟨rfl, by show base = base + ((0 : Nat) : Int); simp, by show max base (base - keep) = max base (base + ((0 : Nat) : Int) - keep); simp, fun k h => absurd h (by simp)⟩
theorem note_keep (m : ImT) (o : Option VT) : (m.note o).keep = m.keep := by unfold ImT.note; split <;> rfl
theorem note_base (m : ImT) (o : Option VT) : (m.note o).base = m.base := by unfold ImT.note; split <;> rfl
theorem rnote_top (r : RefI) (o : Option VT) : (r.note o).top = r.top + 1 := by
  show r.base + ((r.l ++ [o]).length : Int) = r.base + (r.l.length : Int) + 1
  simp; omega
theorem AgI.weak {m : ImT} {r : RefI} (h : AgI m r) : WkI m r := ⟨h.keep, h.top, h.ring⟩
theorem WkI.note {m : ImT} {r : RefI} (h : WkI m r) (k0 : 0 ≤ m.keep) (rb0 : 0 ≤ r.base) (o : Option VT) : WkI (m.note o) (r.note o) := by
  have e1 := h.keep
  have e2 := h.top
  have hT : r.top = r.base + r.l.length := rfl
  have rb1 : r.base ≤ r.top := by rw [hT]; omega
  refine ⟨by rw [note_keep]; exact e1, by rw [note_top, rnote_top, e2], ?_⟩
  · intro k hk hlt
    have hlen : (r.note o).l.length = r.l.length + 1 := by show (r.l ++ [o]).length = _; simp
    rw [hlen] at hk
    rw [rnote_top] at hlt
    have hlt' : r.top + 1 - r.keep < r.base + 1 + k := hlt
    rw [note_keep]
    show (r.l ++ [o])[k]? = some ((m.note o).ring ((r.base + 1 + (k : Int)).toNat % m.keep.toNat))
    unfold ImT.note
    have hk0 : ¬ m.keep = 0 := by omega
    rw [if_neg hk0]
    simp only
    obtain ⟨K, hK⟩ : ∃ K : Nat, m.keep = (K : Int) := ⟨m.keep.toNat, by omega⟩
    obtain ⟨t, ht⟩ : ∃ t : Nat, m.top = (t : Int) := ⟨m.top.toNat, by omega⟩
    obtain ⟨i, hi⟩ : ∃ i : Nat, r.base + 1 + (k : Int) = (i : Int) := ⟨(r.base + 1 + (k : Int)).toNat, by omega⟩
    have ek : m.keep.toNat = K := by rw [hK]; rfl
    have et : (m.top + 1).toNat = t + 1 := by rw [ht]; rfl
    have ei : (r.base + 1 + (k : Int)).toNat = i := by rw [hi]; rfl
    rw [ek, et, ei]
    by_cases hlast : k = r.l.length
    · have e : i = t + 1 := by omega
      subst hlast
      rw [if_pos (by rw [e])]
      simp
    · have hk2 : k < r.l.length := by omega
      have hne : ¬ (i % K = (t + 1) % K) := by
        have h1 : i < t + 1 := by omega
        have h2 : t + 1 < i + K := by omega
        intro he
        have hKp : 0 < K := by omega
        have hd : (t + 1 - i) % K = 0 := by
          have := Nat.sub_mod_eq_zero_of_mod_eq he.symm
          exact this
        rw [Nat.mod_eq_of_lt (by omega)] at hd
        omega
      rw [if_neg hne, List.getElem?_append_left hk2]
      have h5 := h.ring k hk2 (by omega)
      rw [ek, ei] at h5
      exact h5
theorem AgI.note {m : ImT} {r : RefI} (h : AgI m r) (hm : m.Fine) (hr : r.Fine) (o : Option VT) : AgI (m.note o) (r.note o) := by
  have e1 := h.keep
  have e2 := h.top
  have e3 := h.first
  have b1 := hm.b1
  have hT : r.top = r.base + r.l.length := rfl
  have h2 := h.weak.note hm.k0 hr.b0 o
  refine ⟨h2.keep, h2.top, ?_, h2.ring⟩
  rw [note_base, note_top, note_keep, rnote_top]
  show max m.base (m.top + 1 - m.keep) = max r.base (r.top + 1 - r.keep)
  omega
theorem AgI.got {m : ImT} {r : RefI} (h : AgI m r) (hr : r.Fine) (i : Int) : m.got i = r.got i := by
  have e1 := h.keep
  have e2 := h.top
  have e3 := h.first
  unfold ImT.got RefI.got
  rw [e2]
  by_cases h1 : i < 1 ∨ r.top < i
  · rw [if_pos h1, if_pos h1]
  rw [if_neg h1, if_neg h1]
  have hkn : r.known i = decide (max r.base (r.top - r.keep) + 1 ≤ i ∧ i ≤ r.top) := by
    unfold RefI.known
    rw [Bool.eq_iff_iff]
    simp only [Bool.and_eq_true, decide_eq_true_eq]
    omega
  rw [← e2, e3, hkn]
  by_cases h2 : i < max r.base (r.top - r.keep) + 1
  · rw [if_pos h2, if_pos (by simp; omega)]
  · rw [if_neg h2, if_neg (by simp; omega)]
    have hk : (i - r.base - 1).toNat < r.l.length := by
      have : r.top = r.base + r.l.length := rfl
      omega
    have h5 := h.ring (i - r.base - 1).toNat hk (by omega)
    have ei : r.base + 1 + (((i - r.base - 1).toNat : Nat) : Int) = i := by omega
    rw [ei] at h5
    rw [h5]
    generalize m.ring (i.toNat % m.keep.toNat) = o
    cases o <;> rfl
end Go.Proofs.Ytdggeokpnaopiaa
