/- Images and the document's images, read of the same bytes: plain. -/
import Derived.Test.YtdggeokpnaopiaaKRiI
namespace Go.Proofs.Ytdggeokpnaopiaa
set_option linter.unusedVariables false
set_option linter.unusedSimpArgs false
set_option maxRecDepth 100000
def rfRing : Nat → RefI → Option (List UInt8) → RefI × Option (List UInt8)
  | 0, r, st => (r, st)
  | _ + 1, r, none => (r, none)
  | n + 1, r, some l => rfRing n (r.note (keptO (some l))) (rdKept (some l)).2.2
theorem rfRing_none : ∀ (n : Nat) (r : RefI), (rfRing n r none).2 = none
  | 0, _ => rfl
  | _ + 1, _ => rfl
def startR (k b t : Nat) : RefI := ⟨k, ((max b (t - k) : Nat) : Int), []⟩
def finR : RefI × Option (List UInt8) → Option RefI × Option (List UInt8)
  | (_, none) => (none, none)
  | (r, some l) => (some r, some l)
theorem finR_none : ∀ {r : RefI × Option (List UInt8)}, r.2 = none → finR r = (none, none)
  | (_, none), _ => rfl
/-- The document's images that come next. -/
def rdRef (st : Option (List UInt8)) : Option RefI × Option (List UInt8) :=
  finR (rfRing ((rdCount 1099511627776 (rdCount 1099511627776 (rdCount 64 st).2).2).1 - max (rdCount 1099511627776 (rdCount 64 st).2).1 ((rdCount 1099511627776 (rdCount 1099511627776 (rdCount 64 st).2).2).1 - (rdCount 64 st).1))
      (startR (rdCount 64 st).1 (rdCount 1099511627776 (rdCount 64 st).2).1 (rdCount 1099511627776 (rdCount 1099511627776 (rdCount 64 st).2).2).1)
      (if (rdCount 1099511627776 (rdCount 1099511627776 (rdCount 64 st).2).2).1 < (rdCount 1099511627776 (rdCount 64 st).2).1 then none else (rdCount 1099511627776 (rdCount 1099511627776 (rdCount 64 st).2).2).2))
theorem ring_both : ∀ (n : Nat) (m : ImT) (r : RefI) (st : Option (List UInt8)), WkI m r → 0 ≤ m.keep → 0 ≤ r.base →
    (rdRing n m st).2 = (rfRing n r st).2 ∧ (∀ l, (rfRing n r st).2 = some l → WkI (rdRing n m st).1 (rfRing n r st).1 ∧ (rdRing n m st).1.base = m.base ∧ (rdRing n m st).1.keep = m.keep ∧ (rfRing n r st).1.base = r.base ∧ (rfRing n r st).1.keep = r.keep ∧ (rfRing n r st).1.l.length = r.l.length + n)
  | 0, m, r, st, h, _, _ => ⟨rfl, fun l _ => ⟨h, rfl, rfl, rfl, rfl, rfl⟩⟩
  | n + 1, m, r, none, h, _, _ => ⟨rfl, fun l hl => by cases hl⟩
  | n + 1, m, r, some l, h, h1, h2 => by
    have h3 := ring_both n (m.note (keptO (some l))) (r.note (keptO (some l))) (rdKept (some l)).2.2 (h.note h1 h2 _) (by rw [note_keep]; exact h1) h2
    refine ⟨h3.1, fun x hx => ?_⟩
    obtain ⟨g1, g2, g3, g4, g5, g6⟩ := h3.2 x hx
    refine ⟨g1, g2.trans (note_base m _), g3.trans (note_keep m _), g4, g5, ?_⟩
    have e : (r.note (keptO (some l))).l.length = r.l.length + 1 := by show (r.l ++ [_]).length = _; simp
    rw [e] at g6
    show (rfRing n (r.note (keptO (some l))) (rdKept (some l)).2.2).1.l.length = _
    omega
/-- What both read agrees. -/
theorem read_agree (st : Option (List UInt8)) : (rdImg st).2 = (rdRef st).2 ∧ ((rdImg st).1 = none ↔ (rdRef st).1 = none) ∧ ∀ m r, (rdImg st).1 = some m → (rdRef st).1 = some r → AgI m r ∧ r.Fine := by
  obtain ⟨k, hk⟩ : ∃ k, k = (rdCount 64 st).1 := ⟨_, rfl⟩
  obtain ⟨st1, hst1⟩ : ∃ s, s = (rdCount 64 st).2 := ⟨_, rfl⟩
  obtain ⟨b, hb⟩ : ∃ k, k = (rdCount 1099511627776 st1).1 := ⟨_, rfl⟩
  obtain ⟨st2, hst2⟩ : ∃ s, s = (rdCount 1099511627776 st1).2 := ⟨_, rfl⟩
  obtain ⟨t, ht⟩ : ∃ k, k = (rdCount 1099511627776 st2).1 := ⟨_, rfl⟩
  obtain ⟨st3, hst3⟩ : ∃ s, s = (rdCount 1099511627776 st2).2 := ⟨_, rfl⟩
  have hkl : (k : Int) ≤ 64 := by rw [hk]; exact rdCount_leI (by omega) (by omega)
  have hbl : (b : Int) ≤ 1099511627776 := by rw [hb]; exact rdCount_leI (by omega) (by omega)
  have htl : (t : Int) ≤ 1099511627776 := by rw [ht]; exact rdCount_leI (by omega) (by omega)
  have e1 : rdImg st = finI (rdRing (t - max b (t - k)) (startI k b t) (if t < b then none else st3)) := by unfold rdImg; rw [← hst1, ← hst2, ← hst3, ← hk, ← hb, ← ht]
  have e2 : rdRef st = finR (rfRing (t - max b (t - k)) (startR k b t) (if t < b then none else st3)) := by unfold rdRef; rw [← hst1, ← hst2, ← hst3, ← hk, ← hb, ← ht]
  have hw : WkI (startI k b t) (startR k b t) := ⟨rfl, by show max (b : Int) ((t : Int) - k) = ((max b (t - k) : Nat) : Int) + ((0 : Nat) : Int); omega, fun k h => absurd h (by simp [startR])⟩
  have hbo := ring_both (t - max b (t - k)) (startI k b t) (startR k b t) (if t < b then none else st3) hw (by show (0 : Int) ≤ k; omega) (by show (0 : Int) ≤ ((max b (t - k) : Nat) : Int); omega)
  have hgood : ∀ l, (if t < b then none else st3) = some l → b ≤ t := fun l hl => by
    by_cases h : t < b
    · rw [if_pos h] at hl; cases hl
    · omega
  rw [e1, e2]
  obtain ⟨s0, hs0⟩ : ∃ s, s = (if t < b then none else st3) := ⟨_, rfl⟩
  rw [← hs0] at hbo hgood ⊢
  obtain ⟨h1, h2⟩ := hbo
  cases hr : (rfRing (t - max b (t - k)) (startR k b t) s0).2 with
  | none =>
    rw [finI_none (h1.trans hr), finR_none hr]
    exact ⟨rfl, ⟨fun _ => rfl, fun _ => rfl⟩, fun m r h => by cases h⟩
  | some l =>
    obtain ⟨g1, g2, g3, g4, g5, g6⟩ := h2 l hr
    have hr' := h1.trans hr
    obtain ⟨m', s1, hm'⟩ : ∃ m' s1, rdRing (t - max b (t - k)) (startI k b t) s0 = (m', s1) := ⟨_, _, rfl⟩
    obtain ⟨r', s2, hrr⟩ : ∃ r' s2, rfRing (t - max b (t - k)) (startR k b t) s0 = (r', s2) := ⟨_, _, rfl⟩
    rw [hm'] at hr' g1 g2 g3 ⊢
    rw [hrr] at hr g1 g4 g5 g6 ⊢
    have hr'' : s1 = some l := hr'
    have hr2 : s2 = some l := hr
    subst hr'' hr2
    refine ⟨rfl, ⟨fun h => ?_, fun h => ?_⟩, fun m r hm hr => ?_⟩
    · have h : (some m' : Option ImT) = none := h
      cases h
    · have h : (some r' : Option RefI) = none := h
      cases h
    have hm : some m' = some m := hm
    have hr : some r' = some r := hr
    injection hm with hm
    injection hr with hr
    subst hm hr
    have hbt : b ≤ t := by
      cases s0 with
      | none =>
        exfalso
        have h := rfRing_none (t - max b (t - k)) (startR k b t)
        rw [hrr] at h
        cases h
      | some x => exact hgood x rfl
    have q4 : r'.base = ((max b (t - k) : Nat) : Int) := g4
    have q5 : r'.keep = (k : Int) := g5
    have q6 : r'.l.length = 0 + (t - max b (t - k)) := g6
    have q2 : m'.base = (b : Int) := g2
    have q3 : m'.keep = (k : Int) := g3
    have htop : r'.top = (t : Int) := by
      show r'.base + (r'.l.length : Int) = t
      rw [q4, q6]; omega
    refine ⟨⟨g1.keep, g1.top, ?_, g1.ring⟩, ⟨by rw [q5]; omega, by rw [q5]; omega, by rw [q4]; omega, by rw [q4]; omega, by rw [q6]; omega⟩⟩
    rw [g1.top, htop, q2, q3, q4, q5]
    omega
end Go.Proofs.Ytdggeokpnaopiaa
