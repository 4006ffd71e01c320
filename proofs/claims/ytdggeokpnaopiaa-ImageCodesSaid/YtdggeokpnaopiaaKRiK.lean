/- Images and the document's images: their codes are the same. -/
import Derived.Test.YtdggeokpnaopiaaKRiI
import Derived.Test.YtdggeokpnaopiaaKRiE
namespace Go.Proofs.Ytdggeokpnaopiaa
set_option linter.unusedVariables false
set_option linter.unusedSimpArgs false
open Go.RowKit
set_option maxRecDepth 100000
theorem code_eq {m : ImT} {r : RefI} (hm : m.Fine) (hr : r.Fine) (h : AgI m r) (hb : m.base = r.base) : r.code = m.code := by
  obtain ⟨b, hbb⟩ : ∃ n : Nat, m.base = (n : Int) := ⟨m.base.toNat, by have := hm.b0; omega⟩
  obtain ⟨t, htt⟩ : ∃ n : Nat, m.top = (n : Int) := ⟨m.top.toNat, by have := hm.b0; have := hm.b1; omega⟩
  obtain ⟨k, hk⟩ : ∃ n : Nat, m.keep = (n : Int) := ⟨m.keep.toNat, by have := hm.k0; omega⟩
  obtain ⟨f0, hf0⟩ : ∃ f : Nat, f = max b (t - k) := ⟨_, rfl⟩
  have hbt : b ≤ t := by have := hm.b1; omega
  have hmax : max m.base (m.top - m.keep) = (f0 : Int) := by rw [hk, hbb, htt]; omega
  have hcnt : m.cnt = t - f0 := by unfold ImT.cnt; rw [hmax, htt]; omega
  have hfirst : (max m.base (m.top - m.keep) + 1).toNat = f0 + 1 := by rw [hmax]; omega
  have hT : r.top = r.base + r.l.length := rfl
  have a1 := h.keep
  have a2 := h.top
  have hlen : r.l.length = (f0 - b) + (t - f0) := by omega
  have hkn : ∀ j : Nat, r.known (r.base + 1 + j) = decide (f0 - b ≤ j ∧ j < r.l.length) := fun j => by
    unfold RefI.known
    rw [Bool.eq_iff_iff]
    simp only [Bool.and_eq_true, decide_eq_true_eq]
    omega
  have h0 : ∀ n, n ≤ f0 - b → r.marks n = [] := by
    intro n
    induction n with
    | zero => intro _; rfl
    | succ n ih =>
      intro hn
      rw [rmarks_succ, ih (by omega)]
      unfold RefI.mark
      rw [hkn, if_neg (by simp; omega)]
      rfl
  have h1 : ∀ n, n ≤ t - f0 → r.marks ((f0 - b) + n) = m.marks (f0 + 1) n := by
    intro n
    induction n with
    | zero => intro _; rw [Nat.add_zero, h0 _ (Nat.le_refl _)]; rfl
    | succ n ih =>
      intro hn
      rw [← Nat.add_assoc, rmarks_succ, ih (by omega), marks_succ]
      congr 1
      unfold RefI.mark
      have hkr := h.ring (f0 - b + n) (by omega) (by omega)
      have ei : (r.base + 1 + ((f0 - b + n : Nat) : Int)).toNat = f0 + 1 + n := by omega
      rw [ei] at hkr
      rw [hkn, if_pos (by simp; omega), hkr]
      rfl
  unfold RefI.code ImT.code cntI
  rw [hcnt, hfirst, hlen, h1 _ (Nat.le_refl _), ← a1, ← a2, ← hb]
  rfl
theorem RefI.Good.note {r : RefI} (h : r.Good) (o : Option VT) (ho : ∀ t, o = some t → checkT t = 0 ∧ sizeT t ≤ 9223372036854775807) : (r.note o).Good := by
  intro k t hk
  have hk : (r.l ++ [o])[k]? = some (some t) := hk
  by_cases h1 : k < r.l.length
  · rw [List.getElem?_append_left h1] at hk; exact h k t hk
  · rw [List.getElem?_append_right (by omega)] at hk
    cases hz : k - r.l.length with
    | zero => rw [hz] at hk; simp at hk; exact ho t hk
    | succ z => rw [hz] at hk; simp at hk
theorem run_ka {α : Type} {w : World} {s : Sem α} {a : α} (h : ∀ u, KeepA w u → s.run Try.prog u = .ok a u) : ∀ p : LaterR KeepA w, s.run Try.prog p.u = .ok a p.u := fun p => h p.u p.h
theorem OwnB.ka {w u : World} {B : Nat} {v : Value} {l : List UInt8} (h : OwnB w B v l) (hk : KeepA w u) : OwnB u B v l := by
  refine ⟨h.1, h.2.imp id ?_⟩
  rintro ⟨g, cap, cur, e, hB, hh, hr⟩
  exact ⟨g, cap, cur, e, hB, hk g _ hh, hr⟩
end Go.Proofs.Ytdggeokpnaopiaa
