/- The document's Set and the program's: plain. -/
import Derived.Test.YtlddhpjokiphfaaKTuB
import Derived.Test.YtlddhpjokiphfaaKTkM
import Derived.Test.YtlddhpjokiphfaaKTkR
namespace Go.Proofs.Ytlddhpjokiphfaa
set_option linter.unusedVariables false
set_option linter.unusedSimpArgs false
open Go.RowKit
theorem rset_any : ∀ p : List ByteArray, RSetO p
  | [] => rset_nil
  | s :: r => rset_step s r (rset_any r)
theorem place_empty (s : ByteArray) : placeT emptyD s < 0 := by
  rw [placeT_doc rfl]
  show nmI 0 [] s < 0
  unfold nmI
  decide
theorem withT_at {t : VT} {i : Int} {nm : ByteArray} {y : VT} (h0 : 0 ≤ i) (h : i.toNat < t.items.length) : withT t i nm y = setT t i.toNat y := by
  unfold withT
  rw [if_pos (by omega)]
theorem withT_doc {t : VT} {nm : ByteArray} {y : VT} (h : t.kind = 7) : withT t (t.items.length : Int) nm y = addI (addN t nm) y := by
  unfold withT
  rw [if_neg (by omega), if_pos h]
theorem withT_arr {t : VT} {nm : ByteArray} {y : VT} (h : t.kind ≠ 7) : withT t (t.items.length : Int) nm y = addI t y := by
  unfold withT
  rw [if_neg (by omega), if_neg h]
theorem setO_empty (x : VT) : ∀ r : List ByteArray, setO x emptyD r = (nestT r x, true)
  | [] => rfl
  | s :: r => by
    rw [setO_off (place_empty s), if_pos (show emptyD.kind = 7 from rfl), setO_empty x r]
    show (withT emptyD _ s (nestT r x), true) = _
    rw [withT_doc rfl]
    rfl
/-- What the document's Set answers is what the program does. -/
theorem setO_is (x : VT) : ∀ (p : List ByteArray) (t : VT), mayT t = true → p ≠ [] → ((goT (setFin x) t p).1 = 0 → setO x t p = ((goT (setFin x) t p).2, true)) ∧ ((goT (setFin x) t p).1 ≠ 0 → (setO x t p).2 = false)
  | [], t, _, h => absurd rfl h
  | s :: r, t, hm, _ => by
    by_cases he : placeT t s < 0 ∨ r = []
    · rw [goT_end he, setFin_cons]
      by_cases hn : placeT t s < 0
      · rw [if_neg (by omega), setO_off hn]
        by_cases h7 : t.kind = 7
        · rw [if_pos h7, if_pos h7, setO_empty, withT_doc h7]
          exact ⟨fun _ => rfl, fun h => absurd rfl h⟩
        · rw [if_neg h7, if_neg h7]
          by_cases h6 : t.kind = 6 ∧ nextT t s r = true
          · have h6' : t.kind = 6 ∧ r = [] ∧ idxI s.data.toList = (t.items.length : Int) := by
              refine ⟨h6.1, ?_⟩
              have := h6.2
              unfold nextT at this
              simp at this
              exact ⟨this.2, this.1⟩
            rw [if_pos h6, if_pos h6', withT_arr h7]
            exact ⟨fun _ => rfl, fun h => absurd rfl h⟩
          · have h6' : ¬ (t.kind = 6 ∧ r = [] ∧ idxI s.data.toList = (t.items.length : Int)) := fun k => h6 ⟨k.1, by unfold nextT; simpa using And.intro k.2.2 k.2.1⟩
            rw [if_neg h6, if_neg h6']
            exact ⟨fun h => absurd h (show ¬ (40 : Int) = 0 by decide), fun _ => rfl⟩
      · have h0 : 0 ≤ placeT t s := Int.not_lt.1 hn
        obtain rfl := he.resolve_left hn
        have hj := placeT_lt (may_nl hm) h0
        rw [if_pos h0, setO_on h0 hj]
        refine ⟨fun _ => ?_, fun h => absurd rfl h⟩
        show (withT t (placeT t s) _ x, true) = _
        rw [withT_at h0 hj]
    · have h0 : 0 ≤ placeT t s := Int.not_lt.1 fun k => he (.inl k)
      have hr : r ≠ [] := fun k => he (.inr k)
      have hj := placeT_lt (may_nl hm) h0
      obtain ⟨i1, i2⟩ := setO_is x r t.items[(placeT t s).toNat] (may_item hm hj) hr
      rw [goT_on h0 hr hj, setO_on h0 hj]
      refine ⟨fun h => ?_, fun h => i2 h⟩
      rw [i1 h]
      show (withT t (placeT t s) _ _, true) = _
      rw [withT_at h0 hj]
end Go.Proofs.Ytlddhpjokiphfaa
