/- What is refused ahead of all else; the document's own step and get. -/
import Derived.Test.YtipiplnhbecjeaaKTrA
import Derived.Test.YtipiplnhbecjeaaKRefT
import Derived.Test.YtipiplnhbecjeaaKFive
namespace Go.Proofs.Ytipiplnhbecjeaa
set_option linter.unusedVariables false
set_option linter.unusedSimpArgs false
open Go.RowKit
def docB (t : VT) : Bool := decide (t.kind = 7) && mayT t
/-- What is refused ahead of all else. -/
def wrongT (t : VT) (p : List ByteArray) : Int := if docB t = false then 20 else if mayP p = false then 40 else 0
end Go.Proofs.Ytipiplnhbecjeaa

/- The document's own step and get. -/
namespace Go.Proofs.Ytipiplnhbecjeaa
set_option linter.unusedVariables false
set_option linter.unusedSimpArgs false
open Go.RowKit
theorem mayL_get : ∀ {l : List VT}, mayL l = true → ∀ j (hj : j < l.length), mayT l[j] = true
  | a :: r, h, 0, _ => by unfold mayL at h; rw [Bool.and_eq_true] at h; exact h.1
  | a :: r, h, j + 1, hj => by
    unfold mayL at h
    rw [Bool.and_eq_true] at h
    exact mayL_get h.2 j (by simpa using hj)
theorem may_nl {t : VT} (h : mayT t = true) (hk : t.kind = 7) : t.names.length ≤ t.items.length := by
  cases t with
  | mk k i s l ns =>
    have h1 := (may_names h).1 hk
    simp only [VT.names, VT.items]
    omega
theorem may_item {t : VT} (h : mayT t = true) {j : Nat} (hj : j < t.items.length) : mayT t.items[j] = true := by
  cases t with
  | mk k i s l ns => exact mayL_get (may_names h).2.2 j hj
def okT (t : VT) (p : List ByteArray) : Bool := (getT t p).isSome
def gotT (t : VT) (p : List ByteArray) : VT := (getT t p).getD (.mk 0 0 ⟨#[]⟩ [] [])
theorem getT_neg {t : VT} {s : ByteArray} {r : List ByteArray} (h : placeT t s < 0) : getT t (s :: r) = none := by unfold getT; rw [if_pos h]
theorem getT_pos {t : VT} {s : ByteArray} {r : List ByteArray} (h : 0 ≤ placeT t s) (hj : (placeT t s).toNat < t.items.length) : getT t (s :: r) = getT (t.items[(placeT t s).toNat]) r := by
  conv => lhs; unfold getT
  rw [if_neg (by omega), List.getElem?_eq_getElem hj]
def GetR (t : VT) (p : List ByteArray) (S : World → Nat → Prop) (w : World) (e : Ending) (w' : World) : Prop :=
  ∃ v, e = .returned (.tuple #[v, .bool (okT t p)]) ∧ LV w' (S w') (gotT t p) v ∧ Below w.heap.size w w'
theorem get_end {w w5 : World} {S : Nat → Prop} {t u : VT} {p : List ByteArray} {ok : Bool} {c0 c1 c2 c3 c4 : Value} (hS : ∀ b, S b → b < w.heap.size) (hb : Below w.heap.size w w5) (hv : LV w S u (.agg #[c0, c1, c2, c3, c4])) (hg : gotT t p = u) (hok : ok = okT t p) :
    GetR t p (fun _ => S) w (.returned (.tuple #[.agg #[c0, c1, c2, c3, c4], .bool ok])) (five w5 (w.heap.size + 1) 0 c0 c1 c2 c3 c4) := by
  have hr5 := five_rest w5 (w.heap.size + 1) 0 c0 c1 c2 c3 c4
  have hk : ∀ b, b < w.heap.size → (five w5 (w.heap.size + 1) 0 c0 c1 c2 c3 c4).heap[b]? = w.heap[b]? := fun b hb' => (five_other _ _ _ _ _ _ _ _ b (by omega)).trans (hb.block b hb')
  subst hg hok
  exact ⟨_, rfl, hv.keep fun b hb' => hk b (hS b hb'), ⟨hr5.1.trans hb.os, hr5.2.1.trans hb.tape, hr5.2.2.trans hb.output, by rw [five_size]; exact hb.size, hk⟩⟩
end Go.Proofs.Ytipiplnhbecjeaa
