/- Looking at a value that lies in memory: its items and its names, in a later world. -/
import Derived.Test.YtipiplnhbecjeaaKOrd
namespace Go.Proofs.Ytipiplnhbecjeaa
set_option linter.unusedVariables false
set_option linter.unusedSimpArgs false
open Go.RowKit

theorem item_at {w u : World} {S : Nat → Prop} {A : Option Addr} {l : List VT} (hS : ∀ b, S b → b < w.heap.size) (h : LVA w S A l) (hb : Below w.heap.size w u) (j : Nat) (hj : j < l.length) :
    ∃ p o A2 e2 A3 e3, A = some ⟨p, o, none⟩ ∧ p < w.heap.size ∧ u.cell? ⟨p, o + j * 5, none⟩ = some (.int .i64 l[j].kind) ∧ u.cell? ⟨p, o + j * 5 + 1, none⟩ = some (.int .i64 l[j].num) ∧ u.cell? ⟨p, o + j * 5 + 2, none⟩ = some (.string l[j].text) ∧
      u.cell? ⟨p, o + j * 5 + 3, none⟩ = some (.slice A2 l[j].items.length e2) ∧ u.cell? ⟨p, o + j * 5 + 4, none⟩ = some (.slice A3 l[j].names.length e3) ∧
      LV u S l[j] (.agg #[.int .i64 l[j].kind, .int .i64 l[j].num, .string l[j].text, .slice A2 l[j].items.length e2, .slice A3 l[j].names.length e3]) := by
  obtain ⟨p, o, hA, hp, hv⟩ := h (by omega)
  obtain ⟨c0, c1, c2, c3, c4, h0, h1, h2, h3, h4, hx⟩ := hv.at j hj
  obtain ⟨A2, e2, A3, e3, hag, -⟩ := hx.shape
  injection hag with hag; injection hag with hag
  injection hag with y0 hag; injection hag with y1 hag; injection hag with y2 hag; injection hag with y3 hag; injection hag with y4 hag
  subst y0 y1 y2 y3 y4
  have hk : ∀ o, u.cell? ⟨p, o, none⟩ = w.cell? ⟨p, o, none⟩ := fun o => hb.cell (p := ⟨p, o, none⟩) (hS p hp)
  exact ⟨p, o, A2, e2, A3, e3, hA, hS p hp, (hk _).trans h0, (hk _).trans h1, (hk _).trans h2, (hk _).trans h3, (hk _).trans h4, hx.below hS hb⟩

theorem text_at {w u : World} {S : Nat → Prop} {A : Option Addr} {ns : List ByteArray} (hS : ∀ b, S b → b < w.heap.size) (h : StrsAt w S A ns) (hb : Below w.heap.size w u) (j : Nat) (hj : j < ns.length) :
    ∃ p o, A = some ⟨p, o, none⟩ ∧ p < w.heap.size ∧ u.cell? ⟨p, o + j, none⟩ = some (.string ns[j]) ∧ ns[j].size ≤ 140737488351232 := by
  obtain ⟨p, o, hA, hp, hc⟩ := h (by omega)
  exact ⟨p, o, hA, hS p hp, (hb.cell (p := ⟨p, o + j, none⟩) (hS p hp)).trans (hc j hj).1, (hc j hj).2⟩

theorem lva_mem {w : World} {S : Nat → Prop} {A : Option Addr} {l : List VT} (h : LVA w S A l) {t : VT} (ht : t ∈ l) : ∃ v, LV w S t v := by
  obtain ⟨j, hj, rfl⟩ := List.mem_iff_getElem.1 ht
  obtain ⟨p, o, hA, hp, hv⟩ := h (by omega)
  obtain ⟨c0, c1, c2, c3, c4, -, -, -, -, -, hx⟩ := hv.at j hj
  exact ⟨_, hx⟩

/-! ### how many -/
theorem nodesT_mk (d : Nat) (t : VT) (h : d ≤ 40) : nodesT d t = nodesL d (1 + t.names.length) t.items := by
  cases t; unfold nodesT; rw [if_neg (by omega)]; rfl
theorem nodesT_deep (d : Nat) (t : VT) (h : 40 < d) : nodesT d t = 1048576 := by cases t; unfold nodesT; exact if_pos h
theorem nodesL_le (d M : Nat) : ∀ (l : List VT) (n : Nat), n ≤ M + 65536 → (∀ t ∈ l, nodesT (d + 1) t ≤ M) → nodesL d n l ≤ M + 65536
  | [], n, hn, _ => by unfold nodesL; exact hn
  | t :: r, n, hn, h => by
    unfold nodesL
    split
    · exact nodesL_le d M r _ (by have := h t (List.mem_cons_self ..); omega) (fun t ht => h t (List.mem_cons_of_mem _ ht))
    · exact hn
theorem nodes_le {w : World} {S : Nat → Prop} : ∀ (k d : Nat) (t : VT) (v : Value), d + k = 41 → LV w S t v → nodesT d t ≤ 8796093021953 + 65536 * k := by
  intro k
  induction k with
  | zero => intro d t v hd h; rw [nodesT_deep d t (by omega)]; omega
  | succ k ih =>
    intro d t v hd h
    cases t with
    | mk kd i s l ns =>
      unfold LV at h
      obtain ⟨A, c, A', c', hv, h1, h2, h3, h4, h5, h6, h7⟩ := h
      have e := nodesT_mk d (.mk kd i s l ns) (by omega)
      have hb := nodesL_le d (8796093021953 + 65536 * k) l (1 + ns.length) (by omega) (fun t ht => by
        obtain ⟨v, hv⟩ := lva_mem h7 ht
        exact ih (d + 1) t v (by omega) hv)
      refine Nat.le_trans (Nat.le_of_eq e) (Nat.le_trans hb ?_)
      rw [Nat.mul_add, Nat.add_assoc]
      exact Nat.le_refl _
theorem nodesL_step {l : List VT} {j : Nat} (d n : Nat) (h : j < l.length) : nodesL d n (l.drop j) = if n < 65536 then nodesL d (n + nodesT (d + 1) l[j]) (l.drop (j + 1)) else n := by
  rw [List.drop_eq_getElem_cons h]; conv => lhs; unfold nodesL
theorem nodesL_nil (d n : Nat) : nodesL d n [] = n := by unfold nodesL; rfl
theorem nodesL_ge (d : Nat) : ∀ (l : List VT) (n : Nat), n ≤ nodesL d n l
  | [], n => by rw [nodesL_nil]; omega
  | t :: r, n => by
    unfold nodesL
    split
    · have := nodesL_ge d r (n + nodesT (d + 1) t); omega
    · omega
theorem nodesL_mem (d : Nat) : ∀ (l : List VT) (n : Nat) {t : VT}, t ∈ l → 3000 < nodesT (d + 1) t → 3000 < nodesL d n l
  | a :: r, n, t, ht, h => by
    unfold nodesL
    split
    · rcases List.mem_cons.1 ht with rfl | ht
      · have := nodesL_ge d r (n + nodesT (d + 1) t); omega
      · exact nodesL_mem d r _ ht h
    · omega
theorem depthL_ex : ∀ (l : List VT) (k : Nat), k < depthL l → ∃ t ∈ l, k < depthT t
  | [], k, h => by unfold depthL at h; omega
  | a :: r, k, h => by
    unfold depthL at h
    by_cases h1 : k < depthT a
    · exact ⟨a, List.mem_cons_self .., h1⟩
    · obtain ⟨t, ht, hk⟩ := depthL_ex r k (by omega)
      exact ⟨t, List.mem_cons_of_mem _ ht, hk⟩
/-- What is not too large is not deep. -/
theorem depth_nodes : ∀ (k d : Nat) (t : VT), d + k = 41 → k < depthT t → 3000 < nodesT d t := by
  intro k
  induction k with
  | zero => intro d t hd _; rw [nodesT_deep d t (by omega)]; omega
  | succ k ih =>
    intro d t hd h
    rw [nodesT_mk d t (by omega)]
    have ht : depthT t = depthL t.items + 1 := by cases t; exact depthT_mk _ _ _ _ _
    obtain ⟨x, hx, hk⟩ := depthL_ex t.items k (by omega)
    exact nodesL_mem d _ _ hx (ih (d + 1) x (by omega) hk)
theorem depth_small {t : VT} (h : largeT t = false) : depthT t ≤ 41 := by
  refine Classical.byContradiction fun hn => ?_
  have := depth_nodes 41 0 t rfl (by omega)
  unfold largeT at h
  simp at h; omega
end Go.Proofs.Ytipiplnhbecjeaa

/- How many values there are in a value, as the document's answer counts them, up to a bound. -/
namespace Go.Proofs.Ytipiplnhbecjeaa
set_option linter.unusedVariables false
set_option linter.unusedSimpArgs false
open Go.RowKit



end Go.Proofs.Ytipiplnhbecjeaa
