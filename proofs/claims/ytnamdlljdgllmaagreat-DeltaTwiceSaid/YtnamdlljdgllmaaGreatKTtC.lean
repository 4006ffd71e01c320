/- A value whose rows are its own, with items that lie anywhere: plain. -/
import Derived.Test.YtnamdlljdgllmaaGreatKTsC
import Derived.Test.YtnamdlljdgllmaaGreatKOpen
import Derived.Test.YtnamdlljdgllmaaGreatKTrU
import Derived.Test.YtnamdlljdgllmaaGreatKLook
namespace Go.Proofs.YtnamdlljdgllmaaGreat
set_option linter.unusedVariables false
set_option linter.unusedSimpArgs false
open Go.RowKit
structure TopV (w : World) (S : Nat → Prop) (A : Option Addr) (c : Nat) (A' : Option Addr) (c' : Nat) (l : List VT) (ns : List ByteArray) (xs : List Value) : Prop where
  rn : w.ownsRow 0 9 1 (.slice A' ns.length c') ns.length (ns.map Value.string)
  ri : w.ownsRow 0 29 5 (.slice A l.length c) l.length xs
  na : ∀ a, A = some a → ¬ S a.block ∧ a.block < w.heap.size
  nb : ∀ a, A' = some a → ¬ S a.block ∧ a.block < w.heap.size
  ne : ∀ a a', A = some a → A' = some a' → a.block ≠ a'.block
  lt : ∀ b, S b → b < w.heap.size
  it : ∀ j (hj : j < l.length), ∃ c0 c1 c2 c3 c4, xs[j * 5]? = some c0 ∧ xs[j * 5 + 1]? = some c1 ∧ xs[j * 5 + 2]? = some c2 ∧ xs[j * 5 + 3]? = some c3 ∧ xs[j * 5 + 4]? = some c4 ∧ LV w S l[j] (.agg #[c0, c1, c2, c3, c4])
theorem row_lt {w : World} {e : TypeId} {sz n c : Nat} {A : Option Addr} {xs : List Value} (h : w.ownsRow 0 e sz (.slice A n c) n xs) : ∀ a, A = some a → a.block < w.heap.size := by
  intro a ha
  rcases h.2 with ⟨h2, -⟩ | ⟨g, cap, cur, hv, -, hh, -⟩
  · injection h2 with e1; rw [ha] at e1; cases e1
  · injection hv with e1; rw [ha] at e1; injection e1 with e1; rw [e1]
    exact (Array.getElem?_eq_some_iff.1 hh).1
theorem TopV.of {w : World} {F : Nat → Prop} {t : VT} {A A' : Option Addr} {c c' : Nat} (h : OV w F t (.agg #[.int .i64 t.kind, .int .i64 t.num, .string t.text, .slice A t.items.length c, .slice A' t.names.length c'])) (hF : ∀ b, F b → b < w.heap.size) :
    ∃ xs, TopV w (Out F A A') A c A' c' t.items t.names xs := by
  obtain ⟨A1, c1, A1', c1', xs, hag, k1, k2, k3, k4, k5, k6⟩ := h.shape
  injection hag with hag; injection hag with hag
  injection hag with y0 hag; injection hag with y1 hag; injection hag with y2 hag; injection hag with y3 hag; injection hag with y4 hag
  injection y3 with e1 _ e3
  injection y4 with e4 _ e6
  subst e1 e3 e4 e6
  refine ⟨xs, k1, k2, fun a ha => ⟨fun hb => hb.2.1 a ha rfl, row_lt k2 a ha⟩, fun a ha => ⟨fun hb => hb.2.2 a ha rfl, row_lt k1 a ha⟩, k5, fun b hb => hF b hb.1, fun j hj => ?_⟩
  obtain ⟨Fs, -, m2, m3⟩ := k6.at
  obtain ⟨c0, c1, c2, c3, c4, e0, e1, e2, e3, e4, e5⟩ := m3 j hj
  exact ⟨c0, c1, c2, c3, c4, e0, e1, e2, e3, e4, (OV.lv e5).imp (m2 j)⟩
theorem TopV.imp {w : World} {S S' : Nat → Prop} {A A' : Option Addr} {c c' : Nat} {l : List VT} {ns : List ByteArray} {xs : List Value} (h : TopV w S A c A' c' l ns xs) (hS : ∀ b, S b → S' b) (h1 : ∀ a, A = some a → ¬ S' a.block) (h2 : ∀ a, A' = some a → ¬ S' a.block) (hl : ∀ b, S' b → b < w.heap.size) : TopV w S' A c A' c' l ns xs :=
  ⟨h.rn, h.ri, fun a ha => ⟨h1 a ha, (h.na a ha).2⟩, fun a ha => ⟨h2 a ha, (h.nb a ha).2⟩, h.ne, hl, fun j hj => by
    obtain ⟨c0, c1, c2, c3, c4, e0, e1, e2, e3, e4, e5⟩ := h.it j hj
    exact ⟨c0, c1, c2, c3, c4, e0, e1, e2, e3, e4, e5.imp hS⟩⟩
theorem TopV.keep {w w' : World} {S : Nat → Prop} {A A' : Option Addr} {c c' : Nat} {l : List VT} {ns : List ByteArray} {xs : List Value} (h : TopV w S A c A' c' l ns xs) (hs : w.heap.size ≤ w'.heap.size) (hk : ∀ b, S b → w'.heap[b]? = w.heap[b]?) (h1 : ∀ a, A = some a → w'.heap[a.block]? = w.heap[a.block]?) (h2 : ∀ a, A' = some a → w'.heap[a.block]? = w.heap[a.block]?) : TopV w' S A c A' c' l ns xs :=
  ⟨row_keep h.rn h2, row_keep h.ri h1, fun a ha => ⟨(h.na a ha).1, by have := (h.na a ha).2; omega⟩, fun a ha => ⟨(h.nb a ha).1, by have := (h.nb a ha).2; omega⟩, h.ne, fun b hb => by have := h.lt b hb; omega, fun j hj => by
    obtain ⟨c0, c1, c2, c3, c4, e0, e1, e2, e3, e4, e5⟩ := h.it j hj
    exact ⟨c0, c1, c2, c3, c4, e0, e1, e2, e3, e4, e5.keep hk⟩⟩
theorem getElem_append5 (xs : List Value) (c0 c1 c2 c3 c4 : Value) (n : Nat) (hn : xs.length = n * 5) (j : Nat) (hj : j < n * 5) : (xs ++ [c0, c1, c2, c3, c4])[j]? = xs[j]? := List.getElem?_append_left (by omega)
/-- An item more. -/
theorem TopV.push {w W : World} {S : Nat → Prop} {A A' : Option Addr} {c c' p cap : Nat} {l : List VT} {ns : List ByteArray} {xs : List Value} {x : VT} {c0 c1 c2 c3 c4 : Value} (h : TopV w S A c A' c' l ns xs) (hx : LV w S x (.agg #[c0, c1, c2, c3, c4])) (hs : w.heap.size ≤ W.heap.size)
    (hrow : W.ownsRow 0 29 5 (.slice (some ⟨p, 0, none⟩) (l.length + 1) cap) (l.length + 1) (xs ++ [c0, c1, c2, c3, c4])) (hp : A = some ⟨p, 0, none⟩ ∨ w.heap.size ≤ p) (hk : ∀ b, b < w.heap.size → (∀ a, A = some a → a.block ≠ b) → W.heap[b]? = w.heap[b]?) :
    TopV W S (some ⟨p, 0, none⟩) cap A' c' (l ++ [x]) ns (xs ++ [c0, c1, c2, c3, c4]) := by
  have hpS : ¬ S p := hp.elim (fun e => (h.na _ e).1) fun e hb => by have := h.lt _ hb; omega
  have hln : (l ++ [x]).length = l.length + 1 := by simp
  have hkS : ∀ b, S b → W.heap[b]? = w.heap[b]? := fun b hb => hk b (h.lt b hb) fun a ha e => (h.na a ha).1 (e ▸ hb)
  refine ⟨row_keep h.rn fun a ha => hk _ (h.nb a ha).2 fun a' ha' => h.ne a' a ha' ha, by rw [hln]; exact hrow, fun a ha => by cases ha; exact ⟨hpS, row_lt hrow _ rfl⟩, fun a ha => ⟨(h.nb a ha).1, by have := (h.nb a ha).2; omega⟩, fun a a' ha ha' => ?_, fun b hb => by have := h.lt b hb; omega, fun j hj => ?_⟩
  · cases ha
    rcases hp with e | e
    · exact h.ne _ a' e ha'
    · have := (h.nb a' ha').2
      show p ≠ a'.block
      omega
  · have hxl := h.ri.1
    rw [hln] at hj
    by_cases e : j = l.length
    · subst e
      refine ⟨c0, c1, c2, c3, c4, ?_, ?_, ?_, ?_, ?_, ?_⟩
      · rw [List.getElem?_append_right (by omega), hxl, Nat.sub_self]; rfl
      · rw [List.getElem?_append_right (by omega), hxl, Nat.add_sub_cancel_left]; rfl
      · rw [List.getElem?_append_right (by omega), hxl, Nat.add_sub_cancel_left]; rfl
      · rw [List.getElem?_append_right (by omega), hxl, Nat.add_sub_cancel_left]; rfl
      · rw [List.getElem?_append_right (by omega), hxl, Nat.add_sub_cancel_left]; rfl
      · rw [List.getElem_append_right (Nat.le_refl _)]
        simpa using hx.keep hkS
    · have hj' : j < l.length := by omega
      obtain ⟨d0, d1, d2, d3, d4, e0, e1, e2, e3, e4, e5⟩ := h.it j hj'
      refine ⟨d0, d1, d2, d3, d4, ?_, ?_, ?_, ?_, ?_, ?_⟩
      · rw [getElem_append5 _ _ _ _ _ _ _ hxl _ (by omega)]; exact e0
      · rw [getElem_append5 _ _ _ _ _ _ _ hxl _ (by omega)]; exact e1
      · rw [getElem_append5 _ _ _ _ _ _ _ hxl _ (by omega)]; exact e2
      · rw [getElem_append5 _ _ _ _ _ _ _ hxl _ (by omega)]; exact e3
      · rw [getElem_append5 _ _ _ _ _ _ _ hxl _ (by omega)]; exact e4
      · rw [List.getElem_append_left hj']
        exact e5.keep hkS
/-- A name more. -/
theorem TopV.name {w W : World} {S : Nat → Prop} {A A' : Option Addr} {c c' p cap : Nat} {l : List VT} {ns : List ByteArray} {xs : List Value} {x : ByteArray} (h : TopV w S A c A' c' l ns xs) (hs : w.heap.size ≤ W.heap.size)
    (hrow : W.ownsRow 0 9 1 (.slice (some ⟨p, 0, none⟩) (ns.length + 1) cap) (ns.length + 1) (ns.map Value.string ++ [.string x])) (hp : A' = some ⟨p, 0, none⟩ ∨ w.heap.size ≤ p) (hk : ∀ b, b < w.heap.size → (∀ a, A' = some a → a.block ≠ b) → W.heap[b]? = w.heap[b]?) :
    TopV W S A c (some ⟨p, 0, none⟩) cap l (ns ++ [x]) xs := by
  have hpS : ¬ S p := hp.elim (fun e => (h.nb _ e).1) fun e hb => by have := h.lt _ hb; omega
  have hln : (ns ++ [x]).length = ns.length + 1 := by simp
  have hkS : ∀ b, S b → W.heap[b]? = w.heap[b]? := fun b hb => hk b (h.lt b hb) fun a ha e => (h.nb a ha).1 (e ▸ hb)
  refine ⟨by rw [hln, List.map_append]; exact hrow, row_keep h.ri fun a ha => hk _ (h.na a ha).2 fun a' ha' e => h.ne a a' ha ha' e.symm, fun a ha => ⟨(h.na a ha).1, by have := (h.na a ha).2; omega⟩, fun a ha => by cases ha; exact ⟨hpS, row_lt hrow _ rfl⟩, fun a a' ha ha' => ?_, fun b hb => by have := h.lt b hb; omega, fun j hj => ?_⟩
  · cases ha'
    rcases hp with e | e
    · exact h.ne a _ ha e
    · have := (h.na a ha).2
      show a.block ≠ p
      omega
  · obtain ⟨d0, d1, d2, d3, d4, e0, e1, e2, e3, e4, e5⟩ := h.it j hj
    exact ⟨d0, d1, d2, d3, d4, e0, e1, e2, e3, e4, e5.keep hkS⟩
/-- An item stored in the place of another. -/
theorem TopV.put {w : World} {S : Nat → Prop} {A' : Option Addr} {q c c' : Nat} {l : List VT} {ns : List ByteArray} {xs : List Value} {x : VT} {c0 c1 c2 c3 c4 : Value} (h : TopV w S (some ⟨q, 0, none⟩) c A' c' l ns xs) (hx : LV w S x (.agg #[c0, c1, c2, c3, c4])) {j : Nat} (hj : j < l.length) :
    TopV (five w q (j * 5) c0 c1 c2 c3 c4) S (some ⟨q, 0, none⟩) c A' c' (l.set j x) ns (((((xs.set (j * 5) c0).set (j * 5 + 1) c1).set (j * 5 + 2) c2).set (j * 5 + 3) c3).set (j * 5 + 4) c4) := by
  have hk := five_other w q (j * 5) c0 c1 c2 c3 c4
  have hz := five_size w q (j * 5) c0 c1 c2 c3 c4
  have hqS : ¬ S q := (h.na _ rfl).1
  have hkS : ∀ b, S b → (five w q (j * 5) c0 c1 c2 c3 c4).heap[b]? = w.heap[b]? := fun b hb => hk b fun e => hqS (e ▸ hb)
  have hrow : (five w q (j * 5) c0 c1 c2 c3 c4).ownsRow 0 29 5 (.slice (some ⟨q, 0, none⟩) l.length c) l.length (((((xs.set (j * 5) c0).set (j * 5 + 1) c1).set (j * 5 + 2) c2).set (j * 5 + 3) c3).set (j * 5 + 4) c4) := by
    have h0 := (World.ownsRow.stored h.ri (j * 5) c0).1
    have h1 := (World.ownsRow.stored h0 (j * 5 + 1) c1).1
    have h2 := (World.ownsRow.stored h1 (j * 5 + 2) c2).1
    have h3 := (World.ownsRow.stored h2 (j * 5 + 3) c3).1
    exact (World.ownsRow.stored h3 (j * 5 + 4) c4).1
  have hln : (l.set j x).length = l.length := List.length_set
  have hxl := h.ri.1
  refine ⟨row_keep h.rn fun a ha => hk _ fun e => h.ne _ a rfl ha e.symm, by rw [hln]; exact hrow, fun a ha => ⟨(h.na a ha).1, by rw [hz]; exact (h.na a ha).2⟩, fun a ha => ⟨(h.nb a ha).1, by rw [hz]; exact (h.nb a ha).2⟩, h.ne, fun b hb => by rw [hz]; exact h.lt b hb, fun m hm => ?_⟩
  rw [hln] at hm
  by_cases e : m = j
  · subst e
    refine ⟨c0, c1, c2, c3, c4, ?_, ?_, ?_, ?_, ?_, ?_⟩
    · rw [List.getElem?_set_ne (by omega), List.getElem?_set_ne (by omega), List.getElem?_set_ne (by omega), List.getElem?_set_ne (by omega), List.getElem?_set_self (by omega)]
    · rw [List.getElem?_set_ne (by omega), List.getElem?_set_ne (by omega), List.getElem?_set_ne (by omega), List.getElem?_set_self (by simp only [List.length_set]; omega)]
    · rw [List.getElem?_set_ne (by omega), List.getElem?_set_ne (by omega), List.getElem?_set_self (by simp only [List.length_set]; omega)]
    · rw [List.getElem?_set_ne (by omega), List.getElem?_set_self (by simp only [List.length_set]; omega)]
    · rw [List.getElem?_set_self (by simp only [List.length_set]; omega)]
    · rw [List.getElem_set_self]
      exact hx.keep hkS
  · obtain ⟨d0, d1, d2, d3, d4, e0, e1, e2, e3, e4, e5⟩ := h.it m hm
    have hne : ∀ a b, a < 5 → b < 5 → j * 5 + a ≠ m * 5 + b := fun a b ha hb => by omega
    refine ⟨d0, d1, d2, d3, d4, ?_, ?_, ?_, ?_, ?_, ?_⟩
    · rw [List.getElem?_set_ne (by omega), List.getElem?_set_ne (by omega), List.getElem?_set_ne (by omega), List.getElem?_set_ne (by omega), List.getElem?_set_ne (by omega)]; exact e0
    · rw [List.getElem?_set_ne (by omega), List.getElem?_set_ne (by omega), List.getElem?_set_ne (by omega), List.getElem?_set_ne (by omega), List.getElem?_set_ne (by omega)]; exact e1
    · rw [List.getElem?_set_ne (by omega), List.getElem?_set_ne (by omega), List.getElem?_set_ne (by omega), List.getElem?_set_ne (by omega), List.getElem?_set_ne (by omega)]; exact e2
    · rw [List.getElem?_set_ne (by omega), List.getElem?_set_ne (by omega), List.getElem?_set_ne (by omega), List.getElem?_set_ne (by omega), List.getElem?_set_ne (by omega)]; exact e3
    · rw [List.getElem?_set_ne (by omega), List.getElem?_set_ne (by omega), List.getElem?_set_ne (by omega), List.getElem?_set_ne (by omega), List.getElem?_set_ne (by omega)]; exact e4
    · rw [List.getElem_set_ne (by omega)]
      exact e5.keep hkS
end Go.Proofs.YtnamdlljdgllmaaGreat

/- One item, one name less in a value whose rows are its own: plain. -/
namespace Go.Proofs.YtnamdlljdgllmaaGreat
set_option linter.unusedVariables false
set_option linter.unusedSimpArgs false
open Go.RowKit
/-- The blocks below B stay. -/
def LowR (B : Nat) (w w' : World) : Prop := ∀ b, b < B → w'.heap[b]? = w.heap[b]?
theorem LowR.refl (B : Nat) (w : World) : LowR B w w := fun _ _ => rfl
theorem LowR.trans (B : Nat) (a b c : World) (x : LowR B a b) (y : LowR B b c) : LowR B a c := fun i hi => (y i hi).trans (x i hi)
instance (B : Nat) (w : World) : Inhabited (LaterR (LowR B) w) := ⟨⟨w, LowR.refl B w⟩⟩
/-- Each cell of the row is one cell. -/
theorem TopV.one {w : World} {S : Nat → Prop} {A A' : Option Addr} {c c' : Nat} {l : List VT} {ns : List ByteArray} {xs : List Value} (h : TopV w S A c A' c' l ns xs) : ∀ u ∈ xs, u.oneCell' = true := by
  intro u hu
  obtain ⟨i, hi, rfl⟩ := List.mem_iff_getElem.1 hu
  have hxl := h.ri.1
  obtain ⟨d0, d1, d2, d3, d4, e0, e1, e2, e3, e4, e5⟩ := h.it (i / 5) (by omega)
  obtain ⟨A2, k2, A3, k3, hag, -⟩ := e5.shape
  injection hag with hag; injection hag with hag
  injection hag with z0 hag; injection hag with z1 hag; injection hag with z2 hag; injection hag with z3 hag; injection hag with z4 hag
  subst z0 z1 z2 z3 z4
  have hm : i = i / 5 * 5 ∨ i = i / 5 * 5 + 1 ∨ i = i / 5 * 5 + 2 ∨ i = i / 5 * 5 + 3 ∨ i = i / 5 * 5 + 4 := by omega
  have key : ∀ m v, i = m → xs[m]? = some v → xs[i] = v := fun m v e h => by
    subst e
    rw [List.getElem?_eq_getElem hi] at h
    exact Option.some.inj h
  rcases hm with e | e | e | e | e
  · rw [key _ _ e e0]; rfl
  · rw [key _ _ e e1]; rfl
  · rw [key _ _ e e2]; rfl
  · rw [key _ _ e e3]; rfl
  · rw [key _ _ e e4]; rfl
end Go.Proofs.YtnamdlljdgllmaaGreat

/- A change at one path leaves what lies at another: plain. -/
namespace Go.Proofs.YtnamdlljdgllmaaGreat
set_option linter.unusedVariables false
set_option linter.unusedSimpArgs false
/-! ### steps as numbers -/
theorem idxF_bounds : ∀ (l : List UInt8) (n m : Nat), idxF n l = some m → n * 10 ^ l.length ≤ m ∧ m < (n + 1) * 10 ^ l.length
  | [], n, m, h => by
    unfold idxF at h
    injection h with h
    subst h
    simp
  | b :: r, n, m, h => by
    unfold idxF at h
    split at h
    · cases h
    · rename_i hb
      split at h
      · cases h
      · obtain ⟨h1, h2⟩ := idxF_bounds r _ m h
        rw [List.length_cons, Nat.pow_succ]
        have hd : b.toNat - 48 ≤ 9 := by omega
        have hp : 0 < 10 ^ r.length := Nat.pow_pos (by omega)
        generalize 10 ^ r.length = P at *
        generalize b.toNat - 48 = d at *
        constructor
        · refine Nat.le_trans ?_ h1
          rw [Nat.mul_comm P 10, ← Nat.mul_assoc]
          exact Nat.mul_le_mul_right P (by omega)
        · refine Nat.lt_of_lt_of_le h2 ?_
          rw [Nat.mul_comm P 10, ← Nat.mul_assoc]
          exact Nat.mul_le_mul_right P (by omega)
theorem idxF_eq : ∀ (l l' : List UInt8) (n n' m : Nat), idxF n l = some m → idxF n' l' = some m → l.length = l'.length → n = n' ∧ l = l'
  | [], [], n, n', m, h, h', _ => by
    unfold idxF at h h'
    injection h with h
    injection h' with h'
    exact ⟨h.trans h'.symm, rfl⟩
  | [], _ :: _, _, _, _, _, _, hl => by simp at hl
  | _ :: _, [], _, _, _, _, _, hl => by simp at hl
  | b :: r, b' :: r', n, n', m, h, h', hl => by
    unfold idxF at h h'
    split at h
    · cases h
    · split at h
      · cases h
      · split at h'
        · cases h'
        · split at h'
          · cases h'
          · obtain ⟨e1, e2⟩ := idxF_eq r r' _ _ m h h' (by simpa using hl)
            have e3 : b.toNat = b'.toNat := by omega
            have e4 : b = b' := UInt8.toNat_inj.mp e3
            subst e2 e4
            exact ⟨by omega, rfl⟩
theorem idxP_inj {a b : List UInt8} {n : Nat} (h : idxP a = some n) (k : idxP b = some n) : a = b := by
  unfold idxP at h k
  split at h
  · cases h
  · rename_i ha
    split at k
    · cases k
    · rename_i hb
      cases a with
      | nil => exact absurd (.inl rfl) ha
      | cons x r =>
        cases b with
        | nil => exact absurd (.inl rfl) hb
        | cons y s =>
          have key : (x :: r).length = (y :: s).length := by
            have h0 := h
            have k0 := k
            unfold idxF at h0 k0
            split at h0
            · cases h0
            · rename_i hx
              split at h0
              · cases h0
              · split at k0
                · cases k0
                · rename_i hy
                  split at k0
                  · cases k0
                  · obtain ⟨h1, h2⟩ := idxF_bounds _ _ _ h0
                    obtain ⟨k1, k2⟩ := idxF_bounds _ _ _ k0
                    have zx : x.toNat = 48 → r = [] := fun e => by
                      have e2 : x = 48 := UInt8.toNat_inj.mp e
                      subst e2
                      cases r with
                      | nil => rfl
                      | cons _ _ => exact absurd (.inr ⟨rfl, by simp⟩) ha
                    have zy : y.toNat = 48 → s = [] := fun e => by
                      have e2 : y = 48 := UInt8.toNat_inj.mp e
                      subst e2
                      cases s with
                      | nil => rfl
                      | cons _ _ => exact absurd (.inr ⟨rfl, by simp⟩) hb
                    have e1 : 10 * 0 + (x.toNat - 48) = x.toNat - 48 := by omega
                    have e2 : 10 * 0 + (y.toNat - 48) = y.toNat - 48 := by omega
                    rw [e1] at h1 h2
                    rw [e2] at k1 k2
                    have up : ∀ (d P : Nat), 1 ≤ d → P ≤ d * P := fun d P hd => by
                      have := Nat.mul_le_mul_right P hd
                      omega
                    have lo : ∀ (d P : Nat), d ≤ 9 → (d + 1) * P ≤ 10 * P := fun d P hd => Nat.mul_le_mul_right P (by omega)
                    have hr1 := lo (x.toNat - 48) (10 ^ r.length) (by omega)
                    have hs1 := lo (y.toNat - 48) (10 ^ s.length) (by omega)
                    by_cases cx : x.toNat = 48
                    · have := zx cx
                      subst this
                      by_cases cy : y.toNat = 48
                      · have := zy cy
                        subst this
                        rfl
                      · have hs2 := up (y.toNat - 48) (10 ^ s.length) (by omega)
                        have hp : 0 < 10 ^ s.length := Nat.pow_pos (by omega)
                        rw [cx] at h2
                        simp at h2
                        omega
                    · by_cases cy : y.toNat = 48
                      · have := zy cy
                        subst this
                        have hr2 := up (x.toNat - 48) (10 ^ r.length) (by omega)
                        have hp : 0 < 10 ^ r.length := Nat.pow_pos (by omega)
                        rw [cy] at k2
                        simp at k2
                        omega
                      · have hr2 := up (x.toNat - 48) (10 ^ r.length) (by omega)
                        have hs2 := up (y.toNat - 48) (10 ^ s.length) (by omega)
                        have mono : ∀ i j : Nat, i < j → 10 * 10 ^ i ≤ 10 ^ j := fun i j hij => by
                          have := Nat.pow_le_pow_right (n := 10) (by omega) hij
                          rw [Nat.succ_eq_add_one, Nat.pow_succ] at this
                          omega
                        simp only [List.length_cons]
                        rcases Nat.lt_trichotomy r.length s.length with hlt | heq | hgt
                        · have := mono _ _ hlt
                          omega
                        · omega
                        · have := mono _ _ hgt
                          omega
          exact (idxF_eq _ _ _ _ _ h k key).2
theorem idxI_inj {a b : List UInt8} (h : idxI a = idxI b) (h0 : 0 ≤ idxI a) : a = b := by
  cases ha : idxP a with
  | none => rw [idxI_none ha] at h0; omega
  | some n =>
    cases hb : idxP b with
    | none => rw [h, idxI_none hb] at h0; omega
    | some m =>
      rw [idxI_some ha, idxI_some hb] at h
      have : n = m := by omega
      subst this
      exact idxP_inj ha hb
/-! ### what lies at one step -/
def itemT (t : VT) (s : ByteArray) : Option VT := if placeT t s < 0 then none else t.items[(placeT t s).toNat]?
theorem getT_item (t : VT) (s : ByteArray) (r : List ByteArray) : getT t (s :: r) = (itemT t s).bind fun u => getT u r := by
  conv => lhs; unfold getT
  unfold itemT
  split
  · rfl
  · cases t.items[(placeT t s).toNat]? <;> rfl
def lookN : List ByteArray → List VT → ByteArray → Option VT
  | a :: r, x :: l, s => if a = s then some x else lookN r l s
  | _, _, _ => none
theorem nmI_shift (s : ByteArray) : ∀ (l : List ByteArray) (k : Nat), nmI k l s = if nmI 0 l s < 0 then -1 else nmI 0 l s + k
  | [], k => by unfold nmI; simp
  | a :: r, k => by
    unfold nmI
    by_cases h : a = s
    · rw [if_pos h, if_pos h]; simp
    · rw [if_neg h, if_neg h]
      have h1 := nmI_shift s r (k + 1)
      have h2 := nmI_shift s r 1
      have h3 := (nmI_lt (s := s) (l := r) (k := 0)).1
      rw [h1]
      show _ = if nmI (0 + 1) r s < 0 then (-1 : Int) else nmI (0 + 1) r s + k
      rw [show 0 + 1 = 1 from rfl, h2]
      split <;> split <;> omega
theorem look_names (s : ByteArray) : ∀ (ns : List ByteArray) (l : List VT), (if nmI 0 ns s < 0 then none else l[(nmI 0 ns s).toNat]?) = lookN ns l s
  | [], l => by unfold nmI lookN; simp
  | a :: r, l => by
    by_cases h : a = s
    · have e : nmI 0 (a :: r) s = 0 := by unfold nmI; rw [if_pos h]; rfl
      rw [e]
      cases l with
      | nil => unfold lookN; simp
      | cons x l => unfold lookN; simp [h]
    · have e : nmI 0 (a :: r) s = nmI 1 r s := by conv => lhs; unfold nmI
                                                  rw [if_neg h]
      have e2 := nmI_shift s r 1
      have ih := look_names s r
      rw [e, e2]
      have h3 := (nmI_lt (s := s) (l := r) (k := 0)).1
      cases l with
      | nil =>
        unfold lookN
        split <;> simp
      | cons x l =>
        unfold lookN
        rw [if_neg h, ← ih l]
        by_cases hn : nmI 0 r s < 0
        · rw [if_pos hn, if_pos hn]; rfl
        · rw [if_neg hn, if_neg hn, if_neg (by omega)]
          have : (nmI 0 r s + ((1 : Nat) : Int)).toNat = (nmI 0 r s).toNat + 1 := by omega
          rw [this, List.getElem?_cons_succ]
theorem item_doc {t : VT} (h : t.kind = 7) (s : ByteArray) : itemT t s = lookN t.names t.items s := by
  unfold itemT
  rw [placeT_doc h]
  exact look_names s t.names t.items
theorem item_arr {t : VT} (h : t.kind = 6) (s : ByteArray) : itemT t s = if idxI s.data.toList < 0 then none else t.items[(idxI s.data.toList).toNat]? := by
  unfold itemT
  rw [placeT_arr h]
  by_cases h1 : idxI s.data.toList < (t.items.length : Int)
  · rw [if_pos h1]
  · rw [if_neg h1, if_pos (by omega)]
    split
    · rfl
    · rw [List.getElem?_eq_none (by omega)]
theorem nmI_inj {s s' : ByteArray} : ∀ {l : List ByteArray} {k : Nat}, nmI k l s = nmI k l s' → 0 ≤ nmI k l s → s = s'
  | [], k, _, h0 => by unfold nmI at h0; omega
  | a :: r, k, h, h0 => by
    unfold nmI at h h0
    have b1 := nmI_shift s r (k + 1)
    have b2 := nmI_shift s' r (k + 1)
    by_cases h1 : a = s
    · rw [if_pos h1] at h h0
      by_cases h2 : a = s'
      · exact h1.symm.trans h2
      · rw [if_neg h2, b2] at h
        split at h <;> omega
    · rw [if_neg h1] at h h0
      by_cases h2 : a = s'
      · rw [if_pos h2, b1] at h
        split at h <;> omega
      · rw [if_neg h2] at h
        exact nmI_inj h h0
theorem place_inj {t : VT} {s s' : ByteArray} (h : placeT t s = placeT t s') (h0 : 0 ≤ placeT t s) : s = s' := by
  by_cases h7 : t.kind = 7
  · rw [placeT_doc h7, placeT_doc h7] at h
    rw [placeT_doc h7] at h0
    exact nmI_inj h h0
  · by_cases h6 : t.kind = 6
    · rw [placeT_arr h6] at h h0
      rw [placeT_arr h6] at h
      split at h
      · rename_i h1
        rw [if_pos h1] at h0
        split at h
        · have := idxI_inj h h0
          cases s; cases s'
          simp only [ByteArray.mk.injEq]
          exact Array.toList_inj.mp this
        · omega
      · rename_i h1
        rw [if_neg h1] at h0
        omega
    · rw [placeT_else h7 h6] at h0; omega
end Go.Proofs.YtnamdlljdgllmaaGreat

/- What lies at a step of a changed value: plain. -/
namespace Go.Proofs.YtnamdlljdgllmaaGreat
set_option linter.unusedVariables false
set_option linter.unusedSimpArgs false
theorem lookN_erase {s s' : ByteArray} (hne : s' ≠ s) : ∀ (ns : List ByteArray) (l : List VT) (j : Nat), nmI 0 ns s = (j : Int) → lookN (ns.eraseIdx j) (l.eraseIdx j) s' = lookN ns l s'
  | [], l, j, h => by unfold nmI at h; omega
  | a :: r, l, j, h => by
    by_cases ha : a = s
    · have e : nmI 0 (a :: r) s = 0 := by unfold nmI; rw [if_pos ha]; rfl
      have : j = 0 := by omega
      subst this
      subst ha
      cases l with
      | nil =>
        simp only [List.eraseIdx_zero, List.tail_cons, List.tail_nil]
        cases r <;> rfl
      | cons x l =>
        simp only [List.eraseIdx_zero, List.tail_cons]
        conv => rhs; unfold lookN
        rw [if_neg (fun e => hne e.symm)]
    · have e : nmI 0 (a :: r) s = nmI 1 r s := by conv => lhs; unfold nmI
                                                  rw [if_neg ha]
      have e2 := nmI_shift s r 1
      have h3 := (nmI_lt (s := s) (l := r) (k := 0)).1
      rw [e, e2] at h
      have hn : ¬ nmI 0 r s < 0 := fun hh => by rw [if_pos hh] at h; omega
      rw [if_neg hn] at h
      obtain ⟨i, rfl⟩ : ∃ i, j = i + 1 := ⟨j - 1, by omega⟩
      have hi : nmI 0 r s = (i : Int) := by omega
      cases l with
      | nil =>
        simp only [List.eraseIdx_cons_succ, List.eraseIdx_nil]
        rfl
      | cons x l =>
        simp only [List.eraseIdx_cons_succ]
        unfold lookN
        rw [lookN_erase hne r l i hi]
theorem lookN_other {s s' : ByteArray} (hne : s' ≠ s) (y : VT) : ∀ (ns : List ByteArray) (l : List VT), ns.length = l.length → lookN (ns ++ [s]) (l ++ [y]) s' = lookN ns l s'
  | [], [], _ => by
    show lookN [s] [y] s' = _
    unfold lookN
    rw [if_neg (fun e => hne e.symm)]
    unfold lookN
    rfl
  | [], _ :: _, h => by simp at h
  | _ :: _, [], h => by simp at h
  | a :: r, x :: l, h => by
    simp only [List.cons_append]
    unfold lookN
    rw [lookN_other hne y r l (by simpa using h)]
theorem lookN_self {s : ByteArray} (y : VT) : ∀ (ns : List ByteArray) (l : List VT), ns.length = l.length → nmI 0 ns s < 0 → lookN (ns ++ [s]) (l ++ [y]) s = some y
  | [], [], _, _ => by
    show lookN [s] [y] s = _
    unfold lookN
    rw [if_pos rfl]
  | [], _ :: _, h, _ => by simp at h
  | _ :: _, [], h, _ => by simp at h
  | a :: r, x :: l, h, hn => by
    simp only [List.cons_append]
    unfold lookN
    by_cases ha : a = s
    · unfold nmI at hn
      rw [if_pos ha] at hn
      omega
    · rw [if_neg ha]
      refine lookN_self y r l (by simpa using h) ?_
      unfold nmI at hn
      rw [if_neg ha, nmI_shift] at hn
      split at hn <;> omega
theorem setT_kind (t : VT) (j : Nat) (u : VT) : (setT t j u).kind = t.kind := by cases t; rfl
theorem setT_items (t : VT) (j : Nat) (u : VT) : (setT t j u).items = t.items.set j u := by cases t; rfl
theorem setT_names (t : VT) (j : Nat) (u : VT) : (setT t j u).names = t.names := by cases t; rfl
theorem setT_place (t : VT) (j : Nat) (u : VT) (s : ByteArray) : placeT (setT t j u) s = placeT t s := by
  unfold placeT
  rw [setT_kind, setT_items, setT_names, List.length_set]
theorem item_set_at {t : VT} {s : ByteArray} (u : VT) (h : 0 ≤ placeT t s) (hj : (placeT t s).toNat < t.items.length) : itemT (setT t (placeT t s).toNat u) s = some u := by
  unfold itemT
  rw [setT_place, if_neg (by omega), setT_items, List.getElem?_set_self hj]
theorem item_set_other {t : VT} {s s' : ByteArray} (u : VT) (hne : s' ≠ s) (h : 0 ≤ placeT t s) : itemT (setT t (placeT t s).toNat u) s' = itemT t s' := by
  unfold itemT
  rw [setT_place]
  split
  · rfl
  · rename_i hn
    rw [setT_items, List.getElem?_set_ne]
    intro e
    have : placeT t s = placeT t s' := by omega
    exact hne (place_inj this h).symm
theorem remT_kind (t : VT) (j : Nat) : (remT t j).kind = t.kind := by cases t; rfl
theorem item_rem {t : VT} {s s' : ByteArray} (hk : t.kind = 7) (hne : s' ≠ s) (h : 0 ≤ placeT t s) : itemT (remT t (placeT t s).toNat) s' = itemT t s' := by
  rw [item_doc hk, item_doc ((remT_kind _ _).trans hk)]
  have e : nmI 0 t.names s = ((placeT t s).toNat : Int) := by rw [placeT_doc hk] at h ⊢; omega
  cases t with
  | mk k i x l ns => exact lookN_erase hne ns l _ e
theorem add_kind (t : VT) (s : ByteArray) (y : VT) : (addI (addN t s) y).kind = t.kind := by cases t; rfl
theorem addI_kind (t : VT) (y : VT) : (addI t y).kind = t.kind := by cases t; rfl
theorem item_add_other {t : VT} {s s' : ByteArray} (y : VT) (hk : t.kind = 7) (hl : t.names.length = t.items.length) (hne : s' ≠ s) : itemT (addI (addN t s) y) s' = itemT t s' := by
  rw [item_doc hk, item_doc ((add_kind _ _ _).trans hk)]
  cases t with
  | mk k i x l ns => exact lookN_other hne y ns l hl
theorem item_add_self {t : VT} {s : ByteArray} (y : VT) (hk : t.kind = 7) (hl : t.names.length = t.items.length) (h : placeT t s < 0) : itemT (addI (addN t s) y) s = some y := by
  rw [item_doc ((add_kind _ _ _).trans hk)]
  rw [placeT_doc hk] at h
  cases t with
  | mk k i x l ns => exact lookN_self y ns l hl h
theorem item_push_other {t : VT} {s s' : ByteArray} (y : VT) (hk : t.kind = 6) (h : idxI s.data.toList = (t.items.length : Int)) (hne : s' ≠ s) : itemT (addI t y) s' = itemT t s' := by
  rw [item_arr hk, item_arr ((addI_kind _ _).trans hk)]
  split
  · rfl
  · rename_i hn
    have hd : (idxI s'.data.toList).toNat ≠ t.items.length := fun e => by
      have e2 : idxI s'.data.toList = idxI s.data.toList := by omega
      have := idxI_inj e2 (by omega)
      refine hne ?_
      cases s; cases s'
      simp only [ByteArray.mk.injEq]
      exact Array.toList_inj.mp this
    cases t with
    | mk k i x l ns =>
      show (l ++ [y])[(idxI s'.data.toList).toNat]? = l[(idxI s'.data.toList).toNat]?
      replace hd : (idxI s'.data.toList).toNat ≠ l.length := hd
      by_cases hlt : (idxI s'.data.toList).toNat < l.length
      · rw [List.getElem?_append_left hlt]
      · rw [List.getElem?_eq_none (l := l) (by omega), List.getElem?_eq_none (l := l ++ [y]) (by rw [List.length_append, List.length_singleton]; omega)]
theorem item_push_self {t : VT} {s : ByteArray} (y : VT) (hk : t.kind = 6) (h : idxI s.data.toList = (t.items.length : Int)) : itemT (addI t y) s = some y := by
  rw [item_arr ((addI_kind _ _).trans hk), if_neg (by omega), h]
  cases t with
  | mk k i x l ns =>
    show (l ++ [y])[((l.length : Nat) : Int).toNat]? = _
    simp
/-! ### what may be stays so -/
theorem mayT_iff (t : VT) : mayT t = true ↔ fitsP t.kind t.num t.text t.items.length t.names = true ∧ ∀ x ∈ t.items, mayT x = true := by
  rw [mayT_mk2, Bool.and_eq_true]
  refine and_congr_right fun _ => ⟨fun h x hx => mayL_mem h hx, fun h => mayL_all fun j hj => h _ (List.getElem_mem hj)⟩
theorem mem_set {l : List VT} {j : Nat} {u x : VT} (h : x ∈ l.set j u) : x ∈ l ∨ x = u := List.mem_or_eq_of_mem_set h
theorem may_set {t u : VT} (j : Nat) (h : mayT t = true) (hu : mayT u = true) : mayT (setT t j u) = true := by
  obtain ⟨h1, h2⟩ := (mayT_iff t).1 h
  refine (mayT_iff _).2 ?_
  cases t with
  | mk k i x l ns =>
    refine ⟨?_, fun y hy => ?_⟩
    · show fitsP k i x (l.set j u).length ns = true
      rw [List.length_set]; exact h1
    · rcases mem_set hy with hy | rfl
      · exact h2 y hy
      · exact hu
theorem fits_doc {k i : Int} {x : ByteArray} {n : Nat} {ns : List ByteArray} (hk : k = 7) : fitsP k i x n ns = true ↔ i = 0 ∧ x.toList = [] ∧ ns.length = n ∧ distinctN ns = true := by
  subst hk
  unfold fitsP
  simp only [Bool.and_eq_true, decide_eq_true_eq, beq_iff_eq]
  simp
  constructor
  · rintro ⟨⟨⟨a, b⟩, c⟩, d⟩; exact ⟨a, b, c, d⟩
  · rintro ⟨a, b, c, d⟩; exact ⟨⟨⟨a, b⟩, c⟩, d⟩
theorem fits_arr {k i : Int} {x : ByteArray} {n : Nat} {ns : List ByteArray} (hk : k = 6) : fitsP k i x n ns = true ↔ i = 0 ∧ x.toList = [] ∧ ns.length = 0 := by
  subst hk
  unfold fitsP
  simp only [Bool.and_eq_true, decide_eq_true_eq, beq_iff_eq]
  simp
  constructor
  · rintro ⟨⟨a, b⟩, c⟩; exact ⟨a, b, c⟩
  · rintro ⟨a, b, c⟩; exact ⟨⟨a, b⟩, c⟩
theorem may_rem {t : VT} {j : Nat} (hk : t.kind = 7) (h : mayT t = true) (hj : j < t.items.length) : mayT (remT t j) = true := by
  obtain ⟨h1, h2⟩ := (mayT_iff t).1 h
  refine (mayT_iff _).2 ?_
  cases t with
  | mk k i x l ns =>
    obtain ⟨a, b, c, d⟩ := (fits_doc hk).1 h1
    replace c : ns.length = l.length := c
    replace hj : j < l.length := hj
    obtain ⟨d1, d2⟩ := nodup_ext.1 d
    refine ⟨(fits_doc hk).2 ⟨a, b, ?_, nodup_ext.2 ⟨fun s hs => d1 s (List.mem_of_mem_eraseIdx hs), d2.sublist (List.eraseIdx_sublist _ _)⟩⟩, fun y hy => h2 y (List.mem_of_mem_eraseIdx hy)⟩
    show (ns.eraseIdx j).length = (l.eraseIdx j).length
    rw [List.length_eraseIdx, List.length_eraseIdx, c]
theorem nmI_none {s : ByteArray} : ∀ {l : List ByteArray}, nmI 0 l s < 0 → s ∉ l
  | [], _ => by simp
  | a :: r, h => by
    unfold nmI at h
    by_cases ha : a = s
    · rw [if_pos ha] at h; omega
    · rw [if_neg ha, nmI_shift] at h
      have : nmI 0 r s < 0 := by split at h <;> omega
      intro hm
      rcases List.mem_cons.1 hm with e | e
      · exact ha e.symm
      · exact nmI_none this e
theorem may_add {t y : VT} {s : ByteArray} (hk : t.kind = 7) (h : mayT t = true) (hy : mayT y = true) (hs : nameB s.data.toList = true) (hp : placeT t s < 0) : mayT (addI (addN t s) y) = true := by
  obtain ⟨h1, h2⟩ := (mayT_iff t).1 h
  rw [placeT_doc hk] at hp
  refine (mayT_iff _).2 ?_
  cases t with
  | mk k i x l ns =>
    obtain ⟨a, b, c, d⟩ := (fits_doc hk).1 h1
    replace c : ns.length = l.length := c
    obtain ⟨d1, d2⟩ := nodup_ext.1 d
    have hno : s ∉ ns := nmI_none hp
    refine ⟨(fits_doc hk).2 ⟨a, b, ?_, nodup_ext.2 ⟨fun z hz => ?_, ?_⟩⟩, fun z hz => ?_⟩
    · show (ns ++ [s]).length = (l ++ [y]).length
      simp [c]
    · rcases List.mem_append.1 hz with hz | hz
      · exact d1 z hz
      · rw [List.mem_singleton.1 hz]; exact hs
    · show (ns ++ [s]).Nodup
      rw [List.nodup_append]
      refine ⟨d2, by simp, ?_⟩
      intro a1 ha1 b1 hb1 e
      rw [List.mem_singleton.1 hb1] at e
      subst e
      exact hno ha1
    · rcases List.mem_append.1 hz with hz | hz
      · exact h2 z hz
      · rw [List.mem_singleton.1 hz]; exact hy
theorem may_push {t y : VT} (hk : t.kind = 6) (h : mayT t = true) (hy : mayT y = true) : mayT (addI t y) = true := by
  obtain ⟨h1, h2⟩ := (mayT_iff t).1 h
  refine (mayT_iff _).2 ?_
  cases t with
  | mk k i x l ns =>
    obtain ⟨a, b, c⟩ := (fits_arr hk).1 h1
    refine ⟨(fits_arr hk).2 ⟨a, b, c⟩, fun z hz => ?_⟩
    rcases List.mem_append.1 hz with hz | hz
    · exact h2 z hz
    · rw [List.mem_singleton.1 hz]; exact hy
theorem may_front {x : VT} (n : Nat) (hk : x.kind = 6) (h : mayT x = true) : mayT (frontT x n) = true := by
  obtain ⟨h1, h2⟩ := (mayT_iff x).1 h
  refine (mayT_iff _).2 ?_
  cases x with
  | mk k i s l ns =>
    obtain ⟨a, b, c⟩ := (fits_arr hk).1 h1
    exact ⟨(fits_arr hk).2 ⟨a, b, c⟩, fun z hz => h2 z (List.mem_of_mem_take hz)⟩
theorem may_one {s : ByteArray} {x : VT} (hs : nameB s.data.toList = true) (hx : mayT x = true) : mayT (oneT s x) = true := by
  refine (mayT_iff _).2 ⟨(fits_doc rfl).2 ⟨rfl, toList_nil.2 rfl, rfl, nodup_ext.2 ⟨fun z hz => ?_, ?_⟩⟩, fun z hz => ?_⟩
  · have hz' : z ∈ [s] := hz
    rw [List.mem_singleton.1 hz']; exact hs
  · show [s].Nodup
    simp
  · have hz' : z ∈ [x] := hz
    rw [List.mem_singleton.1 hz']; exact hx
theorem may_nest {x : VT} (hx : mayT x = true) : ∀ {r : List ByteArray}, (∀ s ∈ r, nameB s.data.toList = true) → mayT (nestT r x) = true
  | [], _ => hx
  | s :: r, h => may_one (h s (by simp)) (may_nest hx fun z hz => h z (by simp [hz]))
theorem may_null : mayT nullT = true := by kernel_rfl
end Go.Proofs.YtnamdlljdgllmaaGreat

/- Setting, dropping, cutting at a path: what stays, what may be, how deep. Plain. -/
namespace Go.Proofs.YtnamdlljdgllmaaGreat
set_option linter.unusedVariables false
set_option linter.unusedSimpArgs false
/-- Neither path begins the other. -/
def FarP (p q : List ByteArray) : Prop := ¬ p <+: q ∧ ¬ q <+: p
theorem far_nil {q : List ByteArray} : ¬ FarP [] q := fun h => h.1 List.nil_prefix
theorem far_nil' {p : List ByteArray} : ¬ FarP p [] := fun h => h.2 List.nil_prefix
theorem far_in {s : ByteArray} {r r' : List ByteArray} (h : FarP (s :: r) (s :: r')) : FarP r r' :=
  ⟨fun k => h.1 (List.cons_prefix_cons.2 ⟨rfl, k⟩), fun k => h.2 (List.cons_prefix_cons.2 ⟨rfl, k⟩)⟩
theorem far_one {s s' : ByteArray} {r' : List ByteArray} (h : FarP [s] (s' :: r')) : s' ≠ s := fun e => by
  subst e
  exact far_nil (far_in h)
theorem item_one (s s' : ByteArray) (x : VT) : itemT (oneT s x) s' = if s = s' then some x else none := by
  rw [item_doc rfl]
  show lookN [s] [x] s' = _
  unfold lookN
  split
  · rfl
  · rfl
theorem nest_far (x : VT) : ∀ {r q : List ByteArray}, FarP r q → getT (nestT r x) q = none
  | [], _, h => absurd h far_nil
  | _ :: _, [], h => absurd h far_nil'
  | s :: r, s' :: r', h => by
    show getT (oneT s (nestT r x)) (s' :: r') = none
    rw [getT_item, item_one]
    split
    · rename_i e
      subst e
      exact nest_far x (far_in h)
    · rfl
theorem item_some {t : VT} {s : ByteArray} (h : 0 ≤ placeT t s) (hj : (placeT t s).toNat < t.items.length) : itemT t s = some t.items[(placeT t s).toNat] := by
  unfold itemT
  rw [if_neg (by omega), List.getElem?_eq_getElem hj]
theorem item_neg {t : VT} {s : ByteArray} (h : placeT t s < 0) : itemT t s = none := by
  unfold itemT
  rw [if_pos h]
/-! ### what stays -/
theorem goT_keeps {fin : VT → List ByteArray → Int × VT} (hfin : ∀ t s r s' r', mayT t = true → (placeT t s < 0 ∨ r = []) → FarP (s :: r) (s' :: r') → getT (fin t (s :: r)).2 (s' :: r') = getT t (s' :: r')) :
    ∀ (p : List ByteArray) (t : VT) (q : List ByteArray), mayT t = true → FarP p q → getT (goT fin t p).2 q = getT t q
  | [], _, _, _, h => absurd h far_nil
  | _ :: _, _, [], _, h => absurd h far_nil'
  | s :: r, t, s' :: r', hm, h => by
    by_cases he : placeT t s < 0 ∨ r = []
    · rw [goT_end he]; exact hfin _ _ _ _ _ hm he h
    · have h0 : 0 ≤ placeT t s := Int.not_lt.1 fun k => he (.inl k)
      have hr : r ≠ [] := fun k => he (.inr k)
      have hj := placeT_lt (may_nl hm) h0
      rw [goT_on h0 hr hj]
      show getT (setT _ _ _) (s' :: r') = _
      rw [getT_item, getT_item]
      by_cases e : s' = s
      · subst e
        rw [item_set_at _ h0 hj, item_some h0 hj]
        exact goT_keeps hfin r _ r' (may_item hm hj) (far_in h)
      · rw [item_set_other _ e h0]
theorem drop_keeps (t : VT) (s : ByteArray) (r : List ByteArray) (s' : ByteArray) (r' : List ByteArray) (hm : mayT t = true) (he : placeT t s < 0 ∨ r = []) (hf : FarP (s :: r) (s' :: r')) : getT (dropFin t (s :: r)).2 (s' :: r') = getT t (s' :: r') := by
  rw [dropFin_cons]
  show getT (if _ then _ else _) _ = _
  by_cases hn : placeT t s < 0
  · rw [if_pos hn]
  · rw [if_neg hn]
    have h0 : 0 ≤ placeT t s := Int.not_lt.1 hn
    obtain rfl := he.resolve_left hn
    have hne := far_one hf
    by_cases h7 : t.kind = 7
    · rw [if_pos h7, getT_item, getT_item, item_rem h7 hne h0]
    · rw [if_neg h7, getT_item, getT_item, item_set_other _ hne h0]
theorem cut_keeps (n : Int) (t : VT) (s : ByteArray) (r : List ByteArray) (s' : ByteArray) (r' : List ByteArray) (hm : mayT t = true) (he : placeT t s < 0 ∨ r = []) (hf : FarP (s :: r) (s' :: r')) : getT (cutFin n t (s :: r)).2 (s' :: r') = getT t (s' :: r') := by
  rw [cutFin_cons]
  split
  · rfl
  · show getT (if _ then _ else _) _ = _
    by_cases hn : placeT t s < 0
    · rw [if_pos hn]
    · rw [if_neg hn]
      have h0 : 0 ≤ placeT t s := Int.not_lt.1 hn
      obtain rfl := he.resolve_left hn
      have hne := far_one hf
      have hj := placeT_lt (may_nl hm) h0
      rw [List.getElem?_eq_getElem hj]
      show getT (setT _ _ _) _ = _
      rw [getT_item, getT_item, item_set_other _ hne h0]
theorem set_keeps (x : VT) (t : VT) (s : ByteArray) (r : List ByteArray) (s' : ByteArray) (r' : List ByteArray) (hm : mayT t = true) (he : placeT t s < 0 ∨ r = []) (hf : FarP (s :: r) (s' :: r')) : getT (setFin x t (s :: r)).2 (s' :: r') = getT t (s' :: r') := by
  rw [setFin_cons]
  by_cases hn : placeT t s < 0
  · rw [if_neg (by omega)]
    by_cases h7 : t.kind = 7
    · rw [if_pos h7]
      show getT (addI (addN t s) (nestT r x)) _ = _
      rw [getT_item, getT_item]
      by_cases e : s' = s
      · subst e
        rw [item_add_self _ h7 (may_nl_eq hm h7) hn, item_neg hn]
        exact nest_far x (far_in hf)
      · rw [item_add_other _ h7 (may_nl_eq hm h7) e]
    · rw [if_neg h7]
      split
      · rename_i hk
        obtain ⟨h6, hx⟩ := hk
        unfold nextT at hx
        rw [Bool.and_eq_true, decide_eq_true_eq, decide_eq_true_eq] at hx
        obtain rfl : r = [] := List.eq_nil_of_length_eq_zero hx.2
        show getT (addI t x) _ = _
        rw [getT_item, getT_item, item_push_other _ h6 hx.1 (far_one hf)]
      · rfl
  · have h0 : 0 ≤ placeT t s := Int.not_lt.1 hn
    rw [if_pos h0]
    obtain rfl := he.resolve_left hn
    show getT (setT _ _ _) _ = _
    rw [getT_item, getT_item, item_set_other _ (far_one hf) h0]
/-! ### what may be -/
def NamesOk (p : List ByteArray) : Prop := ∀ z ∈ p, nameB z.data.toList = true
theorem goT_may {fin : VT → List ByteArray → Int × VT} (hfin : ∀ t s r, mayT t = true → (placeT t s < 0 ∨ r = []) → NamesOk (s :: r) → mayT (fin t (s :: r)).2 = true ∧ (fin t (s :: r)).2.kind = t.kind) :
    ∀ (p : List ByteArray) (t : VT), mayT t = true → NamesOk p → mayT (goT fin t p).2 = true ∧ (goT fin t p).2.kind = t.kind
  | [], t, hm, _ => by unfold goT; exact ⟨hm, rfl⟩
  | s :: r, t, hm, hk => by
    by_cases he : placeT t s < 0 ∨ r = []
    · rw [goT_end he]; exact hfin _ _ _ hm he hk
    · have h0 : 0 ≤ placeT t s := Int.not_lt.1 fun k => he (.inl k)
      have hr : r ≠ [] := fun k => he (.inr k)
      have hj := placeT_lt (may_nl hm) h0
      rw [goT_on h0 hr hj]
      exact ⟨may_set _ hm (goT_may hfin r _ (may_item hm hj) fun z hz => hk z (by simp [hz])).1, setT_kind _ _ _⟩
theorem drop_may (t : VT) (s : ByteArray) (r : List ByteArray) (hm : mayT t = true) (he : placeT t s < 0 ∨ r = []) (hk : NamesOk (s :: r)) : mayT (dropFin t (s :: r)).2 = true ∧ (dropFin t (s :: r)).2.kind = t.kind := by
  rw [dropFin_cons]
  show mayT (if _ then _ else _) = true ∧ VT.kind (if _ then _ else _) = _
  by_cases hn : placeT t s < 0
  · rw [if_pos hn]; exact ⟨hm, rfl⟩
  · rw [if_neg hn]
    have h0 : 0 ≤ placeT t s := Int.not_lt.1 hn
    by_cases h7 : t.kind = 7
    · rw [if_pos h7]; exact ⟨may_rem h7 hm (placeT_lt (may_nl hm) h0), remT_kind _ _⟩
    · rw [if_neg h7]; exact ⟨may_set _ hm may_null, setT_kind _ _ _⟩
theorem may_cutV {x : VT} (n : Int) (h : mayT x = true) : mayT (cutV x n) = true := by
  unfold cutV
  split
  · rename_i hk; exact may_front _ hk.1 h
  · exact h
theorem cut_may (n : Int) (t : VT) (s : ByteArray) (r : List ByteArray) (hm : mayT t = true) (he : placeT t s < 0 ∨ r = []) (hk : NamesOk (s :: r)) : mayT (cutFin n t (s :: r)).2 = true ∧ (cutFin n t (s :: r)).2.kind = t.kind := by
  rw [cutFin_cons]
  split
  · exact ⟨hm, rfl⟩
  · show mayT (if _ then _ else _) = true ∧ VT.kind (if _ then _ else _) = _
    by_cases hn : placeT t s < 0
    · rw [if_pos hn]; exact ⟨hm, rfl⟩
    · rw [if_neg hn]
      have h0 : 0 ≤ placeT t s := Int.not_lt.1 hn
      have hj := placeT_lt (may_nl hm) h0
      rw [List.getElem?_eq_getElem hj]
      exact ⟨may_set _ hm (may_cutV n (may_item hm hj)), setT_kind _ _ _⟩
theorem set_may (x : VT) (hx : mayT x = true) (t : VT) (s : ByteArray) (r : List ByteArray) (hm : mayT t = true) (he : placeT t s < 0 ∨ r = []) (hk : NamesOk (s :: r)) : mayT (setFin x t (s :: r)).2 = true ∧ (setFin x t (s :: r)).2.kind = t.kind := by
  rw [setFin_cons]
  by_cases hn : placeT t s < 0
  · rw [if_neg (by omega)]
    by_cases h7 : t.kind = 7
    · rw [if_pos h7]
      exact ⟨may_add h7 hm (may_nest hx fun z hz => hk z (by simp [hz])) (hk s (by simp)) hn, add_kind _ _ _⟩
    · rw [if_neg h7]
      split
      · rename_i h6
        exact ⟨may_push h6.1 hm hx, addI_kind _ _⟩
      · exact ⟨hm, rfl⟩
  · have h0 : 0 ≤ placeT t s := Int.not_lt.1 hn
    rw [if_pos h0]
    exact ⟨may_set _ hm hx, setT_kind _ _ _⟩
/-! ### the codes -/
theorem goT_code {fin : VT → List ByteArray → Int × VT} {c : Int → Prop} (h0 : c 0) (hfin : ∀ t s r, c (fin t (s :: r)).1) : ∀ (p : List ByteArray) (t : VT), c (goT fin t p).1
  | [], t => by unfold goT; exact h0
  | s :: r, t => by
    unfold goT
    split
    · exact hfin _ _ _
    · split
      · exact h0
      · exact goT_code h0 hfin r _
theorem drop_code (t : VT) (s : ByteArray) (r : List ByteArray) : (dropFin t (s :: r)).1 = 0 := rfl
theorem cut_code {n : Int} (hn : 0 ≤ n) (t : VT) (s : ByteArray) (r : List ByteArray) : (cutFin n t (s :: r)).1 = 0 := by
  rw [cutFin_cons, if_neg (by omega)]
theorem set_code (x t : VT) (s : ByteArray) (r : List ByteArray) : (setFin x t (s :: r)).1 = 0 ∨ (setFin x t (s :: r)).1 = 40 := by
  rw [setFin_cons]
  split
  · exact .inl rfl
  · split
    · exact .inl rfl
    · split
      · exact .inl rfl
      · exact .inr rfl
/-! ### how deep -/
theorem depthL_all {N : Nat} : ∀ {l : List VT}, (∀ x ∈ l, depthT x ≤ N) → depthL l ≤ N
  | [], _ => by unfold depthL; omega
  | x :: l, h => by
    unfold depthL
    have h1 := h x (by simp)
    have h2 := depthL_all (N := N) (l := l) fun y hy => h y (by simp [hy])
    omega
theorem depth_of {t : VT} {N : Nat} (h : ∀ x ∈ t.items, depthT x ≤ N) : depthT t ≤ N + 1 := by
  cases t with
  | mk k i s l ns =>
    rw [depthT_mk]
    have := depthL_all (l := l) h
    omega
theorem depth_item {t x : VT} (h : x ∈ t.items) : depthT x + 1 ≤ depthT t := by
  cases t with
  | mk k i s l ns =>
    rw [depthT_mk]
    have := depthL_le (l := l) h
    omega
theorem depth_pos (t : VT) : 1 ≤ depthT t := by
  cases t with
  | mk k i s l ns => rw [depthT_mk]; omega
theorem depth_set {t u : VT} {j K : Nat} (h : depthT u ≤ depthT t - 1 + K) : depthT (setT t j u) ≤ depthT t + K := by
  have h0 := depth_pos t
  have := depth_of (t := setT t j u) (N := depthT t - 1 + K) fun x hx => by
    rw [setT_items] at hx
    rcases mem_set hx with hx | rfl
    · have := depth_item hx; omega
    · exact h
  omega
theorem goT_depth {fin : VT → List ByteArray → Int × VT} {K L : Nat} (hfin : ∀ t s r, r.length ≤ L → depthT (fin t (s :: r)).2 ≤ depthT t + K) : ∀ (p : List ByteArray) (t : VT), p.length ≤ L + 1 → depthT (goT fin t p).2 ≤ depthT t + K
  | [], t, _ => by unfold goT; exact Nat.le_add_right _ _
  | s :: r, t, hl => by
    rw [List.length_cons] at hl
    unfold goT
    split
    · exact hfin _ _ _ (by omega)
    · split
      · exact Nat.le_add_right _ _
      · rename_i y hy
        have hm : y ∈ t.items := List.mem_of_getElem? hy
        have h1 := goT_depth hfin r y (by omega)
        have h2 := depth_item hm
        exact depth_set (by omega)
theorem depth_null : depthT nullT = 1 := by kernel_rfl
theorem drop_depth (t : VT) (s : ByteArray) (r : List ByteArray) : depthT (dropFin t (s :: r)).2 ≤ depthT t + 1 := by
  rw [dropFin_cons]
  show depthT (if _ then _ else _) ≤ _
  split
  · omega
  · split
    · have h0 := depth_pos t
      have := depth_of (t := remT t (placeT t s).toNat) (N := depthT t - 1) fun x hx => by
        cases t with
        | mk k i z l ns =>
          have := depth_item (t := .mk k i z l ns) (List.mem_of_mem_eraseIdx hx)
          omega
      omega
    · refine depth_set ?_
      rw [depth_null]
      omega
theorem depth_cutV (x : VT) (n : Int) : depthT (cutV x n) ≤ depthT x := by
  unfold cutV
  split
  · have h0 := depth_pos x
    have := depth_of (t := frontT x n.toNat) (N := depthT x - 1) fun y hy => by
      cases x with
      | mk k i z l ns =>
        have := depth_item (t := .mk k i z l ns) (List.mem_of_mem_take hy)
        omega
    omega
  · omega
theorem cut_depth (n : Int) (t : VT) (s : ByteArray) (r : List ByteArray) : depthT (cutFin n t (s :: r)).2 ≤ depthT t + 1 := by
  rw [cutFin_cons]
  split
  · exact Nat.le_add_right _ _
  · show depthT (if _ then _ else _) ≤ _
    split
    · omega
    · split
      · omega
      · rename_i y hy
        have h1 := depth_cutV y n
        have h2 := depth_item (List.mem_of_getElem? hy)
        exact depth_set (by omega)
theorem depth_one (s : ByteArray) (x : VT) : depthT (oneT s x) ≤ depthT x + 1 := depth_of fun y hy => by
  have hy' : y ∈ [x] := hy
  rw [List.mem_singleton.1 hy']; omega
theorem depth_nest (x : VT) : ∀ r : List ByteArray, depthT (nestT r x) ≤ depthT x + r.length
  | [] => Nat.le_refl _
  | s :: r => by
    have h1 := depth_one s (nestT r x)
    have h2 := depth_nest x r
    show depthT (oneT s (nestT r x)) ≤ _
    rw [List.length_cons]
    omega
theorem depth_add {t u : VT} {K : Nat} (hi : t.items = t.items) (h : depthT u ≤ depthT t - 1 + K) : depthT (addI t u) ≤ depthT t + K := by
  have h0 := depth_pos t
  have := depth_of (t := addI t u) (N := depthT t - 1 + K) fun x hx => by
    cases t with
    | mk k i z l ns =>
      rcases List.mem_append.1 hx with hx | hx
      · have := depth_item (t := .mk k i z l ns) hx; omega
      · rw [List.mem_singleton.1 hx]; exact h
  omega
theorem depth_addN (t : VT) (s : ByteArray) : depthT (addN t s) = depthT t := by
  cases t with
  | mk k i z l ns => show depthT (.mk k i z l (ns ++ [s])) = _; rw [depthT_mk, depthT_mk]
theorem set_depth (x : VT) (L : Nat) (t : VT) (s : ByteArray) (r : List ByteArray) (hr : r.length ≤ L) : depthT (setFin x t (s :: r)).2 ≤ depthT t + (depthT x + L) := by
  rw [setFin_cons]
  split
  · exact depth_set (by omega)
  · split
    · have h1 := depth_nest x r
      have := depth_add (t := addN t s) (u := nestT r x) (K := depthT x + L) rfl (by omega)
      rw [depth_addN] at this
      exact this
    · split
      · exact depth_add rfl (by omega)
      · exact Nat.le_add_right _ _
end Go.Proofs.YtnamdlljdgllmaaGreat

/- What lies elsewhere stays: the program's answers. Plain. -/
namespace Go.Proofs.YtnamdlljdgllmaaGreat
set_option linter.unusedVariables false
set_option linter.unusedSimpArgs false
theorem mayP_names {p : List ByteArray} (h : mayP p = true) : NamesOk p := by
  unfold mayP at h
  simp only [Bool.and_eq_true, List.all_eq_true] at h
  exact h.2
theorem mayP_len {p : List ByteArray} (h : mayP p = true) : p.length ≤ 8 := by
  unfold mayP at h
  simp only [Bool.and_eq_true, decide_eq_true_eq] at h
  exact h.1.2
theorem goT_zero {fin : VT → List ByteArray → Int × VT} {t : VT} {p : List ByteArray} (hw : wrongT t p = 0) (h : (goT fin t p).1 = 0) : changeT fin t p = (0, (goT fin t p).2) := by
  unfold changeT
  rw [if_pos hw, if_pos h]
section
variable {t : VT} {p q : List ByteArray} (hw : wrongT t p = 0) (hv : wrongT t q = 0) (h1 : begP p q = false) (h2 : begP q p = false)
include hw hv h1 h2
end
end Go.Proofs.YtnamdlljdgllmaaGreat

/- What was set lies there; setting it again changes nothing. Plain. -/
namespace Go.Proofs.YtnamdlljdgllmaaGreat
set_option linter.unusedVariables false
set_option linter.unusedSimpArgs false
theorem setT_self {t u : VT} {k : Nat} (h : t.items[k]? = some u) : setT t k u = t := by
  cases t with
  | mk kd i s l ns =>
    show VT.mk kd i s (l.set k u) ns = _
    have h' : l[k]? = some u := h
    obtain ⟨hk, e⟩ := List.getElem?_eq_some_iff.1 h'
    rw [← e, List.set_getElem_self]
theorem goT_same {x : VT} : ∀ (p : List ByteArray) (t : VT), getT t p = some x → goT (setFin x) t p = (0, t)
  | [], t, _ => by unfold goT; rfl
  | s :: r, t, h => by
    rw [getT_item] at h
    cases hi : itemT t s with
    | none => rw [hi] at h; cases h
    | some u =>
      rw [hi] at h
      have hu : getT u r = some x := h
      unfold itemT at hi
      split at hi
      · cases hi
      · rename_i hn
        have h0 : 0 ≤ placeT t s := Int.not_lt.1 hn
        have hj : (placeT t s).toNat < t.items.length := (List.getElem?_eq_some_iff.1 hi).1
        have hje : t.items[(placeT t s).toNat] = u := (List.getElem?_eq_some_iff.1 hi).2
        by_cases hr : r = []
        · subst hr
          unfold getT at hu
          injection hu with hu
          subst hu
          rw [goT_end (.inr rfl), setFin_cons, if_pos h0, setT_self hi]
        · rw [goT_on h0 hr hj, hje, goT_same r u hu]
          show ((0 : Int), setT t _ u) = _
          rw [setT_self hi]
theorem nest_get (x : VT) : ∀ r : List ByteArray, getT (nestT r x) r = some x
  | [] => by unfold getT; rfl
  | s :: r => by
    show getT (oneT s (nestT r x)) (s :: r) = _
    rw [getT_item, item_one, if_pos rfl]
    exact nest_get x r
theorem set_get (x : VT) : ∀ (p : List ByteArray) (t : VT), p ≠ [] → mayT t = true → (goT (setFin x) t p).1 = 0 → getT (goT (setFin x) t p).2 p = some x
  | [], _, hp, _, _ => absurd rfl hp
  | s :: r, t, _, hm, hc => by
    by_cases he : placeT t s < 0 ∨ r = []
    · rw [goT_end he, setFin_cons] at hc ⊢
      by_cases hn : placeT t s < 0
      · rw [if_neg (by omega)] at hc ⊢
        by_cases h7 : t.kind = 7
        · rw [if_pos h7]
          show getT (addI (addN t s) (nestT r x)) _ = _
          rw [getT_item, item_add_self _ h7 (may_nl_eq hm h7) hn]
          exact nest_get x r
        · rw [if_neg h7] at hc ⊢
          by_cases h6 : t.kind = 6 ∧ nextT t s r = true
          · rw [if_pos h6]
            obtain ⟨h6, hx⟩ := h6
            unfold nextT at hx
            rw [Bool.and_eq_true, decide_eq_true_eq, decide_eq_true_eq] at hx
            obtain rfl : r = [] := List.eq_nil_of_length_eq_zero hx.2
            show getT (addI t x) _ = _
            rw [getT_item, item_push_self _ h6 hx.1]
            show getT x [] = _
            unfold getT
            rfl
          · rw [if_neg h6] at hc
            cases hc
      · have h0 : 0 ≤ placeT t s := Int.not_lt.1 hn
        obtain rfl := he.resolve_left hn
        rw [if_pos h0]
        show getT (setT _ _ _) _ = _
        rw [getT_item, item_set_at _ h0 (placeT_lt (may_nl hm) h0)]
        show getT x [] = _
        unfold getT
        rfl
    · have h0 : 0 ≤ placeT t s := Int.not_lt.1 fun k => he (.inl k)
      have hr : r ≠ [] := fun k => he (.inr k)
      have hj := placeT_lt (may_nl hm) h0
      rw [goT_on h0 hr hj] at hc ⊢
      show getT (setT _ _ _) _ = _
      rw [getT_item, item_set_at _ h0 hj]
      exact set_get x r _ hr (may_item hm hj) hc
end Go.Proofs.YtnamdlljdgllmaaGreat

/- Lengths behind a Set: plain; and what the law asks of one. -/
namespace Go.Proofs.YtnamdlljdgllmaaGreat
set_option linter.unusedVariables false
set_option linter.unusedSimpArgs false
open Go.RowKit
theorem lens_set {K : Nat} {t y : VT} {j : Nat} (h : lensT K t = true) (hy : lensT K y = true) : lensT K (setT t j y) = true := by
  obtain ⟨h1, h2, h3⟩ := (lensT_iff t).1 h
  cases t with
  | mk k i s l ns =>
    refine (lensT_iff _).2 ⟨by show (l.set j y).length ≤ K; rw [List.length_set]; exact h1, h2, fun x hx => ?_⟩
    rcases List.mem_or_eq_of_mem_set (show x ∈ l.set j y from hx) with hx | rfl
    · exact h3 x hx
    · exact hy
theorem lens_addI {K : Nat} {t y : VT} (h : lensT K t = true) (hy : lensT (K + 1) y = true) : lensT (K + 1) (addI t y) = true := by
  obtain ⟨h1, h2, h3⟩ := (lensT_iff t).1 h
  cases t with
  | mk k i s l ns =>
    simp only [VT.items, VT.names] at h1 h2 h3
    refine (lensT_iff _).2 ⟨by show (l ++ [y]).length ≤ K + 1; simp; omega, by show ns.length ≤ K + 1; omega, fun x hx => ?_⟩
    rcases List.mem_append.1 (show x ∈ l ++ [y] from hx) with hx | hx
    · exact lens_mono (by omega) x (h3 x hx)
    · rw [List.mem_singleton.1 hx]; exact hy
theorem lens_addIN {K : Nat} {t y : VT} {s : ByteArray} (h : lensT K t = true) (hy : lensT (K + 1) y = true) : lensT (K + 1) (addI (addN t s) y) = true := by
  obtain ⟨h1, h2, h3⟩ := (lensT_iff t).1 h
  cases t with
  | mk k i x l ns =>
    simp only [VT.items, VT.names] at h1 h2 h3
    refine (lensT_iff _).2 ⟨by show (l ++ [y]).length ≤ K + 1; simp; omega, by show (ns ++ [s]).length ≤ K + 1; simp; omega, fun x hx => ?_⟩
    rcases List.mem_append.1 (show x ∈ l ++ [y] from hx) with hx | hx
    · exact lens_mono (by omega) x (h3 x hx)
    · rw [List.mem_singleton.1 hx]; exact hy
theorem lens_nest {K : Nat} {x : VT} (hK : 1 ≤ K) (hx : lensT K x = true) : ∀ r : List ByteArray, lensT K (nestT r x) = true
  | [] => hx
  | s :: r => by
    show lensT K (oneT s (nestT r x)) = true
    refine (lensT_iff _).2 ⟨hK, hK, fun y hy => ?_⟩
    rw [List.mem_singleton.1 (show y ∈ [nestT r x] from hy)]
    exact lens_nest hK hx r
theorem lens_goT {K : Nat} {x : VT} (hx : lensT K x = true) : ∀ (p : List ByteArray) (t : VT), mayT t = true → lensT K t = true → lensT (K + 1) (goT (setFin x) t p).2 = true
  | [], t, _, h => by unfold goT; exact lens_mono (by omega) t h
  | s :: r, t, hm, h => by
    have hx1 := lens_mono (Nat.le_succ K) x hx
    have ht1 := lens_mono (Nat.le_succ K) t h
    by_cases he : placeT t s < 0 ∨ r = []
    · rw [goT_end he, setFin_cons]
      by_cases h0 : 0 ≤ placeT t s
      · rw [if_pos h0]
        exact lens_set ht1 hx1
      · rw [if_neg h0]
        by_cases h7 : t.kind = 7
        · rw [if_pos h7]
          exact lens_addIN h (lens_nest (by omega) hx1 r)
        · rw [if_neg h7]
          by_cases h6 : t.kind = 6 ∧ nextT t s r = true
          · rw [if_pos h6]
            exact lens_addI h hx1
          · rw [if_neg h6]
            exact ht1
    · have h0 : 0 ≤ placeT t s := Int.not_lt.1 fun k => he (.inl k)
      have hr : r ≠ [] := fun k => he (.inr k)
      have hj := placeT_lt (may_nl hm) h0
      rw [goT_on h0 hr hj]
      exact lens_set ht1 (lens_goT hx r _ (may_item hm hj) (((lensT_iff t).1 h).2.2 _ (List.getElem_mem hj)))
end Go.Proofs.YtnamdlljdgllmaaGreat
