/- A change at one path leaves what lies at another: plain. -/
import Derived.Test.YtlddhpjokiphfaaKTrW
import Derived.Test.YtlddhpjokiphfaaKTsE
import Derived.Test.YtlddhpjokiphfaaKRefT
namespace Go.Proofs.Ytlddhpjokiphfaa
set_option linter.unusedVariables false
set_option linter.unusedSimpArgs false
/-! ### steps as numbers -/
theorem idxF_bounds : ∀ (l : List UInt8) (n m : Nat), idxF n l = some m → n * 10 ^ l.length ≤ m ∧ m < (n + 1) * 10 ^ l.length
  | [], n, m, h => by
    unfold idxF at h
    injection h with h
    subst h
    simp
  | b :: r, n, m, h => by
    unfold idxF at h
    split at h
    · cases h
    · rename_i hb
      split at h
      · cases h
      · obtain ⟨h1, h2⟩ := idxF_bounds r _ m h
        rw [List.length_cons, Nat.pow_succ]
        have hd : b.toNat - 48 ≤ 9 := by omega
        have hp : 0 < 10 ^ r.length := Nat.pow_pos (by omega)
        generalize 10 ^ r.length = P at *
        generalize b.toNat - 48 = d at *
        constructor
        · refine Nat.le_trans ?_ h1
          rw [Nat.mul_comm P 10, ← Nat.mul_assoc]
          exact Nat.mul_le_mul_right P (by omega)
        · refine Nat.lt_of_lt_of_le h2 ?_
          rw [Nat.mul_comm P 10, ← Nat.mul_assoc]
          exact Nat.mul_le_mul_right P (by omega)
theorem idxF_eq : ∀ (l l' : List UInt8) (n n' m : Nat), idxF n l = some m → idxF n' l' = some m → l.length = l'.length → n = n' ∧ l = l'
  | [], [], n, n', m, h, h', _ => by
    unfold idxF at h h'
    injection h with h
    injection h' with h'
    exact ⟨h.trans h'.symm, rfl⟩
  | [], _ :: _, _, _, _, _, _, hl => by simp at hl
  | _ :: _, [], _, _, _, _, _, hl => by simp at hl
  | b :: r, b' :: r', n, n', m, h, h', hl => by
    unfold idxF at h h'
    split at h
    · cases h
    · split at h
      · cases h
      · split at h'
        · cases h'
        · split at h'
          · cases h'
          · obtain ⟨e1, e2⟩ := idxF_eq r r' _ _ m h h' (by simpa using hl)
            have e3 : b.toNat = b'.toNat := by omega
            have e4 : b = b' := UInt8.toNat_inj.mp e3
            subst e2 e4
            exact ⟨by omega, rfl⟩
theorem idxP_inj {a b : List UInt8} {n : Nat} (h : idxP a = some n) (k : idxP b = some n) : a = b := by
  unfold idxP at h k
  split at h
  · cases h
  · rename_i ha
    split at k
    · cases k
    · rename_i hb
      cases a with
      | nil => exact absurd (.inl rfl) ha
      | cons x r =>
        cases b with
        | nil => exact absurd (.inl rfl) hb
        | cons y s =>
          have key : (x :: r).length = (y :: s).length := by
            have h0 := h
            have k0 := k
            unfold idxF at h0 k0
            split at h0
            · cases h0
            · rename_i hx
              split at h0
              · cases h0
              · split at k0
                · cases k0
                · rename_i hy
                  split at k0
                  · cases k0
                  · obtain ⟨h1, h2⟩ := idxF_bounds _ _ _ h0
                    obtain ⟨k1, k2⟩ := idxF_bounds _ _ _ k0
                    have zx : x.toNat = 48 → r = [] := fun e => by
                      have e2 : x = 48 := UInt8.toNat_inj.mp e
                      subst e2
                      cases r with
                      | nil => rfl
                      | cons _ _ => exact absurd (.inr ⟨rfl, by simp⟩) ha
                    have zy : y.toNat = 48 → s = [] := fun e => by
                      have e2 : y = 48 := UInt8.toNat_inj.mp e
                      subst e2
                      cases s with
                      | nil => rfl
                      | cons _ _ => exact absurd (.inr ⟨rfl, by simp⟩) hb
                    have e1 : 10 * 0 + (x.toNat - 48) = x.toNat - 48 := by omega
                    have e2 : 10 * 0 + (y.toNat - 48) = y.toNat - 48 := by omega
                    rw [e1] at h1 h2
                    rw [e2] at k1 k2
                    have up : ∀ (d P : Nat), 1 ≤ d → P ≤ d * P := fun d P hd => by
                      have := Nat.mul_le_mul_right P hd
                      omega
                    have lo : ∀ (d P : Nat), d ≤ 9 → (d + 1) * P ≤ 10 * P := fun d P hd => Nat.mul_le_mul_right P (by omega)
                    have hr1 := lo (x.toNat - 48) (10 ^ r.length) (by omega)
                    have hs1 := lo (y.toNat - 48) (10 ^ s.length) (by omega)
                    by_cases cx : x.toNat = 48
                    · have := zx cx
                      subst this
                      by_cases cy : y.toNat = 48
                      · have := zy cy
                        subst this
                        rfl
                      · have hs2 := up (y.toNat - 48) (10 ^ s.length) (by omega)
                        have hp : 0 < 10 ^ s.length := Nat.pow_pos (by omega)
                        rw [cx] at h2
                        simp at h2
                        omega
                    · by_cases cy : y.toNat = 48
                      · have := zy cy
                        subst this
                        have hr2 := up (x.toNat - 48) (10 ^ r.length) (by omega)
                        have hp : 0 < 10 ^ r.length := Nat.pow_pos (by omega)
                        rw [cy] at k2
                        simp at k2
                        omega
                      · have hr2 := up (x.toNat - 48) (10 ^ r.length) (by omega)
                        have hs2 := up (y.toNat - 48) (10 ^ s.length) (by omega)
                        have mono : ∀ i j : Nat, i < j → 10 * 10 ^ i ≤ 10 ^ j := fun i j hij => by
                          have := Nat.pow_le_pow_right (n := 10) (by omega) hij
                          rw [Nat.succ_eq_add_one, Nat.pow_succ] at this
                          omega
                        simp only [List.length_cons]
                        rcases Nat.lt_trichotomy r.length s.length with hlt | heq | hgt
                        · have := mono _ _ hlt
                          omega
                        · omega
                        · have := mono _ _ hgt
                          omega
          exact (idxF_eq _ _ _ _ _ h k key).2
theorem idxI_inj {a b : List UInt8} (h : idxI a = idxI b) (h0 : 0 ≤ idxI a) : a = b := by
  cases ha : idxP a with
  | none => rw [idxI_none ha] at h0; omega
  | some n =>
    cases hb : idxP b with
    | none => rw [h, idxI_none hb] at h0; omega
    | some m =>
      rw [idxI_some ha, idxI_some hb] at h
      have : n = m := by omega
      subst this
      exact idxP_inj ha hb
/-! ### what lies at one step -/
def itemT (t : VT) (s : ByteArray) : Option VT := if placeT t s < 0 then none else t.items[(placeT t s).toNat]?
theorem getT_item (t : VT) (s : ByteArray) (r : List ByteArray) : getT t (s :: r) = (itemT t s).bind fun u => getT u r := by
  conv => lhs; unfold getT
  unfold itemT
  split
  · rfl
  · cases t.items[(placeT t s).toNat]? <;> rfl
def lookN : List ByteArray → List VT → ByteArray → Option VT
  | a :: r, x :: l, s => if a = s then some x else lookN r l s
  | _, _, _ => none
theorem nmI_shift (s : ByteArray) : ∀ (l : List ByteArray) (k : Nat), nmI k l s = if nmI 0 l s < 0 then -1 else nmI 0 l s + k
  | [], k => by unfold nmI; simp
  | a :: r, k => by
    unfold nmI
    by_cases h : a = s
    · rw [if_pos h, if_pos h]; simp
    · rw [if_neg h, if_neg h]
      have h1 := nmI_shift s r (k + 1)
      have h2 := nmI_shift s r 1
      have h3 := (nmI_lt (s := s) (l := r) (k := 0)).1
      rw [h1]
      show _ = if nmI (0 + 1) r s < 0 then (-1 : Int) else nmI (0 + 1) r s + k
      rw [show 0 + 1 = 1 from rfl, h2]
      split <;> split <;> omega
theorem look_names (s : ByteArray) : ∀ (ns : List ByteArray) (l : List VT), (if nmI 0 ns s < 0 then none else l[(nmI 0 ns s).toNat]?) = lookN ns l s
  | [], l => by unfold nmI lookN; simp
  | a :: r, l => by
    by_cases h : a = s
    · have e : nmI 0 (a :: r) s = 0 := by unfold nmI; rw [if_pos h]; rfl
      rw [e]
      cases l with
      | nil => unfold lookN; simp
      | cons x l => unfold lookN; simp [h]
    · have e : nmI 0 (a :: r) s = nmI 1 r s := by conv => lhs; unfold nmI
                                                  rw [if_neg h]
      have e2 := nmI_shift s r 1
      have ih := look_names s r
      rw [e, e2]
      have h3 := (nmI_lt (s := s) (l := r) (k := 0)).1
      cases l with
      | nil =>
        unfold lookN
        split <;> simp
      | cons x l =>
        unfold lookN
        rw [if_neg h, ← ih l]
        by_cases hn : nmI 0 r s < 0
        · rw [if_pos hn, if_pos hn]; rfl
        · rw [if_neg hn, if_neg hn, if_neg (by omega)]
          have : (nmI 0 r s + ((1 : Nat) : Int)).toNat = (nmI 0 r s).toNat + 1 := by omega
          rw [this, List.getElem?_cons_succ]
theorem item_doc {t : VT} (h : t.kind = 7) (s : ByteArray) : itemT t s = lookN t.names t.items s := by
  unfold itemT
  rw [placeT_doc h]
  exact look_names s t.names t.items
theorem item_arr {t : VT} (h : t.kind = 6) (s : ByteArray) : itemT t s = if idxI s.data.toList < 0 then none else t.items[(idxI s.data.toList).toNat]? := by
  unfold itemT
  rw [placeT_arr h]
  by_cases h1 : idxI s.data.toList < (t.items.length : Int)
  · rw [if_pos h1]
  · rw [if_neg h1, if_pos (by omega)]
    split
    · rfl
    · rw [List.getElem?_eq_none (by omega)]
theorem item_else {t : VT} (h7 : t.kind ≠ 7) (h6 : t.kind ≠ 6) (s : ByteArray) : itemT t s = none := by
  unfold itemT
  rw [placeT_else h7 h6, if_pos (by omega)]
theorem nmI_inj {s s' : ByteArray} : ∀ {l : List ByteArray} {k : Nat}, nmI k l s = nmI k l s' → 0 ≤ nmI k l s → s = s'
  | [], k, _, h0 => by unfold nmI at h0; omega
  | a :: r, k, h, h0 => by
    unfold nmI at h h0
    have b1 := nmI_shift s r (k + 1)
    have b2 := nmI_shift s' r (k + 1)
    by_cases h1 : a = s
    · rw [if_pos h1] at h h0
      by_cases h2 : a = s'
      · exact h1.symm.trans h2
      · rw [if_neg h2, b2] at h
        split at h <;> omega
    · rw [if_neg h1] at h h0
      by_cases h2 : a = s'
      · rw [if_pos h2, b1] at h
        split at h <;> omega
      · rw [if_neg h2] at h
        exact nmI_inj h h0
theorem place_inj {t : VT} {s s' : ByteArray} (h : placeT t s = placeT t s') (h0 : 0 ≤ placeT t s) : s = s' := by
  by_cases h7 : t.kind = 7
  · rw [placeT_doc h7, placeT_doc h7] at h
    rw [placeT_doc h7] at h0
    exact nmI_inj h h0
  · by_cases h6 : t.kind = 6
    · rw [placeT_arr h6] at h h0
      rw [placeT_arr h6] at h
      split at h
      · rename_i h1
        rw [if_pos h1] at h0
        split at h
        · have := idxI_inj h h0
          cases s; cases s'
          simp only [ByteArray.mk.injEq]
          exact Array.toList_inj.mp this
        · omega
      · rename_i h1
        rw [if_neg h1] at h0
        omega
    · rw [placeT_else h7 h6] at h0; omega
end Go.Proofs.Ytlddhpjokiphfaa

/- What lies at a step of a changed value: plain. -/
namespace Go.Proofs.Ytlddhpjokiphfaa
set_option linter.unusedVariables false
set_option linter.unusedSimpArgs false
theorem lookN_erase {s s' : ByteArray} (hne : s' ≠ s) : ∀ (ns : List ByteArray) (l : List VT) (j : Nat), nmI 0 ns s = (j : Int) → lookN (ns.eraseIdx j) (l.eraseIdx j) s' = lookN ns l s'
  | [], l, j, h => by unfold nmI at h; omega
  | a :: r, l, j, h => by
    by_cases ha : a = s
    · have e : nmI 0 (a :: r) s = 0 := by unfold nmI; rw [if_pos ha]; rfl
      have : j = 0 := by omega
      subst this
      subst ha
      cases l with
      | nil =>
        simp only [List.eraseIdx_zero, List.tail_cons, List.tail_nil]
        cases r <;> rfl
      | cons x l =>
        simp only [List.eraseIdx_zero, List.tail_cons]
        conv => rhs; unfold lookN
        rw [if_neg (fun e => hne e.symm)]
    · have e : nmI 0 (a :: r) s = nmI 1 r s := by conv => lhs; unfold nmI
                                                  rw [if_neg ha]
      have e2 := nmI_shift s r 1
      have h3 := (nmI_lt (s := s) (l := r) (k := 0)).1
      rw [e, e2] at h
      have hn : ¬ nmI 0 r s < 0 := fun hh => by rw [if_pos hh] at h; omega
      rw [if_neg hn] at h
      obtain ⟨i, rfl⟩ : ∃ i, j = i + 1 := ⟨j - 1, by omega⟩
      have hi : nmI 0 r s = (i : Int) := by omega
      cases l with
      | nil =>
        simp only [List.eraseIdx_cons_succ, List.eraseIdx_nil]
        rfl
      | cons x l =>
        simp only [List.eraseIdx_cons_succ]
        unfold lookN
        rw [lookN_erase hne r l i hi]
theorem lookN_other {s s' : ByteArray} (hne : s' ≠ s) (y : VT) : ∀ (ns : List ByteArray) (l : List VT), ns.length = l.length → lookN (ns ++ [s]) (l ++ [y]) s' = lookN ns l s'
  | [], [], _ => by
    show lookN [s] [y] s' = _
    unfold lookN
    rw [if_neg (fun e => hne e.symm)]
    unfold lookN
    rfl
  | [], _ :: _, h => by simp at h
  | _ :: _, [], h => by simp at h
  | a :: r, x :: l, h => by
    simp only [List.cons_append]
    unfold lookN
    rw [lookN_other hne y r l (by simpa using h)]
theorem lookN_self {s : ByteArray} (y : VT) : ∀ (ns : List ByteArray) (l : List VT), ns.length = l.length → nmI 0 ns s < 0 → lookN (ns ++ [s]) (l ++ [y]) s = some y
  | [], [], _, _ => by
    show lookN [s] [y] s = _
    unfold lookN
    rw [if_pos rfl]
  | [], _ :: _, h, _ => by simp at h
  | _ :: _, [], h, _ => by simp at h
  | a :: r, x :: l, h, hn => by
    simp only [List.cons_append]
    unfold lookN
    by_cases ha : a = s
    · unfold nmI at hn
      rw [if_pos ha] at hn
      omega
    · rw [if_neg ha]
      refine lookN_self y r l (by simpa using h) ?_
      unfold nmI at hn
      rw [if_neg ha, nmI_shift] at hn
      split at hn <;> omega
theorem setT_kind (t : VT) (j : Nat) (u : VT) : (setT t j u).kind = t.kind := by cases t; rfl
theorem setT_items (t : VT) (j : Nat) (u : VT) : (setT t j u).items = t.items.set j u := by cases t; rfl
theorem setT_names (t : VT) (j : Nat) (u : VT) : (setT t j u).names = t.names := by cases t; rfl
theorem setT_place (t : VT) (j : Nat) (u : VT) (s : ByteArray) : placeT (setT t j u) s = placeT t s := by
  unfold placeT
  rw [setT_kind, setT_items, setT_names, List.length_set]
theorem item_set_at {t : VT} {s : ByteArray} (u : VT) (h : 0 ≤ placeT t s) (hj : (placeT t s).toNat < t.items.length) : itemT (setT t (placeT t s).toNat u) s = some u := by
  unfold itemT
  rw [setT_place, if_neg (by omega), setT_items, List.getElem?_set_self hj]
theorem item_set_other {t : VT} {s s' : ByteArray} (u : VT) (hne : s' ≠ s) (h : 0 ≤ placeT t s) : itemT (setT t (placeT t s).toNat u) s' = itemT t s' := by
  unfold itemT
  rw [setT_place]
  split
  · rfl
  · rename_i hn
    rw [setT_items, List.getElem?_set_ne]
    intro e
    have : placeT t s = placeT t s' := by omega
    exact hne (place_inj this h).symm
theorem remT_kind (t : VT) (j : Nat) : (remT t j).kind = t.kind := by cases t; rfl
theorem item_rem {t : VT} {s s' : ByteArray} (hk : t.kind = 7) (hne : s' ≠ s) (h : 0 ≤ placeT t s) : itemT (remT t (placeT t s).toNat) s' = itemT t s' := by
  rw [item_doc hk, item_doc ((remT_kind _ _).trans hk)]
  have e : nmI 0 t.names s = ((placeT t s).toNat : Int) := by rw [placeT_doc hk] at h ⊢; omega
  cases t with
  | mk k i x l ns => exact lookN_erase hne ns l _ e
theorem add_kind (t : VT) (s : ByteArray) (y : VT) : (addI (addN t s) y).kind = t.kind := by cases t; rfl
theorem addI_kind (t : VT) (y : VT) : (addI t y).kind = t.kind := by cases t; rfl
theorem item_add_other {t : VT} {s s' : ByteArray} (y : VT) (hk : t.kind = 7) (hl : t.names.length = t.items.length) (hne : s' ≠ s) : itemT (addI (addN t s) y) s' = itemT t s' := by
  rw [item_doc hk, item_doc ((add_kind _ _ _).trans hk)]
  cases t with
  | mk k i x l ns => exact lookN_other hne y ns l hl
theorem item_add_self {t : VT} {s : ByteArray} (y : VT) (hk : t.kind = 7) (hl : t.names.length = t.items.length) (h : placeT t s < 0) : itemT (addI (addN t s) y) s = some y := by
  rw [item_doc ((add_kind _ _ _).trans hk)]
  rw [placeT_doc hk] at h
  cases t with
  | mk k i x l ns => exact lookN_self y ns l hl h
theorem item_push_other {t : VT} {s s' : ByteArray} (y : VT) (hk : t.kind = 6) (h : idxI s.data.toList = (t.items.length : Int)) (hne : s' ≠ s) : itemT (addI t y) s' = itemT t s' := by
  rw [item_arr hk, item_arr ((addI_kind _ _).trans hk)]
  split
  · rfl
  · rename_i hn
    have hd : (idxI s'.data.toList).toNat ≠ t.items.length := fun e => by
      have e2 : idxI s'.data.toList = idxI s.data.toList := by omega
      have := idxI_inj e2 (by omega)
      refine hne ?_
      cases s; cases s'
      simp only [ByteArray.mk.injEq]
      exact Array.toList_inj.mp this
    cases t with
    | mk k i x l ns =>
      show (l ++ [y])[(idxI s'.data.toList).toNat]? = l[(idxI s'.data.toList).toNat]?
      replace hd : (idxI s'.data.toList).toNat ≠ l.length := hd
      by_cases hlt : (idxI s'.data.toList).toNat < l.length
      · rw [List.getElem?_append_left hlt]
      · rw [List.getElem?_eq_none (l := l) (by omega), List.getElem?_eq_none (l := l ++ [y]) (by rw [List.length_append, List.length_singleton]; omega)]
theorem item_push_self {t : VT} {s : ByteArray} (y : VT) (hk : t.kind = 6) (h : idxI s.data.toList = (t.items.length : Int)) : itemT (addI t y) s = some y := by
  rw [item_arr ((addI_kind _ _).trans hk), if_neg (by omega), h]
  cases t with
  | mk k i x l ns =>
    show (l ++ [y])[((l.length : Nat) : Int).toNat]? = _
    simp
/-! ### what may be stays so -/
theorem mayT_iff (t : VT) : mayT t = true ↔ fitsP t.kind t.num t.text t.items.length t.names = true ∧ ∀ x ∈ t.items, mayT x = true := by
  rw [mayT_mk2, Bool.and_eq_true]
  refine and_congr_right fun _ => ⟨fun h x hx => mayL_mem h hx, fun h => mayL_all fun j hj => h _ (List.getElem_mem hj)⟩
theorem mem_set {l : List VT} {j : Nat} {u x : VT} (h : x ∈ l.set j u) : x ∈ l ∨ x = u := List.mem_or_eq_of_mem_set h
theorem may_set {t u : VT} (j : Nat) (h : mayT t = true) (hu : mayT u = true) : mayT (setT t j u) = true := by
  obtain ⟨h1, h2⟩ := (mayT_iff t).1 h
  refine (mayT_iff _).2 ?_
  cases t with
  | mk k i x l ns =>
    refine ⟨?_, fun y hy => ?_⟩
    · show fitsP k i x (l.set j u).length ns = true
      rw [List.length_set]; exact h1
    · rcases mem_set hy with hy | rfl
      · exact h2 y hy
      · exact hu
theorem fits_doc {k i : Int} {x : ByteArray} {n : Nat} {ns : List ByteArray} (hk : k = 7) : fitsP k i x n ns = true ↔ i = 0 ∧ x.toList = [] ∧ ns.length = n ∧ distinctN ns = true := by
  subst hk
  unfold fitsP
  simp only [Bool.and_eq_true, decide_eq_true_eq, beq_iff_eq]
  simp
  constructor
  · rintro ⟨⟨⟨a, b⟩, c⟩, d⟩; exact ⟨a, b, c, d⟩
  · rintro ⟨a, b, c, d⟩; exact ⟨⟨⟨a, b⟩, c⟩, d⟩
theorem fits_arr {k i : Int} {x : ByteArray} {n : Nat} {ns : List ByteArray} (hk : k = 6) : fitsP k i x n ns = true ↔ i = 0 ∧ x.toList = [] ∧ ns.length = 0 := by
  subst hk
  unfold fitsP
  simp only [Bool.and_eq_true, decide_eq_true_eq, beq_iff_eq]
  simp
  constructor
  · rintro ⟨⟨a, b⟩, c⟩; exact ⟨a, b, c⟩
  · rintro ⟨a, b, c⟩; exact ⟨⟨a, b⟩, c⟩
theorem may_rem {t : VT} {j : Nat} (hk : t.kind = 7) (h : mayT t = true) (hj : j < t.items.length) : mayT (remT t j) = true := by
  obtain ⟨h1, h2⟩ := (mayT_iff t).1 h
  refine (mayT_iff _).2 ?_
  cases t with
  | mk k i x l ns =>
    obtain ⟨a, b, c, d⟩ := (fits_doc hk).1 h1
    replace c : ns.length = l.length := c
    replace hj : j < l.length := hj
    obtain ⟨d1, d2⟩ := nodup_ext.1 d
    refine ⟨(fits_doc hk).2 ⟨a, b, ?_, nodup_ext.2 ⟨fun s hs => d1 s (List.mem_of_mem_eraseIdx hs), d2.sublist (List.eraseIdx_sublist _ _)⟩⟩, fun y hy => h2 y (List.mem_of_mem_eraseIdx hy)⟩
    show (ns.eraseIdx j).length = (l.eraseIdx j).length
    rw [List.length_eraseIdx, List.length_eraseIdx, c]
theorem nmI_none {s : ByteArray} : ∀ {l : List ByteArray}, nmI 0 l s < 0 → s ∉ l
  | [], _ => by simp
  | a :: r, h => by
    unfold nmI at h
    by_cases ha : a = s
    · rw [if_pos ha] at h; omega
    · rw [if_neg ha, nmI_shift] at h
      have : nmI 0 r s < 0 := by split at h <;> omega
      intro hm
      rcases List.mem_cons.1 hm with e | e
      · exact ha e.symm
      · exact nmI_none this e
theorem may_add {t y : VT} {s : ByteArray} (hk : t.kind = 7) (h : mayT t = true) (hy : mayT y = true) (hs : nameB s.data.toList = true) (hp : placeT t s < 0) : mayT (addI (addN t s) y) = true := by
  obtain ⟨h1, h2⟩ := (mayT_iff t).1 h
  rw [placeT_doc hk] at hp
  refine (mayT_iff _).2 ?_
  cases t with
  | mk k i x l ns =>
    obtain ⟨a, b, c, d⟩ := (fits_doc hk).1 h1
    replace c : ns.length = l.length := c
    obtain ⟨d1, d2⟩ := nodup_ext.1 d
    have hno : s ∉ ns := nmI_none hp
    refine ⟨(fits_doc hk).2 ⟨a, b, ?_, nodup_ext.2 ⟨fun z hz => ?_, ?_⟩⟩, fun z hz => ?_⟩
    · show (ns ++ [s]).length = (l ++ [y]).length
      simp [c]
    · rcases List.mem_append.1 hz with hz | hz
      · exact d1 z hz
      · rw [List.mem_singleton.1 hz]; exact hs
    · show (ns ++ [s]).Nodup
      rw [List.nodup_append]
      refine ⟨d2, by simp, ?_⟩
      intro a1 ha1 b1 hb1 e
      rw [List.mem_singleton.1 hb1] at e
      subst e
      exact hno ha1
    · rcases List.mem_append.1 hz with hz | hz
      · exact h2 z hz
      · rw [List.mem_singleton.1 hz]; exact hy
theorem may_push {t y : VT} (hk : t.kind = 6) (h : mayT t = true) (hy : mayT y = true) : mayT (addI t y) = true := by
  obtain ⟨h1, h2⟩ := (mayT_iff t).1 h
  refine (mayT_iff _).2 ?_
  cases t with
  | mk k i x l ns =>
    obtain ⟨a, b, c⟩ := (fits_arr hk).1 h1
    refine ⟨(fits_arr hk).2 ⟨a, b, c⟩, fun z hz => ?_⟩
    rcases List.mem_append.1 hz with hz | hz
    · exact h2 z hz
    · rw [List.mem_singleton.1 hz]; exact hy
theorem may_front {x : VT} (n : Nat) (hk : x.kind = 6) (h : mayT x = true) : mayT (frontT x n) = true := by
  obtain ⟨h1, h2⟩ := (mayT_iff x).1 h
  refine (mayT_iff _).2 ?_
  cases x with
  | mk k i s l ns =>
    obtain ⟨a, b, c⟩ := (fits_arr hk).1 h1
    exact ⟨(fits_arr hk).2 ⟨a, b, c⟩, fun z hz => h2 z (List.mem_of_mem_take hz)⟩
theorem may_one {s : ByteArray} {x : VT} (hs : nameB s.data.toList = true) (hx : mayT x = true) : mayT (oneT s x) = true := by
  refine (mayT_iff _).2 ⟨(fits_doc rfl).2 ⟨rfl, toList_nil.2 rfl, rfl, nodup_ext.2 ⟨fun z hz => ?_, ?_⟩⟩, fun z hz => ?_⟩
  · have hz' : z ∈ [s] := hz
    rw [List.mem_singleton.1 hz']; exact hs
  · show [s].Nodup
    simp
  · have hz' : z ∈ [x] := hz
    rw [List.mem_singleton.1 hz']; exact hx
theorem may_nest {x : VT} (hx : mayT x = true) : ∀ {r : List ByteArray}, (∀ s ∈ r, nameB s.data.toList = true) → mayT (nestT r x) = true
  | [], _ => hx
  | s :: r, h => may_one (h s (by simp)) (may_nest hx fun z hz => h z (by simp [hz]))
theorem may_null : mayT nullT = true := by kernel_rfl
end Go.Proofs.Ytlddhpjokiphfaa

/- Setting, dropping, cutting at a path: what stays, what may be, how deep. Plain. -/
namespace Go.Proofs.Ytlddhpjokiphfaa
set_option linter.unusedVariables false
set_option linter.unusedSimpArgs false
/-- Neither path begins the other. -/
def Far (p q : List ByteArray) : Prop := ¬ p <+: q ∧ ¬ q <+: p
theorem far_nil {q : List ByteArray} : ¬ Far [] q := fun h => h.1 List.nil_prefix
theorem far_nil' {p : List ByteArray} : ¬ Far p [] := fun h => h.2 List.nil_prefix
theorem far_in {s : ByteArray} {r r' : List ByteArray} (h : Far (s :: r) (s :: r')) : Far r r' :=
  ⟨fun k => h.1 (List.cons_prefix_cons.2 ⟨rfl, k⟩), fun k => h.2 (List.cons_prefix_cons.2 ⟨rfl, k⟩)⟩
theorem far_one {s s' : ByteArray} {r' : List ByteArray} (h : Far [s] (s' :: r')) : s' ≠ s := fun e => by
  subst e
  exact far_nil (far_in h)
theorem item_one (s s' : ByteArray) (x : VT) : itemT (oneT s x) s' = if s = s' then some x else none := by
  rw [item_doc rfl]
  show lookN [s] [x] s' = _
  unfold lookN
  split
  · rfl
  · rfl
theorem nest_far (x : VT) : ∀ {r q : List ByteArray}, Far r q → getT (nestT r x) q = none
  | [], _, h => absurd h far_nil
  | _ :: _, [], h => absurd h far_nil'
  | s :: r, s' :: r', h => by
    show getT (oneT s (nestT r x)) (s' :: r') = none
    rw [getT_item, item_one]
    split
    · rename_i e
      subst e
      exact nest_far x (far_in h)
    · rfl
theorem item_some {t : VT} {s : ByteArray} (h : 0 ≤ placeT t s) (hj : (placeT t s).toNat < t.items.length) : itemT t s = some t.items[(placeT t s).toNat] := by
  unfold itemT
  rw [if_neg (by omega), List.getElem?_eq_getElem hj]
theorem item_neg {t : VT} {s : ByteArray} (h : placeT t s < 0) : itemT t s = none := by
  unfold itemT
  rw [if_pos h]
/-! ### what stays -/
theorem goT_keeps {fin : VT → List ByteArray → Int × VT} (hfin : ∀ t s r s' r', mayT t = true → (placeT t s < 0 ∨ r = []) → Far (s :: r) (s' :: r') → getT (fin t (s :: r)).2 (s' :: r') = getT t (s' :: r')) :
    ∀ (p : List ByteArray) (t : VT) (q : List ByteArray), mayT t = true → Far p q → getT (goT fin t p).2 q = getT t q
  | [], _, _, _, h => absurd h far_nil
  | _ :: _, _, [], _, h => absurd h far_nil'
  | s :: r, t, s' :: r', hm, h => by
    by_cases he : placeT t s < 0 ∨ r = []
    · rw [goT_end he]; exact hfin _ _ _ _ _ hm he h
    · have h0 : 0 ≤ placeT t s := Int.not_lt.1 fun k => he (.inl k)
      have hr : r ≠ [] := fun k => he (.inr k)
      have hj := placeT_lt (may_nl hm) h0
      rw [goT_on h0 hr hj]
      show getT (setT _ _ _) (s' :: r') = _
      rw [getT_item, getT_item]
      by_cases e : s' = s
      · subst e
        rw [item_set_at _ h0 hj, item_some h0 hj]
        exact goT_keeps hfin r _ r' (may_item hm hj) (far_in h)
      · rw [item_set_other _ e h0]
theorem drop_keeps (t : VT) (s : ByteArray) (r : List ByteArray) (s' : ByteArray) (r' : List ByteArray) (hm : mayT t = true) (he : placeT t s < 0 ∨ r = []) (hf : Far (s :: r) (s' :: r')) : getT (dropFin t (s :: r)).2 (s' :: r') = getT t (s' :: r') := by
  rw [dropFin_cons]
  show getT (if _ then _ else _) _ = _
  by_cases hn : placeT t s < 0
  · rw [if_pos hn]
  · rw [if_neg hn]
    have h0 : 0 ≤ placeT t s := Int.not_lt.1 hn
    obtain rfl := he.resolve_left hn
    have hne := far_one hf
    by_cases h7 : t.kind = 7
    · rw [if_pos h7, getT_item, getT_item, item_rem h7 hne h0]
    · rw [if_neg h7, getT_item, getT_item, item_set_other _ hne h0]
theorem cut_keeps (n : Int) (t : VT) (s : ByteArray) (r : List ByteArray) (s' : ByteArray) (r' : List ByteArray) (hm : mayT t = true) (he : placeT t s < 0 ∨ r = []) (hf : Far (s :: r) (s' :: r')) : getT (cutFin n t (s :: r)).2 (s' :: r') = getT t (s' :: r') := by
  rw [cutFin_cons]
  split
  · rfl
  · show getT (if _ then _ else _) _ = _
    by_cases hn : placeT t s < 0
    · rw [if_pos hn]
    · rw [if_neg hn]
      have h0 : 0 ≤ placeT t s := Int.not_lt.1 hn
      obtain rfl := he.resolve_left hn
      have hne := far_one hf
      have hj := placeT_lt (may_nl hm) h0
      rw [List.getElem?_eq_getElem hj]
      show getT (setT _ _ _) _ = _
      rw [getT_item, getT_item, item_set_other _ hne h0]
theorem set_keeps (x : VT) (t : VT) (s : ByteArray) (r : List ByteArray) (s' : ByteArray) (r' : List ByteArray) (hm : mayT t = true) (he : placeT t s < 0 ∨ r = []) (hf : Far (s :: r) (s' :: r')) : getT (setFin x t (s :: r)).2 (s' :: r') = getT t (s' :: r') := by
  rw [setFin_cons]
  by_cases hn : placeT t s < 0
  · rw [if_neg (by omega)]
    by_cases h7 : t.kind = 7
    · rw [if_pos h7]
      show getT (addI (addN t s) (nestT r x)) _ = _
      rw [getT_item, getT_item]
      by_cases e : s' = s
      · subst e
        rw [item_add_self _ h7 (may_nl_eq hm h7) hn, item_neg hn]
        exact nest_far x (far_in hf)
      · rw [item_add_other _ h7 (may_nl_eq hm h7) e]
    · rw [if_neg h7]
      split
      · rename_i hk
        obtain ⟨h6, hx⟩ := hk
        unfold nextT at hx
        rw [Bool.and_eq_true, decide_eq_true_eq, decide_eq_true_eq] at hx
        obtain rfl : r = [] := List.eq_nil_of_length_eq_zero hx.2
        show getT (addI t x) _ = _
        rw [getT_item, getT_item, item_push_other _ h6 hx.1 (far_one hf)]
      · rfl
  · have h0 : 0 ≤ placeT t s := Int.not_lt.1 hn
    rw [if_pos h0]
    obtain rfl := he.resolve_left hn
    show getT (setT _ _ _) _ = _
    rw [getT_item, getT_item, item_set_other _ (far_one hf) h0]
/-! ### what may be -/
def NamesOk (p : List ByteArray) : Prop := ∀ z ∈ p, nameB z.data.toList = true
theorem goT_may {fin : VT → List ByteArray → Int × VT} (hfin : ∀ t s r, mayT t = true → (placeT t s < 0 ∨ r = []) → NamesOk (s :: r) → mayT (fin t (s :: r)).2 = true ∧ (fin t (s :: r)).2.kind = t.kind) :
    ∀ (p : List ByteArray) (t : VT), mayT t = true → NamesOk p → mayT (goT fin t p).2 = true ∧ (goT fin t p).2.kind = t.kind
  | [], t, hm, _ => by unfold goT; exact ⟨hm, rfl⟩
  | s :: r, t, hm, hk => by
    by_cases he : placeT t s < 0 ∨ r = []
    · rw [goT_end he]; exact hfin _ _ _ hm he hk
    · have h0 : 0 ≤ placeT t s := Int.not_lt.1 fun k => he (.inl k)
      have hr : r ≠ [] := fun k => he (.inr k)
      have hj := placeT_lt (may_nl hm) h0
      rw [goT_on h0 hr hj]
      exact ⟨may_set _ hm (goT_may hfin r _ (may_item hm hj) fun z hz => hk z (by simp [hz])).1, setT_kind _ _ _⟩
theorem drop_may (t : VT) (s : ByteArray) (r : List ByteArray) (hm : mayT t = true) (he : placeT t s < 0 ∨ r = []) (hk : NamesOk (s :: r)) : mayT (dropFin t (s :: r)).2 = true ∧ (dropFin t (s :: r)).2.kind = t.kind := by
  rw [dropFin_cons]
  show mayT (if _ then _ else _) = true ∧ VT.kind (if _ then _ else _) = _
  by_cases hn : placeT t s < 0
  · rw [if_pos hn]; exact ⟨hm, rfl⟩
  · rw [if_neg hn]
    have h0 : 0 ≤ placeT t s := Int.not_lt.1 hn
    by_cases h7 : t.kind = 7
    · rw [if_pos h7]; exact ⟨may_rem h7 hm (placeT_lt (may_nl hm) h0), remT_kind _ _⟩
    · rw [if_neg h7]; exact ⟨may_set _ hm may_null, setT_kind _ _ _⟩
theorem may_cutV {x : VT} (n : Int) (h : mayT x = true) : mayT (cutV x n) = true := by
  unfold cutV
  split
  · rename_i hk; exact may_front _ hk.1 h
  · exact h
theorem cut_may (n : Int) (t : VT) (s : ByteArray) (r : List ByteArray) (hm : mayT t = true) (he : placeT t s < 0 ∨ r = []) (hk : NamesOk (s :: r)) : mayT (cutFin n t (s :: r)).2 = true ∧ (cutFin n t (s :: r)).2.kind = t.kind := by
  rw [cutFin_cons]
  split
  · exact ⟨hm, rfl⟩
  · show mayT (if _ then _ else _) = true ∧ VT.kind (if _ then _ else _) = _
    by_cases hn : placeT t s < 0
    · rw [if_pos hn]; exact ⟨hm, rfl⟩
    · rw [if_neg hn]
      have h0 : 0 ≤ placeT t s := Int.not_lt.1 hn
      have hj := placeT_lt (may_nl hm) h0
      rw [List.getElem?_eq_getElem hj]
      exact ⟨may_set _ hm (may_cutV n (may_item hm hj)), setT_kind _ _ _⟩
theorem set_may (x : VT) (hx : mayT x = true) (t : VT) (s : ByteArray) (r : List ByteArray) (hm : mayT t = true) (he : placeT t s < 0 ∨ r = []) (hk : NamesOk (s :: r)) : mayT (setFin x t (s :: r)).2 = true ∧ (setFin x t (s :: r)).2.kind = t.kind := by
  rw [setFin_cons]
  by_cases hn : placeT t s < 0
  · rw [if_neg (by omega)]
    by_cases h7 : t.kind = 7
    · rw [if_pos h7]
      exact ⟨may_add h7 hm (may_nest hx fun z hz => hk z (by simp [hz])) (hk s (by simp)) hn, add_kind _ _ _⟩
    · rw [if_neg h7]
      split
      · rename_i h6
        exact ⟨may_push h6.1 hm hx, addI_kind _ _⟩
      · exact ⟨hm, rfl⟩
  · have h0 : 0 ≤ placeT t s := Int.not_lt.1 hn
    rw [if_pos h0]
    exact ⟨may_set _ hm hx, setT_kind _ _ _⟩
/-! ### the codes -/
theorem goT_code {fin : VT → List ByteArray → Int × VT} {c : Int → Prop} (h0 : c 0) (hfin : ∀ t s r, c (fin t (s :: r)).1) : ∀ (p : List ByteArray) (t : VT), c (goT fin t p).1
  | [], t => by unfold goT; exact h0
  | s :: r, t => by
    unfold goT
    split
    · exact hfin _ _ _
    · split
      · exact h0
      · exact goT_code h0 hfin r _
theorem drop_code (t : VT) (s : ByteArray) (r : List ByteArray) : (dropFin t (s :: r)).1 = 0 := rfl
theorem cut_code {n : Int} (hn : 0 ≤ n) (t : VT) (s : ByteArray) (r : List ByteArray) : (cutFin n t (s :: r)).1 = 0 := by
  rw [cutFin_cons, if_neg (by omega)]
theorem set_code (x t : VT) (s : ByteArray) (r : List ByteArray) : (setFin x t (s :: r)).1 = 0 ∨ (setFin x t (s :: r)).1 = 40 := by
  rw [setFin_cons]
  split
  · exact .inl rfl
  · split
    · exact .inl rfl
    · split
      · exact .inl rfl
      · exact .inr rfl
/-! ### how deep -/
theorem depthL_all {N : Nat} : ∀ {l : List VT}, (∀ x ∈ l, depthT x ≤ N) → depthL l ≤ N
  | [], _ => by unfold depthL; omega
  | x :: l, h => by
    unfold depthL
    have h1 := h x (by simp)
    have h2 := depthL_all (N := N) (l := l) fun y hy => h y (by simp [hy])
    omega
theorem depth_of {t : VT} {N : Nat} (h : ∀ x ∈ t.items, depthT x ≤ N) : depthT t ≤ N + 1 := by
  cases t with
  | mk k i s l ns =>
    rw [depthT_mk]
    have := depthL_all (l := l) h
    omega
theorem depth_item {t x : VT} (h : x ∈ t.items) : depthT x + 1 ≤ depthT t := by
  cases t with
  | mk k i s l ns =>
    rw [depthT_mk]
    have := depthL_le (l := l) h
    omega
theorem depth_pos (t : VT) : 1 ≤ depthT t := by
  cases t with
  | mk k i s l ns => rw [depthT_mk]; omega
theorem depth_set {t u : VT} {j K : Nat} (h : depthT u ≤ depthT t - 1 + K) : depthT (setT t j u) ≤ depthT t + K := by
  have h0 := depth_pos t
  have := depth_of (t := setT t j u) (N := depthT t - 1 + K) fun x hx => by
    rw [setT_items] at hx
    rcases mem_set hx with hx | rfl
    · have := depth_item hx; omega
    · exact h
  omega
theorem goT_depth {fin : VT → List ByteArray → Int × VT} {K L : Nat} (hfin : ∀ t s r, r.length ≤ L → depthT (fin t (s :: r)).2 ≤ depthT t + K) : ∀ (p : List ByteArray) (t : VT), p.length ≤ L + 1 → depthT (goT fin t p).2 ≤ depthT t + K
  | [], t, _ => by unfold goT; exact Nat.le_add_right _ _
  | s :: r, t, hl => by
    rw [List.length_cons] at hl
    unfold goT
    split
    · exact hfin _ _ _ (by omega)
    · split
      · exact Nat.le_add_right _ _
      · rename_i y hy
        have hm : y ∈ t.items := List.mem_of_getElem? hy
        have h1 := goT_depth hfin r y (by omega)
        have h2 := depth_item hm
        exact depth_set (by omega)
theorem depth_null : depthT nullT = 1 := by kernel_rfl
theorem drop_depth (t : VT) (s : ByteArray) (r : List ByteArray) : depthT (dropFin t (s :: r)).2 ≤ depthT t + 1 := by
  rw [dropFin_cons]
  show depthT (if _ then _ else _) ≤ _
  split
  · omega
  · split
    · have h0 := depth_pos t
      have := depth_of (t := remT t (placeT t s).toNat) (N := depthT t - 1) fun x hx => by
        cases t with
        | mk k i z l ns =>
          have := depth_item (t := .mk k i z l ns) (List.mem_of_mem_eraseIdx hx)
          omega
      omega
    · refine depth_set ?_
      rw [depth_null]
      omega
theorem depth_cutV (x : VT) (n : Int) : depthT (cutV x n) ≤ depthT x := by
  unfold cutV
  split
  · have h0 := depth_pos x
    have := depth_of (t := frontT x n.toNat) (N := depthT x - 1) fun y hy => by
      cases x with
      | mk k i z l ns =>
        have := depth_item (t := .mk k i z l ns) (List.mem_of_mem_take hy)
        omega
    omega
  · omega
theorem cut_depth (n : Int) (t : VT) (s : ByteArray) (r : List ByteArray) : depthT (cutFin n t (s :: r)).2 ≤ depthT t + 1 := by
  rw [cutFin_cons]
  split
  · exact Nat.le_add_right _ _
  · show depthT (if _ then _ else _) ≤ _
    split
    · omega
    · split
      · omega
      · rename_i y hy
        have h1 := depth_cutV y n
        have h2 := depth_item (List.mem_of_getElem? hy)
        exact depth_set (by omega)
theorem depth_one (s : ByteArray) (x : VT) : depthT (oneT s x) ≤ depthT x + 1 := depth_of fun y hy => by
  have hy' : y ∈ [x] := hy
  rw [List.mem_singleton.1 hy']; omega
theorem depth_nest (x : VT) : ∀ r : List ByteArray, depthT (nestT r x) ≤ depthT x + r.length
  | [] => Nat.le_refl _
  | s :: r => by
    have h1 := depth_one s (nestT r x)
    have h2 := depth_nest x r
    show depthT (oneT s (nestT r x)) ≤ _
    rw [List.length_cons]
    omega
theorem depth_add {t u : VT} {K : Nat} (hi : t.items = t.items) (h : depthT u ≤ depthT t - 1 + K) : depthT (addI t u) ≤ depthT t + K := by
  have h0 := depth_pos t
  have := depth_of (t := addI t u) (N := depthT t - 1 + K) fun x hx => by
    cases t with
    | mk k i z l ns =>
      rcases List.mem_append.1 hx with hx | hx
      · have := depth_item (t := .mk k i z l ns) hx; omega
      · rw [List.mem_singleton.1 hx]; exact h
  omega
theorem depth_addN (t : VT) (s : ByteArray) : depthT (addN t s) = depthT t := by
  cases t with
  | mk k i z l ns => show depthT (.mk k i z l (ns ++ [s])) = _; rw [depthT_mk, depthT_mk]
theorem set_depth (x : VT) (L : Nat) (t : VT) (s : ByteArray) (r : List ByteArray) (hr : r.length ≤ L) : depthT (setFin x t (s :: r)).2 ≤ depthT t + (depthT x + L) := by
  rw [setFin_cons]
  split
  · exact depth_set (by omega)
  · split
    · have h1 := depth_nest x r
      have := depth_add (t := addN t s) (u := nestT r x) (K := depthT x + L) rfl (by omega)
      rw [depth_addN] at this
      exact this
    · split
      · exact depth_add rfl (by omega)
      · exact Nat.le_add_right _ _
end Go.Proofs.Ytlddhpjokiphfaa

/- What lies elsewhere stays: the program's answers. Plain. -/
namespace Go.Proofs.Ytlddhpjokiphfaa
set_option linter.unusedVariables false
set_option linter.unusedSimpArgs false
theorem begP_pre {a b : List ByteArray} (h : begP a b = false) : ¬ a <+: b := fun k => by
  have e := List.prefix_iff_eq_take.1 k
  have hl := k.length_le
  unfold begP at h
  rw [decide_eq_true hl, decide_eq_true e.symm] at h
  cases h
theorem tgot_kept {R t : VT} {q : List ByteArray} (hm : mayT R = true) (hk : R.kind = 7) (hq : mayP q = true) (hg : getT R q = getT t q) : tgotT R q = getT t q := by
  have hd : docB R = true := by unfold docB; rw [hm, decide_eq_true hk]; rfl
  have hw : wrongT R q = 0 := by unfold wrongT; rw [hd, hq]; rfl
  unfold tgotT
  rw [if_pos hw, hg]
theorem mayP_names {p : List ByteArray} (h : mayP p = true) : NamesOk p := by
  unfold mayP at h
  simp only [Bool.and_eq_true, List.all_eq_true] at h
  exact h.2
theorem mayP_len {p : List ByteArray} (h : mayP p = true) : p.length ≤ 8 := by
  unfold mayP at h
  simp only [Bool.and_eq_true, decide_eq_true_eq] at h
  exact h.1.2
theorem goT_zero {fin : VT → List ByteArray → Int × VT} {t : VT} {p : List ByteArray} (hw : wrongT t p = 0) (h : (goT fin t p).1 = 0) : changeT fin t p = (0, (goT fin t p).2) := by
  unfold changeT
  rw [if_pos hw, if_pos h]
section
variable {t : VT} {p q : List ByteArray} (hw : wrongT t p = 0) (hv : wrongT t q = 0) (h1 : begP p q = false) (h2 : begP q p = false)
include hw hv h1 h2
theorem keep_drop : ∃ R, changeT dropFin t p = (0, R) ∧ tgotT R q = getT t q ∧ depthT R ≤ depthT t + 1 := by
  obtain ⟨hm, hk, hp⟩ := wrong_zero hw.symm
  obtain ⟨-, -, hq⟩ := wrong_zero hv.symm
  have hf : Far p q := ⟨begP_pre h1, begP_pre h2⟩
  obtain ⟨m1, m2⟩ := goT_may drop_may p t hm (mayP_names hp)
  exact ⟨_, goT_zero hw (goT_code (c := fun x => x = 0) rfl drop_code p t), tgot_kept m1 (m2.trans hk) hq (goT_keeps drop_keeps p t q hm hf), goT_depth (L := p.length) (fun t s r _ => drop_depth t s r) p t (by omega)⟩
theorem keep_cut {n : Int} (hn : 0 ≤ n) : ∃ R, changeT (cutFin n) t p = (0, R) ∧ tgotT R q = getT t q ∧ depthT R ≤ depthT t + 1 := by
  obtain ⟨hm, hk, hp⟩ := wrong_zero hw.symm
  obtain ⟨-, -, hq⟩ := wrong_zero hv.symm
  have hf : Far p q := ⟨begP_pre h1, begP_pre h2⟩
  obtain ⟨m1, m2⟩ := goT_may (cut_may n) p t hm (mayP_names hp)
  exact ⟨_, goT_zero hw (goT_code (c := fun x => x = 0) rfl (cut_code hn) p t), tgot_kept m1 (m2.trans hk) hq (goT_keeps (cut_keeps n) p t q hm hf), goT_depth (L := p.length) (fun t s r _ => cut_depth n t s r) p t (by omega)⟩
theorem keep_set {x : VT} (hx : mayT x = true) : (∃ R, (if mayT x = true then changeT (setFin x) t p else (20, nilT)) = (0, R) ∧ tgotT R q = getT t q ∧ depthT R ≤ depthT t + (depthT x + p.length)) ∨ (if mayT x = true then changeT (setFin x) t p else (20, nilT)) = (40, nilT) := by
  obtain ⟨hm, hk, hp⟩ := wrong_zero hw.symm
  obtain ⟨-, -, hq⟩ := wrong_zero hv.symm
  have hf : Far p q := ⟨begP_pre h1, begP_pre h2⟩
  obtain ⟨m1, m2⟩ := goT_may (set_may x hx) p t hm (mayP_names hp)
  rw [if_pos hx]
  rcases goT_code (c := fun x => x = 0 ∨ x = 40) (.inl rfl) (set_code x) p t with hc | hc
  · exact .inl ⟨_, goT_zero hw hc, tgot_kept m1 (m2.trans hk) hq (goT_keeps (set_keeps x) p t q hm hf), goT_depth (L := p.length) (fun t s r hr => set_depth x p.length t s r hr) p t (by omega)⟩
  · refine .inr ?_
    unfold changeT
    rw [if_pos hw, if_neg (by rw [hc]; decide), hc]
end
end Go.Proofs.Ytlddhpjokiphfaa
