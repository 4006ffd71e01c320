/- Items behind one another, plain: what a loop over them keeps. -/
import Derived.Test.YtipiplnhbecjeaaKCodQ
import Derived.Test.YtipiplnhbecjeaaKCodS
import Derived.Test.YtipiplnhbecjeaaKVarH
namespace Go.Proofs.Ytipiplnhbecjeaa
set_option linter.unusedVariables false
set_option linter.unusedSimpArgs false
set_option maxRecDepth 100000
open Go.RowKit

/-- The name before an item. -/
def rdNm (dd : Bool) (st : Option (List UInt8)) : List UInt8 × Option (List UInt8) := if dd then rdText 32 st else ([], st)
/-- An item is read, with its name where it has one. -/
def RelN (dd : Bool) (d : Nat) (least : Int) (st : Option (List UInt8)) (t : VT) (st' : Option (List UInt8)) : Prop := Rel d least (rdNm dd st).2 t st'
/-- Items are read. -/
def RelI (dd : Bool) (d : Nat) (least : Int) (n : Nat) (st : Option (List UInt8)) (ts : List VT) (ns : List ByteArray) : Option (List UInt8) → Prop
  | some r' => ∃ l, st = some l ∧ rdItems (rdW d) dd n l = some (ts, ns, r')
  | none => ∀ l us ms r, st = some l → rdItems (rdW d) dd n l = some (us, ms, r) → mayL us = false ∨ (r.length : Int) < least
/-- The first items of l are ts, and r is what is left. -/
def Pre (dd : Bool) (d : Nat) (l : List UInt8) (ts : List VT) (ns : List ByteArray) (r : List UInt8) : Prop :=
  ∀ m, rdItems (rdW d) dd (ts.length + m) l = (rdItems (rdW d) dd m r).map fun p => (ts ++ p.1, ns ++ p.2.1, p.2.2)
theorem Pre.zero (dd : Bool) (d : Nat) (l : List UInt8) : Pre dd d l [] [] l := fun m => by
  simp only [List.length_nil, Nat.zero_add, List.nil_append]
  cases rdItems (rdW d) dd m l <;> rfl
theorem rdItems_one {dd : Bool} {f : List UInt8 → Option (VT × List UInt8)} {m : Nat} {l r r2 : List UInt8} {nm : List UInt8} {t : VT} (h1 : rdNm dd (some l) = (nm, some r)) (h2 : f r = some (t, r2)) :
    rdItems f dd (m + 1) l = (rdItems f dd m r2).map fun p => (t :: p.1, (if dd then bsOf nm :: p.2.1 else p.2.1), p.2.2) := by
  unfold rdNm at h1
  conv => lhs; unfold rdItems
  rw [h1]
  simp only [h2]
  cases rdItems f dd m r2 <;> rfl
/-- The names, with another one where items have names. -/
def addN (dd : Bool) (ns : List ByteArray) (nm : List UInt8) : List ByteArray := if dd then ns ++ [bsOf nm] else ns
theorem Pre.step {dd : Bool} {d : Nat} {l r r2 nm r1 : List UInt8} {ts : List VT} {ns : List ByteArray} {t : VT} (h : Pre dd d l ts ns r) (h1 : rdNm dd (some r) = (nm, some r1)) (h2 : rdW d r1 = some (t, r2)) : Pre dd d l (ts ++ [t]) (addN dd ns nm) r2 := fun m => by
  have e : (ts ++ [t]).length + m = ts.length + (m + 1) := by simp; omega
  rw [e, h (m + 1), rdItems_one h1 h2]
  cases rdItems (rdW d) dd m r2 with
  | none => rfl
  | some p => cases dd <;> simp [addN]
theorem mayL_append : ∀ (a b : List VT), mayL (a ++ b) = (mayL a && mayL b)
  | [], b => by
    have e : mayL [] = true := by unfold mayL; rfl
    rw [e]; simp
  | x :: a, b => by rw [List.cons_append, mayL_cons, mayL_append a b, mayL_cons, Bool.and_assoc]
/-- All are read. -/
theorem Pre.all {dd : Bool} {d : Nat} {least : Int} {l r : List UInt8} {ts : List VT} {ns : List ByteArray} (h : Pre dd d l ts ns r) : RelI dd d least ts.length (some l) ts ns (some r) := by
  refine ⟨l, rfl, ?_⟩
  have := h 0
  rw [Nat.add_zero] at this
  rw [this]
  simp [rdItems]
theorem rdItems_short {dd : Bool} {d m : Nat} {l r : List UInt8} {us : List VT} {ms : List ByteArray} (h : rdItems (rdW d) dd m l = some (us, ms, r)) : r.length ≤ l.length :=
  (rdItems_deep (P := fun _ => True) dd (fun t l r h => ⟨trivial, (rdW_deep d t l r h).2⟩) m l us ms r h).2.1
/-- What is left is too little already. -/
theorem Pre.least {dd : Bool} {d n : Nat} {least : Int} {l r : List UInt8} {ts ts' : List VT} {ns ns' : List ByteArray} (h : Pre dd d l ts ns r) (hn : ts.length ≤ n) (hr : (r.length : Int) < least) : RelI dd d least n (some l) ts' ns' none := by
  intro l' us ms r' hl hi
  cases hl
  obtain ⟨m, rfl⟩ := Nat.exists_eq_add_of_le hn
  rw [h m] at hi
  cases hm : rdItems (rdW d) dd m r with
  | none => rw [hm] at hi; cases hi
  | some p =>
    obtain ⟨a, b, c⟩ := p
    rw [hm] at hi
    simp only [Option.map_some, Option.some.injEq, Prod.mk.injEq] at hi
    have := rdItems_short hm
    refine .inr ?_
    rw [← hi.2.2]
    omega
/-- An item is bad. -/
theorem Pre.bad {dd : Bool} {d n : Nat} {least : Int} {l r : List UInt8} {ts ts' : List VT} {ns ns' : List ByteArray} {t : VT} (h : Pre dd d l ts ns r) (hn : ts.length < n) (hr : RelN dd d least (some r) t none) : RelI dd d least n (some l) ts' ns' none := by
  intro l' us ms r' hl hi
  cases hl
  obtain ⟨m, rfl⟩ : ∃ m, n = ts.length + (m + 1) := ⟨n - ts.length - 1, by omega⟩
  rw [h (m + 1)] at hi
  cases hm : rdItems (rdW d) dd (m + 1) r with
  | none => rw [hm] at hi; cases hi
  | some p =>
    obtain ⟨a, b, c⟩ := p
    rw [hm] at hi
    simp only [Option.map_some, Option.some.injEq, Prod.mk.injEq] at hi
    obtain ⟨rfl, -, rfl⟩ := hi
    obtain ⟨nm, s1, h1⟩ : ∃ nm s1, rdNm dd (some r) = (nm, s1) := ⟨_, _, rfl⟩
    cases s1 with
    | none =>
      unfold rdNm at h1
      unfold rdItems at hm
      rw [h1] at hm
      cases hm
    | some r1 =>
      cases hw : rdW d r1 with
      | none =>
        unfold rdNm at h1
        unfold rdItems at hm
        rw [h1] at hm
        simp only [hw] at hm
        cases hm
      | some q =>
        obtain ⟨u, r2⟩ := q
        rw [rdItems_one h1 hw] at hm
        cases hk : rdItems (rdW d) dd m r2 with
        | none => rw [hk] at hm; cases hm
        | some q2 =>
          obtain ⟨a2, b2, c2⟩ := q2
          rw [hk] at hm
          simp only [Option.map_some, Option.some.injEq, Prod.mk.injEq] at hm
          obtain ⟨rfl, -, rfl⟩ := hm
          rcases hr r1 u r2 (by rw [h1]) hw with h3 | h3
          · refine .inl ?_
            rw [mayL_append, mayL_cons, h3]
            simp
          · have := rdItems_short hk
            exact .inr (by omega)
/-- The source was bad before. -/
theorem RelI.none {dd : Bool} {d n : Nat} {least : Int} {ts : List VT} {ns : List ByteArray} : RelI dd d least n none ts ns none := fun _ _ _ _ h => by cases h
end Go.Proofs.Ytipiplnhbecjeaa

/- What a reading makes of each kind; a row of the call's own holds values. -/
namespace Go.Proofs.Ytipiplnhbecjeaa
set_option linter.unusedVariables false
set_option linter.unusedSimpArgs false
set_option maxRecDepth 100000
open Go.RowKit
theorem rdByte_lt (st : Option (List UInt8)) : (rdByte st).1 < 256 := by
  rcases st with _ | _ | ⟨b, r⟩
  · simp [rdByte]
  · simp [rdByte]
  · exact UInt8.toNat_lt b
theorem rdInt_rng (st : Option (List UInt8)) : Rng (rdInt st).1 := by
  have h := rdN_lt 18446744073709551615 st
  unfold rdInt
  exact zag_rng _ h
theorem rdByte_split {st : Option (List UInt8)} {k : Nat} (h : (rdByte st).1 = k) (hk : k ≠ 0) : ∃ l, st = some l ∧ ∃ r, rdByte (some l) = (k, some r) := by
  rcases st with _ | _ | ⟨b, r⟩
  · exact absurd h (by simp only [rdByte]; omega)
  · exact absurd h (by simp only [rdByte]; omega)
  · exact ⟨_, rfl, r, by rw [← h]; rfl⟩
theorem rdW_two (d : Nat) {l r : List UInt8} (h : rdByte (some l) = (2, some r)) : rdW (d + 1) l = match rdByte (some r) with | (i, some r') => some (.mk 2 i eS [] [], r') | (_, none) => none := by
  unfold rdW; rw [h]; simp only; rfl
theorem rdW_three (d : Nat) {l r : List UInt8} (h : rdByte (some l) = (3, some r)) : rdW (d + 1) l = match rdInt (some r) with | (i, some r') => some (.mk 3 i eS [] [], r') | (_, none) => none := by
  unfold rdW; rw [h]; simp only; rfl
theorem rdW_text (d k : Nat) (hk : k = 4 ∨ k = 5) {l r : List UInt8} (h : rdByte (some l) = (k, some r)) : rdW (d + 1) l = match rdText 4096 (some r) with | (x, some r') => some (.mk k 0 (bsOf x) [] [], r') | (_, none) => none := by
  unfold rdW; rw [h]; simp only; rw [if_neg (by omega), if_neg (by omega), if_pos hk]; rfl
theorem rdW_items (d k : Nat) (hk : k = 6 ∨ k = 7) {l r : List UInt8} (h : rdByte (some l) = (k, some r)) : rdW (d + 1) l = match rdCount 4096 (some r) with
        | (_, none) => none
        | (n, some r') => match rdItems (rdW d) (decide (k = 7)) n r' with
          | none => none
          | some (ts, ns, r'') => some (.mk k 0 eS ts ns, r'') := by
  unfold rdW; rw [h]; simp only; rw [if_neg (by omega), if_neg (by omega), if_neg (by omega), if_pos hk]; rfl
theorem rdW_other (d k : Nat) (h2 : k ≠ 2) (h3 : k ≠ 3) (h4 : k ≠ 4) (h5 : k ≠ 5) (h6 : k ≠ 6) (h7 : k ≠ 7) {l r : List UInt8} (h : rdByte (some l) = (k, some r)) : rdW (d + 1) l = some (.mk k 0 eS [] [], r) := by
  unfold rdW; rw [h]; simp only; rw [if_neg h2, if_neg h3, if_neg (by omega), if_neg (by omega)]
theorem rel_two (d : Nat) (least : Int) {st : Option (List UInt8)} (h : (rdByte st).1 = 2) : Rel (d + 1) least st (.mk 2 (rdByte (rdByte st).2).1 eS [] []) (rdByte (rdByte st).2).2 := by
  obtain ⟨l, rfl, r, hr⟩ := rdByte_split h (by omega)
  have hw := rdW_two d hr
  rw [hr]
  obtain ⟨⟨i, s⟩, hp⟩ : ∃ p, p = rdByte (some r) := ⟨_, rfl⟩
  rw [← hp] at hw ⊢
  cases s with
  | none => intro l' u r' e hu; cases e; rw [hw] at hu; cases hu
  | some r' => exact ⟨l, rfl, hw⟩
theorem rel_three (d : Nat) (least : Int) {st : Option (List UInt8)} (h : (rdByte st).1 = 3) : Rel (d + 1) least st (.mk 3 (rdInt (rdByte st).2).1 eS [] []) (rdInt (rdByte st).2).2 := by
  obtain ⟨l, rfl, r, hr⟩ := rdByte_split h (by omega)
  have hw := rdW_three d hr
  rw [hr]
  obtain ⟨⟨i, s⟩, hp⟩ : ∃ p, p = rdInt (some r) := ⟨_, rfl⟩
  rw [← hp] at hw ⊢
  cases s with
  | none => intro l' u r' e hu; cases e; rw [hw] at hu; cases hu
  | some r' => exact ⟨l, rfl, hw⟩
theorem rel_text (d k : Nat) (hk : k = 4 ∨ k = 5) (least : Int) {st : Option (List UInt8)} (h : (rdByte st).1 = k) : Rel (d + 1) least st (.mk k 0 (bsOf (rdText 4096 (rdByte st).2).1) [] []) (rdText 4096 (rdByte st).2).2 := by
  obtain ⟨l, rfl, r, hr⟩ := rdByte_split h (by omega)
  have hw := rdW_text d k hk hr
  rw [hr]
  obtain ⟨⟨i, s⟩, hp⟩ : ∃ p, p = rdText 4096 (some r) := ⟨_, rfl⟩
  rw [← hp] at hw ⊢
  cases s with
  | none => intro l' u r' e hu; cases e; rw [hw] at hu; cases hu
  | some r' => exact ⟨l, rfl, hw⟩
theorem rel_other (d : Nat) (least : Int) {st : Option (List UInt8)} {k : Nat} (h : (rdByte st).1 = k) (h2 : k ≠ 2) (h3 : k ≠ 3) (h4 : k ≠ 4) (h5 : k ≠ 5) (h6 : k ≠ 6) (h7 : k ≠ 7) : Rel (d + 1) least st (.mk k 0 eS [] []) (rdByte st).2 := by
  rcases st with _ | l
  · intro l' u r' e; cases e
  · obtain ⟨⟨i, s⟩, hp⟩ : ∃ p, p = rdByte (some l) := ⟨_, rfl⟩
    rw [← hp] at h ⊢
    simp only at h
    subst h
    cases s with
    | none =>
      intro l' u r' e hu
      cases e
      unfold rdW at hu
      rw [← hp] at hu
      cases hu
    | some r => exact ⟨l, rfl, rdW_other d i h2 h3 h4 h5 h6 h7 hp.symm⟩
theorem mayT_items {k i : Int} {s : ByteArray} {l : List VT} {ns : List ByteArray} (h : mayL l = false) : mayT (.mk k i s l ns) = false := by
  rw [mayT_eq]; simp only [VT.items]; rw [h, Bool.and_false]
theorem rel_items (d k : Nat) (hk : k = 6 ∨ k = 7) (least : Int) {st st' : Option (List UInt8)} {ts : List VT} {ns : List ByteArray} (h : (rdByte st).1 = k)
    (hi : RelI (decide (k = 7)) d least (rdCount 4096 (rdByte st).2).1 (rdCount 4096 (rdByte st).2).2 ts ns st') : Rel (d + 1) least st (.mk k 0 eS ts ns) st' := by
  obtain ⟨l, rfl, r, hr⟩ := rdByte_split h (by omega)
  have hw := rdW_items d k hk hr
  rw [hr] at hi
  obtain ⟨⟨n, s⟩, hp⟩ : ∃ p, p = rdCount 4096 (some r) := ⟨_, rfl⟩
  simp only at hi
  rw [← hp] at hw hi
  cases st' with
  | none =>
    intro l' u r' e hu
    cases e
    rw [hw] at hu
    cases s with
    | none => cases hu
    | some r2 =>
      simp only at hu
      cases hq : rdItems (rdW d) (decide (k = 7)) n r2 with
      | none => rw [hq] at hu; cases hu
      | some p =>
        obtain ⟨us, ms, r3⟩ := p
        rw [hq] at hu
        simp only [Option.some.injEq, Prod.mk.injEq] at hu
        obtain ⟨rfl, rfl⟩ := hu
        rcases hi r2 us ms r3 rfl hq with h1 | h1
        · exact .inl (mayT_items h1)
        · exact .inr h1
  | some r' =>
    obtain ⟨l2, h1, h2⟩ := hi
    simp only at h1
    subst h1
    refine ⟨l, rfl, ?_⟩
    rw [hw]
    simp only
    rw [h2]
/-- A row of values of the call's own is a list of values. -/
theorem lva_of_row {w : World} {B : Nat} {S : Nat → Prop} {v : Value} {ts : List VT} (h : RowV w B S v ts) (hS : ∀ b, S b → B ≤ b ∧ b < w.heap.size) : ∃ A c, v = .slice A ts.length c ∧ LVA w (New B w) A ts := by
  obtain ⟨xs, h1, h2⟩ := h
  rcases h1.2 with ⟨rfl, h3⟩ | ⟨g, cap, cur, rfl, hg, hh, r⟩
  · exact ⟨none, 0, by rw [h3], fun hp => absurd hp (by omega)⟩
  · refine ⟨_, _, rfl, fun hp => ⟨g, 0, rfl, ⟨hg, (Array.getElem?_eq_some_iff.1 hh).1⟩, LVs.intro fun j hj => ?_⟩⟩
    obtain ⟨c0, c1, c2, c3, c4, e, hx⟩ := h2 j hj
    have hc : ∀ i (u : Value), [c0, c1, c2, c3, c4][i]? = some u → w.cell? ⟨g, 0 + j * 5 + i, none⟩ = some u := by
      intro i u hu
      have h' : w.ownsRow B 25 5 (.slice (some ⟨g, 0, none⟩) ts.length cap) ts.length xs := h1
      have hi : i < 5 := by have := (List.getElem?_eq_some_iff.1 hu).1; simpa using this
      have := h'.cells (g := g) rfl (j * 5 + i) u (by
        rw [← e, List.getElem?_take, if_pos hi, List.getElem?_drop] at hu
        exact hu)
      rw [addr_at, Nat.zero_add] at this
      rw [Nat.zero_add]
      exact this
    exact ⟨c0, c1, c2, c3, c4, hc 0 c0 rfl, hc 1 c1 rfl, hc 2 c2 rfl, hc 3 c3 rfl, hc 4 c4 rfl, hx.imp hS⟩
end Go.Proofs.Ytipiplnhbecjeaa
