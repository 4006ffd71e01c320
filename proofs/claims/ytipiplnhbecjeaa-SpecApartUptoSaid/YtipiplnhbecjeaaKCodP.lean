/- How long a code is; which values are whole; what is read of bytes. No conditions on the program. -/
import Derived.Test.YtipiplnhbecjeaaKCodM
import Derived.Test.YtipiplnhbecjeaaKRefZ
namespace Go.Proofs.Ytipiplnhbecjeaa
set_option linter.unusedVariables false
set_option linter.unusedSimpArgs false
open Go.RowKit

theorem txt_length (s : ByteArray) : (txt s).length = tsz s := by unfold txt tsz; rw [List.length_append]; rfl
mutual
theorem enc_len : ∀ (t : VT), mayT t = true → (encT t).length = sizeT t
  | .mk k i s l ns, h => by
    have hsh := shapes h
    rcases hsh with e | ⟨x, hx, e⟩ | ⟨x, e⟩ | ⟨k', s', hk, e⟩ | ⟨l', hl, e⟩ | ⟨l', ns', hl, hn, hdn, e⟩
    · injection e with e1 e2 e3 e4 e5
      subst e1 e2 e3 e4 e5; rfl
    · injection e with e1 e2 e3 e4 e5
      subst e1 e2 e3 e4 e5
      rcases hx with rfl | rfl <;> rfl
    · injection e with e1 e2 e3 e4 e5
      subst e1 e2 e3 e4 e5
      rw [encT_eq]; unfold headE sizeT ownP
      simp [VT.kind, VT.num, VT.items, VT.names, encL_nil, sizeL_nil]
      omega
    · injection e with e1 e2 e3 e4 e5
      subst e1 e2 e3 e4 e5
      rw [encT_eq]; unfold headE sizeT ownP
      rcases hk with rfl | rfl <;> (simp [VT.kind, VT.num, VT.items, VT.names, VT.text, encL_nil, sizeL_nil, txt_length]; omega)
    · injection e with e1 e2 e3 e4 e5
      subst e1 e2 e3 e4 e5
      have h1 := encL_len false [] l hl (fun h => by cases h)
      rw [encT_eq]; unfold headE sizeT ownP
      simp [VT.kind, VT.num, VT.items, VT.names, VT.text, h1]
      omega
    · injection e with e1 e2 e3 e4 e5
      subst e1 e2 e3 e4 e5
      have h1 := encL_len true ns l hl (fun _ => hn)
      rw [encT_eq]; unfold headE sizeT ownP
      simp [VT.kind, VT.num, VT.items, VT.names, VT.text, h1]
      omega
theorem encL_len : ∀ (d : Bool) (ns : List ByteArray) (l : List VT), mayL l = true → (d = true → ns.length = l.length) → (encL d ns l).length = (if d then sumN ns else 0) + sizeL l
  | d, ns, [], _, hn => by
    rw [encL_nil, sizeL_nil]
    cases d with
    | false => rfl
    | true => have : ns = [] := List.eq_nil_of_length_eq_zero (hn rfl); subst this; rfl
  | d, ns, t :: r, h, hn => by
    have h2 : mayT t = true ∧ mayL r = true := by unfold mayL at h; simpa using h
    have h3 := enc_len t h2.1
    cases d with
    | false =>
      have h4 := encL_len false ns.tail r h2.2 (fun h => by cases h)
      unfold encL sizeL
      simp only [Bool.false_eq_true, if_false, List.nil_append, List.length_append, h3, h4]; omega
    | true =>
      match ns, hn with
      | [], hn => have := hn rfl; simp at this
      | n :: ns, hn =>
        have h4 := encL_len true ns r h2.2 (fun _ => by have := hn rfl; simpa using this)
        unfold encL sizeL
        simp only [if_true, List.headD_cons, List.tail_cons, List.length_append, h3, h4, txt_length]
        have : sumN (n :: ns) = tsz n + sumN ns := by unfold sumN; simp
        rw [this]; omega
end
theorem check_zero {t : VT} (hs : sizeT t ≤ 9223372036854775807) : checkT t = 0 ↔ mayT t = true ∧ depthT t ≤ 8 ∧ sizeT t ≤ 4096 := by
  have hw : wrap64 (sizeT t) = sizeT t := by unfold wrap64; omega
  unfold checkT
  rw [hw]
  cases hm : mayT t with
  | false => simp
  | true =>
    simp only [if_true, true_and]
    constructor
    · intro h
      split at h
      · omega
      · split at h
        · omega
        · constructor <;> omega
    · rintro ⟨h1, h2⟩
      rw [if_neg (by omega), if_neg (by omega)]
/-- A value that is whole. -/
structure Whole (t : VT) : Prop where
  may : mayT t = true
  depth : depthT t ≤ 8
  size : sizeT t ≤ 4096
theorem rdItems_deep {f : List UInt8 → Option (VT × List UInt8)} {P : VT → Prop} (d : Bool) (hf : ∀ t l r, f l = some (t, r) → P t ∧ r.length ≤ l.length) : ∀ (n : Nat) (l : List UInt8) (ts : List VT) (ns : List ByteArray) (r : List UInt8),
    rdItems f d n l = some (ts, ns, r) → (∀ t ∈ ts, P t) ∧ r.length ≤ l.length ∧ ts.length = n
  | 0, l, ts, ns, r, h => by
    simp only [rdItems, Option.some.injEq, Prod.mk.injEq] at h
    obtain ⟨rfl, rfl, rfl⟩ := h
    exact ⟨(fun t ht => by cases ht), Nat.le_refl _, rfl⟩
  | n + 1, l, ts, ns, r, h => by
    unfold rdItems at h
    have hnm : ∀ nm l1, (if d then rdText 32 (some l) else ([], some l)) = (nm, some l1) → l1.length ≤ l.length := by
      intro nm l1 he
      cases d with
      | false => simp only [Bool.false_eq_true, if_false] at he; injection he with e1 e2; injection e2 with e2; rw [e2]; exact Nat.le_refl _
      | true => simp only [if_true] at he; rw [(rdText_inv (m := 32) (by decide) he).1]; simp
    obtain ⟨⟨nm, st⟩, hp⟩ : ∃ p, p = (if d then rdText 32 (some l) else ([], some l)) := ⟨_, rfl⟩
    rw [← hp] at h hnm
    cases st with
    | none => cases h
    | some l1 =>
      have hl := hnm nm l1 rfl
      simp only at h
      cases hf1 : f l1 with
      | none => rw [hf1] at h; cases h
      | some x =>
        obtain ⟨t, l2⟩ := x
        rw [hf1] at h
        simp only at h
        cases hf2 : rdItems f d n l2 with
        | none => rw [hf2] at h; cases h
        | some y =>
          obtain ⟨ts', ns', l3⟩ := y
          rw [hf2] at h
          simp only [Option.some.injEq, Prod.mk.injEq] at h
          obtain ⟨rfl, rfl, rfl⟩ := h
          obtain ⟨h1, h2, h3⟩ := rdItems_deep d hf n l2 ts' ns' l3 hf2
          obtain ⟨h4, h5⟩ := hf t l1 l2 hf1
          refine ⟨fun u hu => ?_, by omega, by simp [h3]⟩
          rcases List.mem_cons.1 hu with rfl | hu
          · exact h4
          · exact h1 u hu
theorem depthL_of {l : List VT} {d : Nat} (h : ∀ t ∈ l, depthT t ≤ d) : depthL l ≤ d := by
  induction l with
  | nil => unfold depthL; omega
  | cons a r ih =>
    unfold depthL
    have h1 := h a (List.mem_cons_self ..)
    have h2 := ih fun t ht => h t (List.mem_cons_of_mem _ ht)
    omega
theorem rngL_of {l : List VT} (h : ∀ t ∈ l, rngT t) : rngL l := by
  induction l with
  | nil => unfold rngL; trivial
  | cons a r ih => unfold rngL; exact ⟨h a (List.mem_cons_self ..), ih fun t ht => h t (List.mem_cons_of_mem _ ht)⟩
theorem rng_small {k : Nat} (h : k < 256) : Rng (k : Int) := by unfold Rng; omega
theorem rdW_deep : ∀ (d : Nat) (t : VT) (l r : List UInt8), rdW d l = some (t, r) → (depthT t ≤ d ∧ rngT t) ∧ r.length ≤ l.length
  | 0, t, l, r, h => by cases h
  | d + 1, t, l, r, h => by
    unfold rdW at h
    obtain ⟨⟨k, st⟩, hp⟩ : ∃ p, p = rdByte (some l) := ⟨_, rfl⟩
    rw [← hp] at h
    cases st with
    | none => cases h
    | some r1 =>
      obtain ⟨hl, hk⟩ := rdByte_inv hp.symm
      have hlen : r1.length ≤ l.length := by rw [hl]; simp
      have leaf : ∀ (k i : Int) (s : ByteArray), Rng i → depthT (.mk k i s [] []) ≤ d + 1 ∧ rngT (.mk k i s [] []) := fun k i s hi => ⟨by rw [depthT_mk]; unfold depthL; omega, by unfold rngT; exact ⟨hi, by unfold rngL; trivial⟩⟩
      simp only at h
      by_cases h2 : k = 2
      · rw [if_pos h2] at h
        obtain ⟨⟨i, st⟩, hp⟩ : ∃ p, p = rdByte (some r1) := ⟨_, rfl⟩
        rw [← hp] at h
        cases st with
        | none => cases h
        | some r2 =>
          obtain ⟨hl2, hi⟩ := rdByte_inv hp.symm
          simp only [Option.some.injEq, Prod.mk.injEq] at h
          obtain ⟨rfl, rfl⟩ := h
          exact ⟨leaf _ _ _ (rng_small hi), by rw [hl2] at hlen; simp at hlen; omega⟩
      rw [if_neg h2] at h
      by_cases h3 : k = 3
      · rw [if_pos h3] at h
        obtain ⟨⟨i, st⟩, hp⟩ : ∃ p, p = rdInt (some r1) := ⟨_, rfl⟩
        rw [← hp] at h
        cases st with
        | none => cases h
        | some r2 =>
          obtain ⟨hl2, hi⟩ := rdInt_inv hp.symm
          simp only [Option.some.injEq, Prod.mk.injEq] at h
          obtain ⟨rfl, rfl⟩ := h
          exact ⟨leaf _ _ _ hi, by rw [hl2] at hlen; simp at hlen; omega⟩
      rw [if_neg h3] at h
      by_cases h45 : k = 4 ∨ k = 5
      · rw [if_pos h45] at h
        obtain ⟨⟨x, st⟩, hp⟩ : ∃ p, p = rdText 4096 (some r1) := ⟨_, rfl⟩
        rw [← hp] at h
        cases st with
        | none => cases h
        | some r2 =>
          obtain ⟨hl2, -⟩ := rdText_inv (m := 4096) (by decide) hp.symm
          simp only [Option.some.injEq, Prod.mk.injEq] at h
          obtain ⟨rfl, rfl⟩ := h
          exact ⟨leaf _ _ _ (by unfold Rng; omega), by rw [hl2] at hlen; simp at hlen; omega⟩
      rw [if_neg h45] at h
      by_cases h67 : k = 6 ∨ k = 7
      · rw [if_pos h67] at h
        obtain ⟨⟨n, st⟩, hp⟩ : ∃ p, p = rdCount 4096 (some r1) := ⟨_, rfl⟩
        rw [← hp] at h
        cases st with
        | none => cases h
        | some r2 =>
          obtain ⟨hl2, -⟩ := rdCount_inv (m := 4096) (by decide) hp.symm
          simp only at h
          cases hi : rdItems (rdW d) (decide (k = 7)) n r2 with
          | none => rw [hi] at h; cases h
          | some y =>
            obtain ⟨ts, ns, r3⟩ := y
            rw [hi] at h
            simp only [Option.some.injEq, Prod.mk.injEq] at h
            obtain ⟨rfl, rfl⟩ := h
            obtain ⟨h1, h2, -⟩ := rdItems_deep (P := fun t => depthT t ≤ d ∧ rngT t) (decide (k = 7)) (fun t l r => rdW_deep d t l r) n r2 ts ns r3 hi
            refine ⟨⟨by rw [depthT_mk]; have := depthL_of (d := d) fun t ht => (h1 t ht).1; omega, by unfold rngT; exact ⟨by unfold Rng; omega, rngL_of fun t ht => (h1 t ht).2⟩⟩, ?_⟩
            rw [hl2] at hlen; simp at hlen; omega
      · rw [if_neg h67] at h
        simp only [Option.some.injEq, Prod.mk.injEq] at h
        obtain ⟨rfl, rfl⟩ := h
        exact ⟨leaf _ _ _ (by unfold Rng; omega), hlen⟩

/-- The whole value whose code comes next. -/
def readS (l : List UInt8) : Option (VT × List UInt8) := match rdW 8 l with
  | some (t, r) => if checkT t = 0 then some (t, r) else none
  | none => none
theorem size_of_rd {d : Nat} {t : VT} {l r : List UInt8} (h : rdW d l = some (t, r)) (hm : mayT t = true) : sizeT t + r.length = l.length := by
  have h1 := rdW_inv d t l r h hm
  rw [← h1, List.length_append, enc_len t hm]
theorem readS_some {l r : List UInt8} {t : VT} (h : readS l = some (t, r)) (hl : l.length ≤ 9223372036854775807) : Whole t ∧ rngT t ∧ l = encT t ++ r ∧ rdW 8 l = some (t, r) ∧ checkT t = 0 := by
  unfold readS at h
  cases hr : rdW 8 l with
  | none => rw [hr] at h; cases h
  | some y =>
    obtain ⟨u, r'⟩ := y
    rw [hr] at h
    simp only at h
    split at h
    · next hc =>
      simp only [Option.some.injEq, Prod.mk.injEq] at h
      obtain ⟨rfl, rfl⟩ := h
      have hm : mayT u = true := by
        unfold checkT at hc
        cases hmm : mayT u with
        | true => rfl
        | false => rw [hmm] at hc; simp at hc
      have hsz := size_of_rd hr hm
      obtain ⟨h1, h2, h3⟩ := (check_zero (t := u) (by omega)).1 hc
      exact ⟨⟨h1, h2, h3⟩, (rdW_deep 8 u l r' hr).1.2, (rdW_inv 8 u l r' hr hm).symm, rfl, hc⟩
    · cases h
theorem readS_code {t : VT} (h : Whole t) (hr : rngT t) (r : List UInt8) : readS (encT t ++ r) = some (t, r) := by
  unfold readS
  rw [rdW_code 8 t r h.may hr h.depth h.size]
  simp only
  rw [if_pos ((check_zero (by have := h.size; omega)).2 ⟨h.may, h.depth, h.size⟩)]
/-- No beginning of a code is one, and nothing behind a code. -/
theorem readS_cut {t : VT} (h : Whole t) (hr : rngT t) (n : Nat) (hn : n < (encT t).length) : ∀ u, readS ((encT t).take n) ≠ some (u, []) := by
  intro u hu
  have hl : ((encT t).take n).length ≤ 9223372036854775807 := by have := enc_len t h.may; have := h.size; simp; omega
  obtain ⟨h1, h2, h3, -⟩ := readS_some hu hl
  rw [List.append_nil] at h3
  have e : encT t ++ [] = encT u ++ (encT t).drop n := by rw [← h3, List.take_append_drop, List.append_nil]
  have k1 := readS_code h hr []
  rw [e, readS_code h1 h2] at k1
  simp only [Option.some.injEq, Prod.mk.injEq] at k1
  have := congrArg List.length k1.2
  simp at this; omega
theorem readS_more {t : VT} (h : Whole t) (hr : rngT t) (b : UInt8) : ∀ u, readS (encT t ++ [b]) ≠ some (u, []) := by
  intro u hu
  rw [readS_code h hr] at hu
  simp at hu
end Go.Proofs.Ytipiplnhbecjeaa
