/- The code of a value, and the value that bytes begin with. No conditions on the program. -/
import Derived.Test.YtipiplnhbecjeaaKValS
import Derived.Test.YtipiplnhbecjeaaKVarH
import Derived.Test.YtipiplnhbecjeaaKLook
import Derived.Test.YtipiplnhbecjeaaKRefA
namespace Go.Proofs.Ytipiplnhbecjeaa
set_option linter.unusedVariables false
set_option linter.unusedSimpArgs false
open Go.RowKit

def eS : ByteArray := ⟨#[]⟩
mutual
def encT : VT → List UInt8
  | .mk k i s l ns => UInt8.ofNat k.toNat :: ((if k = 2 then [UInt8.ofNat i.toNat] else if k = 3 then grp (zig i) else if k = 4 ∨ k = 5 then txt s else if k = 6 ∨ k = 7 then grp l.length else []) ++ encL (decide (k = 7)) ns l)
def encL : Bool → List ByteArray → List VT → List UInt8
  | _, _, [] => []
  | d, ns, t :: r => (if d then txt (ns.headD eS) else []) ++ encT t ++ encL d ns.tail r
end
/-- What of a value's code stands ahead of its items'. -/
def headE (k i : Int) (s : ByteArray) (n : Nat) : List UInt8 := UInt8.ofNat k.toNat :: (if k = 2 then [UInt8.ofNat i.toNat] else if k = 3 then grp (zig i) else if k = 4 ∨ k = 5 then txt s else if k = 6 ∨ k = 7 then grp n else [])
theorem encT_eq (t : VT) : encT t = headE t.kind t.num t.text t.items.length ++ encL (decide (t.kind = 7)) t.names t.items := by
  cases t; unfold encT headE; rfl
theorem encL_step (d : Bool) {ns : List ByteArray} {l : List VT} {j : Nat} (h : j < l.length) (hn : d = true → j < ns.length) :
    encL d (ns.drop j) (l.drop j) = (if d then txt (ns.getD j eS) else []) ++ encT l[j] ++ encL d (ns.drop (j + 1)) (l.drop (j + 1)) := by
  rw [List.drop_eq_getElem_cons h]; conv => lhs; unfold encL
  rw [List.tail_drop]
  cases d
  · rfl
  · have hj := hn rfl
    have e : (ns.drop j).headD eS = ns.getD j eS := by rw [List.drop_eq_getElem_cons hj]; simp [hj]
    rw [e]
theorem encL_nil (d : Bool) (ns : List ByteArray) : encL d ns [] = [] := by unfold encL; rfl

/-! ### what bytes begin with -/
def rdItems (f : List UInt8 → Option (VT × List UInt8)) (d : Bool) : Nat → List UInt8 → Option (List VT × List ByteArray × List UInt8)
  | 0, l => some ([], [], l)
  | n + 1, l =>
    match (if d then rdText 32 (some l) else ([], some l)) with
    | (_, none) => none
    | (nm, some l1) =>
      match f l1 with
      | none => none
      | some (t, l2) =>
        match rdItems f d n l2 with
        | none => none
        | some (ts, ns, l3) => some (t :: ts, (if d then bsOf nm :: ns else ns), l3)
def rdW : Nat → List UInt8 → Option (VT × List UInt8)
  | 0, _ => none
  | d + 1, l =>
    match rdByte (some l) with
    | (_, none) => none
    | (k, some r) =>
      if k = 2 then (match rdByte (some r) with | (i, some r') => some (.mk 2 i eS [] [], r') | (_, none) => none)
      else if k = 3 then (match rdInt (some r) with | (i, some r') => some (.mk 3 i eS [] [], r') | (_, none) => none)
      else if k = 4 ∨ k = 5 then (match rdText 4096 (some r) with | (x, some r') => some (.mk k 0 (bsOf x) [] [], r') | (_, none) => none)
      else if k = 6 ∨ k = 7 then
        (match rdCount 4096 (some r) with
        | (_, none) => none
        | (n, some r') => match rdItems (rdW d) (decide (k = 7)) n r' with
          | none => none
          | some (ts, ns, r'') => some (.mk k 0 eS ts ns, r''))
      else some (.mk k 0 eS [] [], r)

/-! ### numbers read are numbers put -/
theorem getG_inv : ∀ (l : List UInt8) (i acc : Nat), (getG i acc l).2 ≠ 0 → i ≤ 9 ∧ ∃ n m, 0 < m ∧ m ≤ l.length ∧ getG i acc l = (acc + n * 128 ^ i, i + m) ∧ l.take m = grpF (9 - i) n ∧ n < 2 * 128 ^ (9 - i) ∧ (0 < i → 0 < n)
  | [], i, acc, h => absurd (by simp [getG]) h
  | b :: r, i, acc, h => by
    have hb := UInt8.toNat_lt b
    unfold getG at h ⊢
    by_cases h10 : 10 ≤ i
    · rw [if_pos h10] at h; exact absurd rfl h
    rw [if_neg h10] at h ⊢
    by_cases h9 : i = 9 ∧ 1 < b.toNat
    · rw [if_pos h9] at h; exact absurd rfl h
    rw [if_neg h9] at h ⊢
    by_cases hs : b.toNat < 128
    · rw [if_pos hs] at h ⊢
      by_cases hz : b.toNat = 0 ∧ 0 < i
      · rw [if_pos hz] at h; exact absurd rfl h
      rw [if_neg hz]
      refine ⟨by omega, b.toNat, 1, by omega, by simp, rfl, ?_, ?_, fun hi => by omega⟩
      · have e : UInt8.ofNat b.toNat = b := by simp
        cases hf : 9 - i with
        | zero => simp [grpF, e]
        | succ f => rw [grpF, if_pos hs, e]; simp
      · by_cases hi : i = 9
        · subst hi; have : b.toNat ≤ 1 := by omega
          simp; omega
        · have : (128 : Nat) ^ 1 ≤ 128 ^ (9 - i) := Nat.pow_le_pow_right (by omega) (by omega)
          omega
    · rw [if_neg hs] at h ⊢
      obtain ⟨hi, n, m, hm0, hm, he, ht, hn, hp⟩ := getG_inv r (i + 1) _ h
      have hn0 := hp (by omega)
      refine ⟨by omega, b.toNat - 128 + 128 * n, m + 1, by omega, by simp; omega, ?_, ?_, ?_, fun _ => by omega⟩
      · rw [he, Prod.mk.injEq]
        refine ⟨?_, by omega⟩
        have e3 : (128 : Nat) ^ (i + 1) = 128 * 128 ^ i := by rw [Nat.pow_succ]; omega
        rw [e3, Nat.add_mul, ← Nat.mul_assoc, Nat.add_assoc, Nat.mul_comm 128 n]
      · obtain ⟨f, hf⟩ : ∃ f, 9 - i = f + 1 := ⟨8 - i, by omega⟩
        have hf2 : 9 - (i + 1) = f := by omega
        rw [hf2] at ht
        rw [hf, grpF, if_neg (by omega), List.take_succ_cons, ht]
        congr 1
        · have : (b.toNat - 128 + 128 * n) % 128 + 128 = b.toNat := by omega
          rw [this]; simp
        · congr 1; omega
      · obtain ⟨f, hf⟩ : ∃ f, 9 - i = f + 1 := ⟨8 - i, by omega⟩
        have hf2 : 9 - (i + 1) = f := by omega
        rw [hf2] at hn
        rw [hf, Nat.pow_succ]
        omega
theorem rdN_inv {most : Nat} {l r : List UInt8} {n : Nat} (h : rdN most (some l) = (n, some r)) : l = grp n ++ r ∧ n ≤ most ∧ n < 18446744073709551616 := by
  simp only [rdN] at h
  split at h
  · cases h
  · next hc =>
    obtain ⟨-, x, m, hm0, hm, he, ht, hx, -⟩ := getG_inv l 0 0 (fun h0 => hc (.inl h0))
    rw [he] at h hc
    simp only [Nat.pow_zero, Nat.mul_one, Nat.zero_add] at h hc ht hx
    injection h with h1 h2
    injection h2 with h2
    subst h1
    have e9 : (128 : Nat) ^ 9 = 9223372036854775808 := by decide
    have hlt : x < 18446744073709551616 := by simp at hx; omega
    refine ⟨?_, by omega, hlt⟩
    rw [grp_eq9 x hlt, ← ht, ← h2, List.take_append_drop]
theorem rdByte_inv {l r : List UInt8} {k : Nat} (h : rdByte (some l) = (k, some r)) : l = UInt8.ofNat k :: r ∧ k < 256 := by
  match l with
  | [] => cases h
  | b :: r' =>
    simp only [rdByte] at h
    injection h with h1 h2
    injection h2 with h2
    subst h1 h2
    exact ⟨by simp, UInt8.toNat_lt b⟩
theorem zig_zag (n : Nat) : zig (zag n) = n := by unfold zig zag; split <;> split <;> omega
theorem zag_rng (n : Nat) (h : n < 18446744073709551616) : -9223372036854775808 ≤ zag n ∧ zag n ≤ 9223372036854775807 := by unfold zag; split <;> omega
theorem rdInt_inv {l r : List UInt8} {x : Int} (h : rdInt (some l) = (x, some r)) : l = grp (zig x) ++ r ∧ -9223372036854775808 ≤ x ∧ x ≤ 9223372036854775807 := by
  unfold rdInt at h
  injection h with h1 h2
  obtain ⟨n, hn⟩ : ∃ n, n = (rdN 18446744073709551615 (some l)).1 := ⟨_, rfl⟩
  obtain ⟨e, -, hl⟩ := rdN_inv (n := n) (r := r) (l := l) (most := 18446744073709551615) (by rw [hn, ← h2])
  rw [← hn] at h1
  subst h1
  exact ⟨by rw [zig_zag]; exact e, zag_rng n hl⟩
theorem rdCount_inv {m : Nat} {l r : List UInt8} {n : Nat} (hm : m ≤ 4611686018427387904) (h : rdCount (m : Int) (some l) = (n, some r)) : l = grp n ++ r ∧ n ≤ m := by
  unfold rdCount at h
  rw [if_neg (by omega)] at h
  have e : mc (m : Int) = m := by unfold mc; rw [if_pos (by omega)]; omega
  rw [e] at h
  obtain ⟨h1, h2, -⟩ := rdN_inv h
  exact ⟨h1, h2⟩
theorem rdText_inv {m : Nat} {l r : List UInt8} {x : List UInt8} (hm : m ≤ 4611686018427387904) (h : rdText (m : Int) (some l) = (x, some r)) : l = txt (bsOf x) ++ r ∧ x.length ≤ m := by
  unfold rdText at h
  have hc : ∀ n r', rdCount (m : Int) (some l) = (n, some r') → l = grp n ++ r' ∧ n ≤ m := fun n r' => rdCount_inv hm
  obtain ⟨⟨n, st⟩, hn⟩ : ∃ p, p = rdCount (m : Int) (some l) := ⟨_, rfl⟩
  rw [← hn] at h hc
  cases st with
  | none =>
    simp only at h
    split at h <;> cases h
  | some r' =>
    obtain ⟨h1, h2⟩ := hc n r' rfl
    simp only at h
    by_cases h0 : n = 0
    · rw [if_pos h0] at h
      injection h with e1 e2
      injection e2 with e2
      subst e1 e2 h0
      refine ⟨?_, by simp⟩
      rw [h1]; unfold txt
      rw [bsOf_size, bsOf_data]; simp
    · rw [if_neg h0] at h
      split at h
      · cases h
      · next hl =>
        injection h with e1 e2
        injection e2 with e2
        subst e1 e2
        have hx : (r'.take n).length = n := by simp; omega
        refine ⟨?_, by omega⟩
        rw [h1]; unfold txt
        rw [bsOf_size, bsOf_data, hx, List.append_assoc, List.take_append_drop]

/-! ### there and back -/
theorem u8_nat {k : Nat} (h : k < 256) : UInt8.ofNat ((k : Int)).toNat = UInt8.ofNat k := by simp
theorem rdItems_inv {f : List UInt8 → Option (VT × List UInt8)} (d : Bool) : ∀ (n : Nat) (l : List UInt8) (ts : List VT) (ns : List ByteArray) (r : List UInt8),
    (∀ t l r, f l = some (t, r) → mayT t = true → encT t ++ r = l) → rdItems f d n l = some (ts, ns, r) → mayL ts = true → encL d ns ts ++ r = l ∧ ts.length = n ∧ (if d then ns.length = n else ns = [])
  | 0, l, ts, ns, r, hf, h, hm => by
    simp only [rdItems, Option.some.injEq, Prod.mk.injEq] at h
    obtain ⟨rfl, rfl, rfl⟩ := h
    rw [encL_nil]
    refine ⟨rfl, rfl, ?_⟩
    cases d <;> rfl
  | n + 1, l, ts, ns, r, hf, h, hm => by
    unfold rdItems at h
    have hnm : ∀ nm l1, (if d then rdText 32 (some l) else ([], some l)) = (nm, some l1) → l = (if d then txt (bsOf nm) else []) ++ l1 := by
      intro nm l1 he
      cases d with
      | false => simp only [Bool.false_eq_true, if_false] at he ⊢; injection he with e1 e2; injection e2 with e2
      | true => simp only [if_true] at he ⊢; exact (rdText_inv (m := 32) (by decide) he).1
    obtain ⟨⟨nm, st⟩, hp⟩ : ∃ p, p = (if d then rdText 32 (some l) else ([], some l)) := ⟨_, rfl⟩
    rw [← hp] at h hnm
    cases st with
    | none => cases h
    | some l1 =>
      have hl := hnm nm l1 rfl
      simp only at h
      cases hf1 : f l1 with
      | none => rw [hf1] at h; cases h
      | some x =>
        obtain ⟨t, l2⟩ := x
        rw [hf1] at h
        simp only at h
        cases hf2 : rdItems f d n l2 with
        | none => rw [hf2] at h; cases h
        | some y =>
          obtain ⟨ts', ns', l3⟩ := y
          rw [hf2] at h
          simp only [Option.some.injEq, Prod.mk.injEq] at h
          obtain ⟨rfl, rfl, rfl⟩ := h
          have hm2 : mayT t = true ∧ mayL ts' = true := by unfold mayL at hm; simpa using hm
          obtain ⟨h1, h2, h3⟩ := rdItems_inv d n l2 ts' ns' l3 hf hf2 hm2.2
          have h4 := hf t l1 l2 hf1 hm2.1
          refine ⟨?_, by simp [h2], ?_⟩
          · unfold encL
            cases d with
            | false => simp only [Bool.false_eq_true, if_false] at hl h3 ⊢; subst h3; rw [hl, ← h4, ← h1]; simp
            | true => simp only [if_true] at hl ⊢; rw [hl, ← h4, ← h1]; simp
          · cases d with
            | false => simp only [Bool.false_eq_true, if_false] at h3 ⊢; exact h3
            | true => simp only [if_true] at h3 ⊢; simp [h3]
theorem mayT_eq (t : VT) : mayT t = (fitsP t.kind t.num t.text t.items.length t.names && mayL t.items) := by cases t; unfold mayT; rfl
theorem rdW_inv : ∀ (d : Nat) (t : VT) (l r : List UInt8), rdW d l = some (t, r) → mayT t = true → encT t ++ r = l
  | 0, t, l, r, h, _ => by cases h
  | d + 1, t, l, r, h, hm => by
    unfold rdW at h
    obtain ⟨⟨k, st⟩, hp⟩ : ∃ p, p = rdByte (some l) := ⟨_, rfl⟩
    rw [← hp] at h
    cases st with
    | none => cases h
    | some r1 =>
      obtain ⟨hl, hk⟩ := rdByte_inv hp.symm
      have h0 := u8_nat hk
      simp only at h
      by_cases h2 : k = 2
      · subst h2
        rw [if_pos rfl] at h
        obtain ⟨⟨i, st⟩, hp⟩ : ∃ p, p = rdByte (some r1) := ⟨_, rfl⟩
        rw [← hp] at h
        cases st with
        | none => cases h
        | some r2 =>
          obtain ⟨hl2, hi⟩ := rdByte_inv hp.symm
          simp only [Option.some.injEq, Prod.mk.injEq] at h
          obtain ⟨rfl, rfl⟩ := h
          rw [encT_eq, hl, hl2]
          unfold headE
          simp [encL_nil, VT.kind, VT.num, VT.items]
      rw [if_neg h2] at h
      by_cases h3 : k = 3
      · subst h3
        rw [if_pos rfl] at h
        obtain ⟨⟨i, st⟩, hp⟩ : ∃ p, p = rdInt (some r1) := ⟨_, rfl⟩
        rw [← hp] at h
        cases st with
        | none => cases h
        | some r2 =>
          obtain ⟨hl2, -⟩ := rdInt_inv hp.symm
          simp only [Option.some.injEq, Prod.mk.injEq] at h
          obtain ⟨rfl, rfl⟩ := h
          rw [encT_eq, hl, hl2]
          unfold headE
          simp [encL_nil, VT.kind, VT.num, VT.items]
      rw [if_neg h3] at h
      by_cases h45 : k = 4 ∨ k = 5
      · rw [if_pos h45] at h
        obtain ⟨⟨x, st⟩, hp⟩ : ∃ p, p = rdText 4096 (some r1) := ⟨_, rfl⟩
        rw [← hp] at h
        cases st with
        | none => cases h
        | some r2 =>
          obtain ⟨hl2, -⟩ := rdText_inv (m := 4096) (by decide) hp.symm
          simp only [Option.some.injEq, Prod.mk.injEq] at h
          obtain ⟨rfl, rfl⟩ := h
          have hk2 : ¬ (k : Int) = 2 := by omega
          have hk3 : ¬ (k : Int) = 3 := by omega
          have hk45 : (k : Int) = 4 ∨ (k : Int) = 5 := by omega
          rw [encT_eq, hl, hl2]
          unfold headE
          simp only [VT.kind, VT.num, VT.items, VT.text, VT.names, encL_nil, hk2, hk3, hk45, h0, if_false, if_true]
          simp
      rw [if_neg h45] at h
      by_cases h67 : k = 6 ∨ k = 7
      · rw [if_pos h67] at h
        obtain ⟨⟨n, st⟩, hp⟩ : ∃ p, p = rdCount 4096 (some r1) := ⟨_, rfl⟩
        rw [← hp] at h
        cases st with
        | none => cases h
        | some r2 =>
          obtain ⟨hl2, -⟩ := rdCount_inv (m := 4096) (by decide) hp.symm
          simp only at h
          cases hi : rdItems (rdW d) (decide (k = 7)) n r2 with
          | none => rw [hi] at h; cases h
          | some y =>
            obtain ⟨ts, ns, r3⟩ := y
            rw [hi] at h
            simp only [Option.some.injEq, Prod.mk.injEq] at h
            obtain ⟨rfl, rfl⟩ := h
            have hml : mayL ts = true := by rw [mayT_eq, Bool.and_eq_true] at hm; exact hm.2
            obtain ⟨e1, e2, -⟩ := rdItems_inv (decide (k = 7)) n r2 ts ns r3 (fun t l r => rdW_inv d t l r) hi hml
            have hk2 : ¬ (k : Int) = 2 := by omega
            have hk3 : ¬ (k : Int) = 3 := by omega
            have hk45 : ¬ ((k : Int) = 4 ∨ (k : Int) = 5) := by omega
            have hk67 : (k : Int) = 6 ∨ (k : Int) = 7 := by omega
            have hk7 : decide ((k : Int) = 7) = decide (k = 7) := by rw [decide_eq_decide]; omega
            rw [encT_eq, hl, hl2, ← e1]
            unfold headE
            simp only [VT.kind, VT.num, VT.items, VT.text, VT.names, hk2, hk3, hk45, hk67, h0, e2, if_false, if_true]
            simp
            congr 1
      · rw [if_neg h67] at h
        simp only [Option.some.injEq, Prod.mk.injEq] at h
        obtain ⟨rfl, rfl⟩ := h
        have hk2 : ¬ (k : Int) = 2 := by omega
        have hk3 : ¬ (k : Int) = 3 := by omega
        have hk45 : ¬ ((k : Int) = 4 ∨ (k : Int) = 5) := by omega
        have hk67 : ¬ ((k : Int) = 6 ∨ (k : Int) = 7) := by omega
        rw [encT_eq, hl]
        unfold headE
        simp only [VT.kind, VT.num, VT.items, VT.text, VT.names, encL_nil, hk2, hk3, hk45, hk67, h0, if_false, if_true]
        simp

end Go.Proofs.Ytipiplnhbecjeaa

/- What the code of a value begins with, read. No conditions on the program. -/
namespace Go.Proofs.Ytipiplnhbecjeaa
set_option linter.unusedVariables false
set_option linter.unusedSimpArgs false
open Go.RowKit

/-! ### a code is read -/
theorem rdN_code {most n : Nat} (r : List UInt8) (h : n ≤ most) (hn : n < 18446744073709551616) : rdN most (some (grp n ++ r)) = (n, some r) := by
  have hg := (grp_length n).2
  simp only [rdN, getG_grp n r hn]
  rw [if_neg (by omega), List.drop_left]
theorem rdByte_code (b : UInt8) (r : List UInt8) : rdByte (some (b :: r)) = (b.toNat, some r) := rfl
theorem rdInt_code {x : Int} (r : List UInt8) (h1 : -9223372036854775808 ≤ x) (h2 : x ≤ 9223372036854775807) : rdInt (some (grp (zig x) ++ r)) = (x, some r) := by
  have hz := zig_lt x h1 h2
  unfold rdInt
  rw [rdN_code (most := 18446744073709551615) r (by omega) hz, zag_zig]
theorem rdCount_code {m n : Nat} (r : List UInt8) (h : n ≤ m) (hm : m ≤ 4611686018427387904) : rdCount (m : Int) (some (grp n ++ r)) = (n, some r) := by
  unfold rdCount
  have e : mc (m : Int) = m := by unfold mc; rw [if_pos (by omega)]; omega
  rw [if_neg (by omega), e]
  exact rdN_code r h (by omega)
theorem rdText_code {m : Nat} {s : ByteArray} (r : List UInt8) (h : s.size ≤ m) (hm : m ≤ 4611686018427387904) : rdText (m : Int) (some (txt s ++ r)) = (s.data.toList, some r) := by
  unfold rdText txt
  have hl : s.data.toList.length = s.size := rfl
  rw [List.append_assoc, rdCount_code _ h hm]
  simp only
  by_cases h0 : s.size = 0
  · rw [if_pos h0]
    have : s.data.toList = [] := List.eq_nil_of_length_eq_zero (by omega)
    rw [this]; rfl
  · rw [if_neg h0, if_neg (by rw [List.length_append]; omega), ← hl, List.take_left, List.drop_left]
mutual
def rngT : VT → Prop
  | .mk _ i _ l _ => Rng i ∧ rngL l
def rngL : List VT → Prop
  | [] => True
  | t :: r => rngT t ∧ rngL r
end
theorem sizeT_pos (t : VT) : 1 ≤ sizeT t := by
  cases t with
  | mk k i s l ns =>
    unfold sizeT ownP
    have := (grp_length (zig i)).2
    repeat' split
    all_goals omega
theorem len_sizeL : ∀ l : List VT, l.length ≤ sizeL l
  | [] => by simp
  | t :: r => by
    have := sizeT_pos t
    have := len_sizeL r
    unfold sizeL; simp; omega
theorem text_nil {s : ByteArray} (h : s.toList = []) : s = eS := by
  rw [ByteArray.toList_eq] at h
  rw [← bsOf_of s, h]; rfl
theorem mayT_fits {t : VT} (h : mayT t = true) : fitsP t.kind t.num t.text t.items.length t.names = true ∧ mayL t.items = true := by
  rw [mayT_eq, Bool.and_eq_true] at h; exact h
/-- What values that may be look like. -/
theorem shapes {t : VT} (h : mayT t = true) : t = .mk 1 0 eS [] [] ∨ (∃ i, (i = 0 ∨ i = 1) ∧ t = .mk 2 i eS [] []) ∨ (∃ i, t = .mk 3 i eS [] []) ∨ (∃ k s, (k = 4 ∨ k = 5) ∧ t = .mk k 0 s [] []) ∨
    (∃ l, mayL l = true ∧ t = .mk 6 0 eS l []) ∨ ∃ l ns, mayL l = true ∧ ns.length = l.length ∧ distinctN ns = true ∧ t = .mk 7 0 eS l ns := by
  obtain ⟨hf, hl⟩ := mayT_fits h
  cases t with
  | mk k i s l ns =>
    simp only [VT.kind, VT.num, VT.text, VT.items, VT.names] at hf hl
    unfold fitsP at hf
    by_cases h1 : k = 1
    · rw [if_pos h1] at hf
      simp only [Bool.and_eq_true, decide_eq_true_eq, beq_iff_eq] at hf
      obtain ⟨⟨h2, h3⟩, h4, h5⟩ := hf
      rw [List.eq_nil_of_length_eq_zero h4, List.eq_nil_of_length_eq_zero h5, text_nil h3, h2, h1]; exact .inl rfl
    rw [if_neg h1] at hf
    by_cases h1 : k = 2
    · rw [if_pos h1] at hf
      simp only [Bool.and_eq_true, Bool.or_eq_true, decide_eq_true_eq, beq_iff_eq] at hf
      obtain ⟨⟨h2, h3⟩, h4, h5⟩ := hf
      rw [List.eq_nil_of_length_eq_zero h4, List.eq_nil_of_length_eq_zero h5, text_nil h3, h1]; exact .inr (.inl ⟨i, h2, rfl⟩)
    rw [if_neg h1] at hf
    by_cases h1 : k = 3
    · rw [if_pos h1] at hf
      simp only [Bool.and_eq_true, decide_eq_true_eq, beq_iff_eq] at hf
      obtain ⟨h3, h4, h5⟩ := hf
      rw [List.eq_nil_of_length_eq_zero h4, List.eq_nil_of_length_eq_zero h5, text_nil h3, h1]; exact .inr (.inr (.inl ⟨i, rfl⟩))
    rw [if_neg h1] at hf
    by_cases h1 : k = 4 ∨ k = 5
    · rw [if_pos h1] at hf
      simp only [Bool.and_eq_true, decide_eq_true_eq, beq_iff_eq] at hf
      obtain ⟨h3, h4, h5⟩ := hf
      rw [List.eq_nil_of_length_eq_zero h4, List.eq_nil_of_length_eq_zero h5, h3]; exact .inr (.inr (.inr (.inl ⟨k, s, h1, rfl⟩)))
    rw [if_neg h1] at hf
    by_cases h1 : k = 6
    · rw [if_pos h1] at hf
      simp only [Bool.and_eq_true, decide_eq_true_eq, beq_iff_eq] at hf
      obtain ⟨⟨h2, h3⟩, h5⟩ := hf
      rw [List.eq_nil_of_length_eq_zero h5, text_nil h3, h2, h1]; exact .inr (.inr (.inr (.inr (.inl ⟨l, hl, rfl⟩))))
    rw [if_neg h1] at hf
    by_cases h1 : k = 7
    · rw [if_pos h1] at hf
      simp only [Bool.and_eq_true, decide_eq_true_eq, beq_iff_eq] at hf
      obtain ⟨⟨⟨h2, h3⟩, h5⟩, h6⟩ := hf
      rw [text_nil h3, h2, h1]; exact .inr (.inr (.inr (.inr (.inr ⟨l, ns, hl, h5, h6, rfl⟩))))
    rw [if_neg h1] at hf; cases hf
theorem rdItems_code {f : List UInt8 → Option (VT × List UInt8)} (d : Bool) : ∀ (ts : List VT) (ns : List ByteArray) (r : List UInt8),
    (∀ t ∈ ts, ∀ r, f (encT t ++ r) = some (t, r)) → (if d then ns.length = ts.length ∧ ∀ s ∈ ns, s.size ≤ 32 else ns = []) → rdItems f d ts.length (encL d ns ts ++ r) = some (ts, ns, r)
  | [], ns, r, hf, hn => by
    rw [encL_nil]
    have : ns = [] := by
      cases d
      · exact hn
      · simp only [if_true] at hn; exact List.eq_nil_of_length_eq_zero hn.1
    subst this; rfl
  | t :: ts, ns, r, hf, hn => by
    cases d with
    | false =>
      simp only [Bool.false_eq_true, if_false] at hn
      subst hn
      unfold encL
      simp only [List.length_cons, rdItems, Bool.false_eq_true, if_false, List.nil_append, List.append_assoc]
      rw [hf t (List.mem_cons_self ..)]
      simp only
      have h2 := rdItems_code false ts [] r (fun t ht => hf t (List.mem_cons_of_mem _ ht)) rfl
      simp only [List.tail_nil]
      rw [h2]
    | true =>
      simp only [if_true] at hn
      match ns, hn with
      | n :: ns, hn =>
        unfold encL
        simp only [List.length_cons, rdItems, if_true, List.append_assoc, List.headD_cons, List.tail_cons]
        have hn0 := rdText_code (m := 32) (s := n) (encT t ++ (encL true ns ts ++ r)) (hn.2 n (List.mem_cons_self ..)) (by decide)
        have hn1 : rdText 32 (some (txt n ++ (encT t ++ (encL true ns ts ++ r)))) = (n.data.toList, some (encT t ++ (encL true ns ts ++ r))) := hn0
        rw [hn1]
        simp only
        rw [hf t (List.mem_cons_self ..)]
        simp only
        rw [rdItems_code true ts ns r (fun t ht => hf t (List.mem_cons_of_mem _ ht)) ⟨by simpa using hn.1, fun s hs => hn.2 s (List.mem_cons_of_mem _ hs)⟩]
        simp only [bsOf_of]
theorem rngL_mem : ∀ {l : List VT}, rngL l → ∀ t ∈ l, rngT t
  | a :: r, h, t, ht => by
    unfold rngL at h
    rcases List.mem_cons.1 ht with rfl | ht
    · exact h.1
    · exact rngL_mem h.2 t ht
theorem sizeL_mem : ∀ {l : List VT} {t : VT}, t ∈ l → sizeT t ≤ sizeL l
  | a :: r, t, ht => by
    unfold sizeL
    rcases List.mem_cons.1 ht with rfl | ht
    · omega
    · have := sizeL_mem ht; omega
theorem dist_size : ∀ {ns : List ByteArray}, distinctN ns = true → ∀ s ∈ ns, s.size ≤ 32
  | a :: r, h, s, hs => by
    unfold distinctN at h
    simp only [Bool.and_eq_true] at h
    rcases List.mem_cons.1 hs with rfl | hs
    · exact ((nameB_iff s).1 h.1.1).2.1
    · exact dist_size h.2 s hs
end Go.Proofs.Ytipiplnhbecjeaa

/- The code of a value is read as that value; what is decoded. No conditions on the program. -/
namespace Go.Proofs.Ytipiplnhbecjeaa
set_option linter.unusedVariables false
set_option linter.unusedSimpArgs false
open Go.RowKit

set_option maxHeartbeats 1000000 in
theorem rdW_code : ∀ (d : Nat) (t : VT) (r : List UInt8), mayT t = true → rngT t → depthT t ≤ d → sizeT t ≤ 4096 → rdW d (encT t ++ r) = some (t, r)
  | 0, t, r, _, _, hd, _ => by cases t; rw [depthT_mk] at hd; omega
  | d + 1, t, r, hm, hr, hd, hs => by
    rcases shapes hm with rfl | ⟨i, hi, rfl⟩ | ⟨i, rfl⟩ | ⟨k, s, hk, rfl⟩ | ⟨l, hl, rfl⟩ | ⟨l, ns, hl, hn, hdn, rfl⟩
    · rfl
    · rcases hi with rfl | rfl <;> rfl
    · rw [encT_eq]
      unfold headE rngT at *
      simp only [VT.kind, VT.num, VT.items, VT.names, VT.text, encL_nil, List.append_nil]
      show rdW (d + 1) (3 :: (grp (zig i) ++ r)) = _
      unfold rdW
      rw [rdByte_code]
      simp only [show (3 : UInt8).toNat = 3 from rfl]
      rw [rdInt_code r hr.1.1 hr.1.2]
      simp
    · have hsz : s.size ≤ 4096 := by
        unfold sizeT ownP at hs
        have : tsz s = (grp s.size).length + s.size := rfl
        rcases hk with rfl | rfl <;> simp at hs <;> omega
      have ht := rdText_code (m := 4096) (s := s) r hsz (by decide)
      rw [encT_eq]
      rcases hk with rfl | rfl
      · show rdW (d + 1) (4 :: ((txt s ++ []) ++ r)) = _
        rw [List.append_nil]
        unfold rdW
        rw [rdByte_code]
        simp only [show (4 : UInt8).toNat = 4 from rfl]
        have ht' : rdText 4096 (some (txt s ++ r)) = (s.data.toList, some r) := ht
        rw [ht']
        simp [bsOf_of]
      · show rdW (d + 1) (5 :: ((txt s ++ []) ++ r)) = _
        rw [List.append_nil]
        unfold rdW
        rw [rdByte_code]
        simp only [show (5 : UInt8).toNat = 5 from rfl]
        have ht' : rdText 4096 (some (txt s ++ r)) = (s.data.toList, some r) := ht
        rw [ht']
        simp [bsOf_of]
    · have hsl : sizeL l ≤ 4096 := by unfold sizeT at hs; omega
      have hll := len_sizeL l
      rw [depthT_mk] at hd
      unfold rngT at hr
      have hc : rdCount 4096 (some (grp l.length ++ (encL false [] l ++ r))) = (l.length, some (encL false [] l ++ r)) := rdCount_code (m := 4096) _ (by omega) (by decide)
      have hi := rdItems_code (f := rdW d) false l [] r (fun t ht r => rdW_code d t r (mayL_mem hl ht) (rngL_mem hr.2 t ht) (by have := depthL_le ht; omega) (by have := sizeL_mem ht; omega)) rfl
      rw [encT_eq]
      show rdW (d + 1) (6 :: ((grp l.length ++ encL false [] l) ++ r)) = _
      rw [List.append_assoc]
      unfold rdW
      rw [rdByte_code]
      simp only [show (6 : UInt8).toNat = 6 from rfl]
      rw [hc]
      simp [hi]
    · have hsl : sizeL l ≤ 4096 := by unfold sizeT at hs; omega
      have hll := len_sizeL l
      rw [depthT_mk] at hd
      unfold rngT at hr
      have hc : rdCount 4096 (some (grp l.length ++ (encL true ns l ++ r))) = (l.length, some (encL true ns l ++ r)) := rdCount_code (m := 4096) _ (by omega) (by decide)
      have hi := rdItems_code (f := rdW d) true l ns r (fun t ht r => rdW_code d t r (mayL_mem hl ht) (rngL_mem hr.2 t ht) (by have := depthL_le ht; omega) (by have := sizeL_mem ht; omega)) ⟨hn, dist_size hdn⟩
      rw [encT_eq]
      show rdW (d + 1) (7 :: ((grp l.length ++ encL true ns l) ++ r)) = _
      rw [List.append_assoc]
      unfold rdW
      rw [rdByte_code]
      simp only [show (7 : UInt8).toNat = 7 from rfl]
      rw [hc]
      simp [hi]
end Go.Proofs.Ytipiplnhbecjeaa
