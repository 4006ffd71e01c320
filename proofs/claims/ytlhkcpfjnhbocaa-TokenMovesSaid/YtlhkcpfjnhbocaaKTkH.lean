/- Rows of entries, put behind one another. -/
import Derived.Test.YtlhkcpfjnhbocaaKTkG
import Derived.Test.YtlhkcpfjnhbocaaKAppW
import Derived.Test.YtlhkcpfjnhbocaaKOpenN
import Derived.Laws.AppendOwnNone
namespace Go.Proofs.Ytlhkcpfjnhbocaa
set_option linter.unusedVariables false
set_option linter.unusedSimpArgs false
open Go.RowKit
set_option maxRecDepth 100000
theorem Try.infoEnt : (Try.prog.info? 53).map (fun i => (i.zero, i.size, i.bytes)) = some (some (.agg #[.int .i64 0, .int .i64 0, .string ⟨#[]⟩, .string ⟨#[]⟩, .int .i64 0, .int .i64 0, .string ⟨#[]⟩, .slice none 0 0, .slice none 0 0, .int .i64 0, .int .i64 0, .string ⟨#[]⟩, .slice none 0 0, .slice none 0 0, .slice none 0 0, .int .i64 0, .int .i64 0]), 17, 248) := by kernel_rfl
/-- A row of entries of the call's own, by their terms. -/
def OwnE (w : World) (B : Nat) (v : Value) (ts : List Int) : Prop := ∃ cs : List (Array Value), cs.length = ts.length ∧ (∀ i (h : i < ts.length) (h' : i < cs.length), EntL ts[i] cs[i]) ∧ w.ownsRow B 53 17 v ts.length (cs.flatMap (·.toList))
theorem flat_len : ∀ (cs : List (Array Value)), (∀ c ∈ cs, c.size = 17) → (cs.flatMap (·.toList)).length = cs.length * 17
  | [], _ => rfl
  | c :: r, h => by
    rw [List.flatMap_cons, List.length_append, flat_len r fun c hc => h c (List.mem_cons_of_mem _ hc), List.length_cons]
    have := h c (List.mem_cons_self ..)
    simp only [Array.length_toList]
    omega
theorem flat_at : ∀ (cs : List (Array Value)), (∀ c ∈ cs, c.size = 17) → ∀ k u, (cs.flatMap (·.toList))[k]? = some u → ∃ (i : Nat) (h : i < cs.length) (j : Nat), k = i * 17 + j ∧ j < 17 ∧ cs[i][j]? = some u
  | [], _, k, u, hk => by simp at hk
  | c :: r, h, k, u, hk => by
    have hc := h c (List.mem_cons_self ..)
    rw [List.flatMap_cons] at hk
    by_cases hlt : k < 17
    · rw [List.getElem?_append_left (by simp; omega)] at hk
      exact ⟨0, by simp, k, by omega, hlt, by simpa using hk⟩
    · rw [List.getElem?_append_right (by simp; omega)] at hk
      obtain ⟨i, hi, j, h1, h2, h3⟩ := flat_at r (fun c hc => h c (List.mem_cons_of_mem _ hc)) (k - c.toList.length) u hk
      simp only [Array.length_toList] at h1
      exact ⟨i + 1, by simpa using hi, j, by omega, h2, by simpa using h3⟩
theorem at_flat : ∀ (cs : List (Array Value)), (∀ c ∈ cs, c.size = 17) → ∀ i (h : i < cs.length) j u, cs[i][j]? = some u → (cs.flatMap (·.toList))[i * 17 + j]? = some u
  | [], _, i, h, j, u, _ => absurd h (by simp)
  | c :: r, hs, i, h, j, u, hu => by
    have hc := hs c (List.mem_cons_self ..)
    rw [List.flatMap_cons]
    cases i with
    | zero =>
      have hj : j < 17 := by have := (Array.getElem?_eq_some_iff.1 hu).1; simp at this; omega
      rw [Nat.zero_mul, Nat.zero_add, List.getElem?_append_left (by simp; omega)]
      simpa using hu
    | succ i =>
      rw [List.getElem?_append_right (by simp; omega)]
      have := at_flat r (fun c hc => hs c (List.mem_cons_of_mem _ hc)) i (by simpa using h) j u (by simpa using hu)
      simp only [Array.length_toList]
      rw [show (i + 1) * 17 + j - c.size = i * 17 + j by omega]
      exact this
theorem EntL.all {ts : List Int} {cs : List (Array Value)} (hl : cs.length = ts.length) (h : ∀ i (h : i < ts.length) (h' : i < cs.length), EntL ts[i] cs[i]) : ∀ c ∈ cs, c.size = 17 := fun c hc => by
  obtain ⟨i, hi, rfl⟩ := List.mem_iff_getElem.1 hc
  exact (h i (by omega) hi).1
theorem OwnE.nil (w : World) : OwnE (w.alloc (.cells #[] 53)) w.heap.size (.slice (some ⟨w.heap.size, 0, none⟩) 0 0) [] :=
  ⟨[], rfl, fun i h => absurd h (by simp), ⟨rfl, .inr ⟨_, 0, #[], rfl, Nat.le_refl _, heap_alloc_new w _, Nat.le_refl _, by decide, rfl, rfl⟩⟩⟩
theorem OwnE.terms {w : World} {B : Nat} {v : Value} {ts : List Int} (h : OwnE w B v ts) : ∃ A c, v = .slice A ts.length c ∧ ts.length ≤ c ∧ TermsAt w w.heap.size A ts := by
  obtain ⟨cs, h1, h2, h3⟩ := h
  have hc := fun g hg => World.ownsRow.cells (g := g) h3 hg
  have hlt := World.ownsRow.lt h3
  have hs := EntL.all h1 h2
  rcases h3.2 with ⟨rfl, h0⟩ | ⟨g, cap, cur, rfl, hB, hh, hcap, hm, -⟩
  · have hl : ts = [] := List.eq_nil_of_length_eq_zero h0
    subst hl
    exact ⟨none, 0, rfl, Nat.le_refl _, TermsAt.nil _ _ _⟩
  · refine ⟨some ⟨g, 0, none⟩, cap, rfl, hcap, fun hp => ⟨g, 0, rfl, (hlt g rfl).2, fun i hi => ?_⟩⟩
    have h4 := at_flat cs hs i (by omega) 0 _ (h2 i hi (by omega)).2.1
    have h5 := hc g rfl (i * 17) (.int .i64 ts[i]) h4
    rw [addr_addN] at h5
    exact h5
/-- An append of entries to a row of the call's own. -/
theorem append_ents {w : World} {ops : Array Oper} {rest : List Oper} {o : Oper} {a : Act} {Q : Exit → Act → World → Prop} (hgd : o.guard = none) (s x : Operand)
    (ho : o.op = .call { callee := .builtin .append, args := #[s, x], argTypes := #[45, 45] }) (B : Nat) (v : Value) (ts : List Int) (hs : a.eval s = v) (hown : OwnE w B v ts)
    (D : Nat) (A : Option Addr) (c : Nat) (us : List Int) (ds : List (Array Value)) (hx : a.eval x = .slice A us.length c) (hrd : EntsAt w D A us ds) (hA : A = none → c = 0) (hB : B ≤ w.heap.size) (hl : ts.length + us.length ≤ 1000)
    (K : ∀ v' w', OwnE w' B v' (ts ++ us) → w.grownBy w' v.ownBlock → wpList Try.prog ops Q rest (a.put o.dst v') w') : wpList Try.prog ops Q (o :: rest) a w := by
  obtain ⟨i0, hi, hz0, hz1, hz2⟩ := info_parts Try.infoEnt
  obtain ⟨cs, h1, h2, h3⟩ := hown
  have hss := EntL.all h1 h2
  obtain ⟨e1, e2⟩ := hrd
  cases A with
  | none =>
    have hm : us = [] := by
      match us, e2 with
      | [], _ => rfl
      | b :: r, e2 => obtain ⟨_, _, h, _⟩ := e2 (by simp); cases h
    subst hm
    obtain rfl := hA rfl
    refine wpList_append_own_none hgd s x 45 ho B 53 i0 17 Try.underlying45 hi v ts.length _ hs h3 hx ?_
    refine K v w ?_ ⟨rfl, rfl, rfl, Nat.le_refl _, fun _ _ _ => rfl⟩
    rw [List.append_nil]
    exact ⟨cs, h1, h2, h3⟩
  | some ad =>
    have hent : 0 < us.length → ∃ b off, ad = ⟨b, off, none⟩ ∧ ∀ i (h : i < us.length) (h' : i < ds.length), EntL us[i] ds[i] ∧ ∀ j v, ds[i][j]? = some v → w.cell? ⟨b, off + i * 17 + j, none⟩ = some v := fun hp => by
      obtain ⟨b, off, hAd, -, hc⟩ := e2 hp
      injection hAd with hAd
      exact ⟨b, off, hAd, hc⟩
    have hds : ∀ c ∈ ds, c.size = 17 := fun c hc => by
      obtain ⟨i, hi, rfl⟩ := List.mem_iff_getElem.1 hc
      obtain ⟨b, off, -, h⟩ := hent (by omega)
      exact (h i (by omega) hi).1.1
    refine wpList_append_own _ hgd s x 45 ho B 53 i0 (.agg #[.int .i64 0, .int .i64 0, .string ⟨#[]⟩, .string ⟨#[]⟩, .int .i64 0, .int .i64 0, .string ⟨#[]⟩, .slice none 0 0, .slice none 0 0, .int .i64 0, .int .i64 0, .string ⟨#[]⟩, .slice none 0 0, .slice none 0 0, .slice none 0 0, .int .i64 0, .int .i64 0]) 17 248 Try.underlying45 hi hz0 hz1 hz2 rfl (by decide) v ts.length _ hs h3 ad us.length c (ds.flatMap (·.toList)) hx (by rw [flat_len ds hds, e1]) ?_ ?_ (by unfold maxLen; omega) (by omega) hB ?_
    · intro k u hk
      obtain ⟨i, hi', j, rfl, hj, hu⟩ := flat_at ds hds k u hk
      obtain ⟨b, off, rfl, h⟩ := hent (by omega)
      rw [addr_addN, ← Nat.add_assoc]
      exact (h i (by omega) hi').2 j u hu
    · intro u hu
      obtain ⟨c, hc, hu2⟩ := List.mem_flatMap.1 hu
      obtain ⟨i, hi', rfl⟩ := List.mem_iff_getElem.1 hc
      obtain ⟨b, off, -, h⟩ := hent (by omega)
      exact (h i (by omega) hi').1.2.2.1 u hu2
    · intro v' w' h4 h5 _
      refine K v' w' ⟨cs ++ ds, by rw [List.length_append, List.length_append, h1, e1], fun i hi hi' => ?_, ?_⟩ h5
      · by_cases hlt : i < ts.length
        · rw [List.getElem_append_left hlt, List.getElem_append_left (by omega)]
          exact h2 i hlt (by omega)
        · rw [List.getElem_append_right (by omega), List.getElem_append_right (by omega)]
          rw [List.length_append] at hi
          obtain ⟨b, off, -, h⟩ := hent (by omega)
          have := (h (i - ts.length) (by omega) (by omega)).1
          have e : i - cs.length = i - ts.length := by omega
          simp only [e]
          exact this
      · rw [List.length_append, List.flatMap_append]
        exact h4
theorem below_ownE {a w w' : World} {B : Nat} {v : Value} {ts : List Int} (hb : Below B a w) (h : OwnE w B v ts) (hB : B ≤ w.heap.size) (hg : w.grownBy w' v.ownBlock) : Below B a w' := by
  obtain ⟨cs, -, -, h3⟩ := h
  exact hb.grown hg hB (fun k hk => (World.ownsRow.lt h3 k hk).1)
end Go.Proofs.Ytlhkcpfjnhbocaa
