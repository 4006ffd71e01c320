/- Lists of bodies; which frames stand, by the document. -/
import Derived.Test.YtflkaladkbkbgaaGreatKFrmD
import Derived.Test.YtflkaladkbkbgaaGreatKOpenS
import Derived.Test.YtflkaladkbkbgaaGreatKReg
namespace Go.Proofs.YtflkaladkbkbgaaGreat
set_option linter.unusedVariables false
set_option linter.unusedSimpArgs false
open Go.RowKit

/-- A slice value that reads as l, in blocks of S. -/
def RdS (w : World) (S : Nat → Prop) (v : Value) (l : List UInt8) : Prop :=
  ∃ (A : Option Addr) (cap : Nat), v = .slice A l.length cap ∧ l.length ≤ cap ∧ (cap ≤ 9223372036854775807 ∧ (A = none → cap = 0)) ∧
    (0 < l.length → ∃ b off, A = some ⟨b, off, none⟩ ∧ S b ∧ ∀ i (h : i < l.length), w.cell? ⟨b, off + i, none⟩ = some (.int .u8 (l[i].toNat : Int)))
theorem RdS.keep {w w' : World} {S : Nat → Prop} {v : Value} {l : List UInt8} (h : RdS w S v l) (hk : ∀ b, S b → w'.heap[b]? = w.heap[b]?) : RdS w' S v l := by
  obtain ⟨A, cap, hv, hc, hm, h1⟩ := h
  refine ⟨A, cap, hv, hc, hm, fun hl => ?_⟩
  obtain ⟨b, off, hA, hS, hcell⟩ := h1 hl
  exact ⟨b, off, hA, hS, fun i hi => (World.cell?_of_block (a := ⟨b, off + i, none⟩) (hk b hS)).trans (hcell i hi)⟩
theorem RdS.imp {w : World} {S T : Nat → Prop} {v : Value} {l : List UInt8} (h : RdS w S v l) (hk : ∀ b, S b → T b) : RdS w T v l := by
  obtain ⟨A, cap, hv, hc, hm, h1⟩ := h
  refine ⟨A, cap, hv, hc, hm, fun hl => ?_⟩
  obtain ⟨b, off, hA, hS, hcell⟩ := h1 hl
  exact ⟨b, off, hA, hk b hS, hcell⟩
theorem RdS.rd {w : World} {S : Nat → Prop} {B : Nat} {v : Value} {l : List UInt8} (h : RdS w S v l) (hk : ∀ b, S b → b < B) : Rd w B v l := h.imp (T := fun b => b < B) hk
theorem OwnB.rds {w : World} {B : Nat} {v : Value} {l : List UInt8} (h : OwnB w B v l) : RdS w (fun b => B ≤ b ∧ b < w.heap.size ∧ v.ownBlock = some b) v l := by
  have hc := fun g hg => World.ownsRow.cells (g := g) h hg
  have hlt := World.ownsRow.lt h
  rcases h.2 with ⟨rfl, h0⟩ | ⟨g, cap, cur, rfl, hB, hh, hcap, hm, -⟩
  · have hl : l = [] := List.eq_nil_of_length_eq_zero h0
    subst hl
    exact ⟨none, 0, rfl, Nat.le_refl _, ⟨by omega, fun _ => rfl⟩, fun h => absurd h (by simp)⟩
  · refine ⟨some ⟨g, 0, none⟩, cap, rfl, hcap, ⟨by unfold maxLen at hm; omega, fun h => by cases h⟩, fun hp => ⟨g, 0, rfl, ⟨hB, (hlt g rfl).2, rfl⟩, fun i hi => ?_⟩⟩
    have h1 := hc g rfl i (.int .u8 (l[i].toNat : Int)) (by simp [bcells, hi])
    rw [addr_addY] at h1
    exact h1

/-- A row of bodies of the call's own, and bodies that lie apart from it. -/
def Bods (w : World) (B : Nat) (v : Value) (ls : List (List UInt8)) : Prop :=
  ∃ vs : List Value, vs.length = ls.length ∧ w.ownsRow B 33 1 v ls.length vs ∧ ∀ i (h : i < ls.length) (h' : i < vs.length), RdS w (fun b => B ≤ b ∧ b < w.heap.size ∧ v.ownBlock ≠ some b) vs[i] ls[i]
theorem Bods.nil (w : World) (B : Nat) : Bods w B (.slice none 0 0) [] := ⟨[], rfl, World.ownsRow_nil _ _ _ _, fun i h => absurd h (by simp)⟩
theorem ownsRow_below {w w' : World} {B : Nat} {t : TypeId} {k : Nat} {v : Value} {n : Nat} {xs : List Value} (h : w.ownsRow B t k v n xs) (hb : Below w.heap.size w w') : w'.ownsRow B t k v n xs := by
  obtain ⟨h1, h2⟩ := h
  refine ⟨h1, ?_⟩
  rcases h2 with h2 | ⟨g, cap, cur, hv, hg, hh, r⟩
  · exact Or.inl h2
  · refine Or.inr ⟨g, cap, cur, hv, hg, ?_, r⟩
    have hlt : g < w.heap.size := (Array.getElem?_eq_some_iff.1 hh).1
    rw [hb.block g hlt]; exact hh
theorem Bods.below {w w' : World} {B : Nat} {v : Value} {ls : List (List UInt8)} (h : Bods w B v ls) (hb : Below w.heap.size w w') : Bods w' B v ls := by
  obtain ⟨vs, h1, h2, h3⟩ := h
  refine ⟨vs, h1, ownsRow_below h2 hb, fun i hi hi' => ?_⟩
  exact ((h3 i hi hi').keep fun b hb' => hb.block b hb'.2.1).imp fun b hb' => ⟨hb'.1, Nat.lt_of_lt_of_le hb'.2.1 hb.size, hb'.2.2⟩
theorem Bods.shape {w : World} {B : Nat} {v : Value} {ls : List (List UInt8)} (h : Bods w B v ls) : ∃ A c, v = .slice A ls.length c ∧ (A = none → c = 0) ∧ ls.length ≤ c := by
  obtain ⟨vs, h1, h2, -⟩ := h
  rcases h2.2 with ⟨rfl, h0⟩ | ⟨g, cap, cur, rfl, -, -, hc, -⟩
  · exact ⟨none, 0, by rw [h0], fun _ => rfl, by omega⟩
  · exact ⟨_, cap, rfl, (fun h => by cases h), hc⟩
/-- As rows that lie below the end. -/
theorem Bods.at {w : World} {B : Nat} {v : Value} {ls : List (List UInt8)} {A : Option Addr} {n c : Nat} (h : Bods w B v ls) (hv : v = .slice A n c) : BssAt w w.heap.size A ls := by
  obtain ⟨vs, h1, h2, h3⟩ := h
  intro hp
  rcases h2.2 with ⟨rfl, h0⟩ | ⟨g, cap, cur, hv2, hB, hh, hc, -⟩
  · omega
  · have hcell := fun i u hu => World.ownsRow.cells (g := g) h2 (by rw [hv2]; rfl) i u hu
    rw [hv2] at hv
    injection hv with hA _ _
    subst hA
    refine ⟨g, 0, rfl, (Array.getElem?_eq_some_iff.1 hh).1, fun i hi => ⟨vs[i]'(by omega), ?_, (h3 i hi (by omega)).rd fun b hb => hb.2.1⟩⟩
    have := hcell i (vs[i]'(by omega)) (List.getElem?_eq_getElem (by omega))
    rw [addr_addY] at this
    exact this

theorem Tryz.infoBs : (Tryz.prog.info? 33).map (fun i => (i.zero, i.size, i.bytes)) = some (some (.slice none 0 0), 1, 24) := by kernel_rfl
set_option maxRecDepth 100000 in
/-- One more body, at the end. -/
theorem append_body {w : World} {ops : Array Oper} {rest : List Oper} {o : Oper} {a : Act} {Q : Exit → Act → World → Prop} (hgd : o.guard = none) (s x : Operand)
    (ho : o.op = .call { callee := .builtin .append, args := #[s, x], argTypes := #[39, 39] }) (B : Nat) (v : Value) (ls : List (List UInt8)) (hs : a.eval s = v) (h : Bods w B v ls)
    (g : Nat) (u : Value) (l : List UInt8) (hx : a.eval x = .slice (some ⟨g, 0, none⟩) 1 1) (hc : w.cell? ⟨g, 0, none⟩ = some u) (hu : RdS w (fun b => B ≤ b ∧ b < w.heap.size ∧ v.ownBlock ≠ some b) u l)
    (hB : B ≤ w.heap.size) (hn : (ls.length + 1) * 24 ≤ 140737488355328)
    (K : ∀ v' w', Bods w' B v' (ls ++ [l]) → w.grownBy w' v.ownBlock → wpList Tryz.prog ops Q rest (a.put o.dst v') w') : wpList Tryz.prog ops Q (o :: rest) a w := by
  obtain ⟨i0, hi, hz0, hz1, hz2⟩ := info_parts Tryz.infoBs
  obtain ⟨vs, h1, h2, h3⟩ := h
  have hu1 : u.oneCell' = true := by obtain ⟨A, cap, rfl, -⟩ := hu; rfl
  refine wpList_plain hgd fun _ hK => wp_append_moved w s x 39 ho B 33 i0 (.slice none 0 0) 1 24 Tryz.underlying39 hi hz0 hz1 hz2 rfl (by decide) v ls.length vs hs h2 ⟨g, 0, none⟩ 1 1 [u] hx rfl ?_ ?_ (by unfold maxLen; omega) hn hB fun v' w' k1 k2 k3 => hK _ _ (K v' w' ?_ k2)
  · intro j y hj
    match j, hj with
    | 0, hj => simp at hj; subst hj; exact hc
    | j + 1, hj => simp at hj
  · intro y hy; simp at hy; subst hy; exact hu1
  · have hsame : ∀ b, b < w.heap.size → v.ownBlock ≠ some b → w'.heap[b]? = w.heap[b]? := fun b hb hne => k2.block b hb fun e => hne e.symm
    have hap : ∀ b, (B ≤ b ∧ b < w.heap.size ∧ v.ownBlock ≠ some b) → (B ≤ b ∧ b < w'.heap.size ∧ v'.ownBlock ≠ some b) := fun b ⟨p1, p2, p3⟩ => by
      refine ⟨p1, Nat.lt_of_lt_of_le p2 k2.size, ?_⟩
      rcases k3 with e | ⟨q, hq, e⟩
      · rw [e]; exact p3
      · rw [e]; intro h; injection h; omega
    refine ⟨vs ++ [u], by simp [h1], by simpa using k1, fun i hi hi' => ?_⟩
    by_cases hlt : i < ls.length
    · have e1 : (vs ++ [u])[i] = vs[i]'(by omega) := List.getElem_append_left (by omega)
      have e2 : (ls ++ [l])[i] = ls[i] := List.getElem_append_left hlt
      rw [e1, e2]
      exact ((h3 i hlt (by omega)).keep fun b hb => hsame b hb.2.1 hb.2.2).imp hap
    · have hi2 : i = ls.length := by simp at hi; omega
      subst hi2
      have e1 : (vs ++ [u])[ls.length]'hi' = u := by rw [List.getElem_append_right (by omega)]; simp [h1]
      have e2 : (ls ++ [l])[ls.length] = l := by rw [List.getElem_append_right (by omega)]; simp
      rw [e1, e2]
      exact (hu.keep fun b hb => hsame b hb.2.1 hb.2.2).imp hap

/-- The frames that stand: their bodies, and how many bytes they have. -/
inductive ScanR : List UInt8 → List (List UInt8) → Nat → Prop
  | stop {l : List UInt8} : nextF l = none → ScanR l [] 0
  | step {l b : List UInt8} {k m : Nat} {bs : List (List UInt8)} : nextF l = some (b, k) → ScanR (l.drop k) bs m → ScanR l (b :: bs) (k + m)
theorem ScanR.unique {l : List UInt8} {bs : List (List UInt8)} {m : Nat} (h : ScanR l bs m) : ∀ {cs n}, ScanR l cs n → bs = cs ∧ m = n := by
  induction h with
  | stop h =>
    intro cs n k
    cases k with
    | stop _ => exact ⟨rfl, rfl⟩
    | step k _ => rw [h] at k; cases k
  | step h _ ih =>
    intro cs n k
    cases k with
    | stop k => rw [h] at k; cases k
    | step k k2 =>
      rw [h] at k
      injection k with k
      injection k with e1 e2
      subst e1 e2
      obtain ⟨rfl, rfl⟩ := ih k2
      exact ⟨rfl, rfl⟩
theorem nextF_le {l b : List UInt8} {k : Nat} (h : nextF l = some (b, k)) : 5 ≤ k ∧ k ≤ l.length ∧ b.length + 5 ≤ k ∧ b.length ≤ 65536 := by
  rcases hr : rdCount 65536 (some l) with ⟨n, _ | r⟩
  · rw [nextF_bad (by rw [hr])] at h; cases h
  · rw [nextF_some hr] at h
    obtain ⟨j, hj1, hj2, hrj⟩ := rdCount_suffix hr
    have hn := rdCount_le 65536 (some l) (by omega)
    rw [show ((65536 : Nat) : Int) = (65536 : Int) from rfl, hr] at hn
    have hrl : r.length = l.length - j := by rw [hrj, List.length_drop]
    split at h
    · cases h
    · split at h
      · injection h with h
        injection h with h1 h2
        have h3 : b.length ≤ n := by rw [← h1, List.length_take]; omega
        simp only at hn
        omega
      · cases h
end Go.Proofs.YtflkaladkbkbgaaGreat

/- Which frames stand, by the document; whether two lists of bodies are the same. -/
namespace Go.Proofs.YtflkaladkbkbgaaGreat
set_option linter.unusedVariables false
set_option linter.unusedSimpArgs false
open Go.RowKit

/-- An answer of bodies in a row of its own, and a number. -/
def ScansR (ls : List (List UInt8)) (n : Nat) (w : World) (e : Ending) (w' : World) : Prop := ∃ v, e = .returned (.tuple #[v, .int .i64 n]) ∧ Bods w' w.heap.size v ls ∧ Below w.heap.size w w'


theorem take_all_eq {a b : List (List UInt8)} {k : Nat} (hl : a.length = b.length) (hk : k = a.length) (h : a.take k = b.take k) : a = b := by
  subst hk
  rw [List.take_of_length_le (Nat.le_refl _), List.take_of_length_le (by omega)] at h
  exact h
theorem take_more_eq {a b : List (List UInt8)} {k : Nat} (h1 : k < a.length) (h2 : k < b.length) (h : a.take k = b.take k) (he : a[k] = b[k]) : a.take (k + 1) = b.take (k + 1) := by
  rw [List.take_succ_eq_append_getElem h1, List.take_succ_eq_append_getElem h2, h, he]

end Go.Proofs.YtflkaladkbkbgaaGreat
