/- The document's own images: a list of all that was noted; what lies in the heap. -/
import Derived.Test.YtdggeokpnaopiaaKImK
import Derived.Test.YtdggeokpnaopiaaKRegB
import Derived.Test.YtdggeokpnaopiaaKOpen
import Derived.Laws.OwnMore
namespace Go.Proofs.Ytdggeokpnaopiaa
set_option linter.unusedVariables false
set_option linter.unusedSimpArgs false
open Go.RowKit
set_option maxRecDepth 100000
theorem Try.infoOne : (Try.prog.info? 71).map (fun i => (i.zero, i.size, i.bytes)) = some (some (.agg #[.bool false, .int .i64 0, .int .i64 0, .string ⟨#[]⟩, .slice none 0 0, .slice none 0 0]), 6, 88) := by kernel_rfl
/-- What was noted, in its order. -/
structure RefI where
  keep : Int
  base : Int
  l : List (Option VT)
def RefI.top (r : RefI) : Int := r.base + r.l.length
/-- One that was noted, or none, in its six cells. -/
def OneL (w : World) (S : Nat → Prop) (o : Option VT) (cs : List Value) : Prop :=
  match o with
  | none => cs = [.bool false, .int .i64 0, .int .i64 0, .string eS, .slice none 0 0, .slice none 0 0]
  | some t => ∃ a b c d e, cs = [.bool true, a, b, c, d, e] ∧ LV w S t (.agg #[a, b, c, d, e])
def OnesL (w : World) (S : Nat → Prop) : List (Option VT) → List Value → Prop
  | [], xs => xs = []
  | o :: l, xs => ∃ c r, xs = c ++ r ∧ OneL w S o c ∧ OnesL w S l r
section
variable {w w' : World} {S S' : Nat → Prop}
theorem OneL.len {o : Option VT} {cs : List Value} (h : OneL w S o cs) : cs.length = 6 := by
  cases o with
  | none => have h : cs = _ := h; rw [h]; rfl
  | some t => obtain ⟨a, b, c, d, e, rfl, -⟩ := h; rfl
theorem OneL.keep {o : Option VT} {cs : List Value} (h : OneL w S o cs) (hk : ∀ b, S b → w'.heap[b]? = w.heap[b]?) : OneL w' S o cs := by
  cases o with
  | none => exact h
  | some t => obtain ⟨a, b, c, d, e, h1, h2⟩ := h; exact ⟨a, b, c, d, e, h1, h2.keep hk⟩
theorem OneL.imp {o : Option VT} {cs : List Value} (h : OneL w S o cs) (hS : ∀ b, S b → S' b) : OneL w S' o cs := by
  cases o with
  | none => exact h
  | some t => obtain ⟨a, b, c, d, e, h1, h2⟩ := h; exact ⟨a, b, c, d, e, h1, h2.imp hS⟩
theorem OneL.one {o : Option VT} {cs : List Value} (h : OneL w S o cs) : ∀ u ∈ cs, u.oneCell' = true := by
  cases o with
  | none =>
    have h : cs = _ := h
    subst h
    intro u hu
    simp only [List.mem_cons, List.not_mem_nil, or_false] at hu
    rcases hu with rfl | rfl | rfl | rfl | rfl | rfl <;> rfl
  | some t =>
    obtain ⟨a, b, c, d, e, rfl, h2⟩ := h
    obtain ⟨A, n, A', n', hs, -⟩ := h2.shape
    simp only [Value.agg.injEq, Array.mk.injEq, List.cons.injEq, and_true] at hs
    obtain ⟨rfl, rfl, rfl, rfl, rfl⟩ := hs
    intro u hu
    simp only [List.mem_cons, List.not_mem_nil, or_false] at hu
    rcases hu with rfl | rfl | rfl | rfl | rfl | rfl <;> rfl
theorem OnesL.len : ∀ {l : List (Option VT)} {xs : List Value}, OnesL w S l xs → xs.length = l.length * 6
  | [], xs, h => by have h : xs = [] := h; rw [h]; rfl
  | o :: l, xs, h => by
    obtain ⟨c, r, rfl, h1, h2⟩ := h
    rw [List.length_append, h1.len, OnesL.len h2, List.length_cons]; omega
theorem OnesL.keep (hk : ∀ b, S b → w'.heap[b]? = w.heap[b]?) : ∀ {l : List (Option VT)} {xs : List Value}, OnesL w S l xs → OnesL w' S l xs
  | [], _, h => h
  | _ :: _, _, h => by obtain ⟨c, r, h0, h1, h2⟩ := h; exact ⟨c, r, h0, h1.keep hk, OnesL.keep hk h2⟩
theorem OnesL.imp (hS : ∀ b, S b → S' b) : ∀ {l : List (Option VT)} {xs : List Value}, OnesL w S l xs → OnesL w S' l xs
  | [], _, h => h
  | _ :: _, _, h => by obtain ⟨c, r, h0, h1, h2⟩ := h; exact ⟨c, r, h0, h1.imp hS, OnesL.imp hS h2⟩
theorem OnesL.one : ∀ {l : List (Option VT)} {xs : List Value}, OnesL w S l xs → ∀ u ∈ xs, u.oneCell' = true
  | [], xs, h => by have h : xs = [] := h; subst h; intro u hu; cases hu
  | o :: l, xs, h => by
    obtain ⟨c, r, rfl, h1, h2⟩ := h
    intro u hu
    rcases List.mem_append.1 hu with hu | hu
    · exact h1.one u hu
    · exact OnesL.one h2 u hu
theorem OnesL.push {o : Option VT} {cs : List Value} (ho : OneL w S o cs) : ∀ {l : List (Option VT)} {xs : List Value}, OnesL w S l xs → OnesL w S (l ++ [o]) (xs ++ cs)
  | [], xs, h => by have h : xs = [] := h; subst h; exact ⟨cs, [], by simp, ho, rfl⟩
  | p :: l, xs, h => by
    obtain ⟨c, r, rfl, h1, h2⟩ := h
    exact ⟨c, r ++ cs, by rw [List.append_assoc], h1, OnesL.push ho h2⟩
theorem OnesL.at : ∀ {l : List (Option VT)} {xs : List Value}, OnesL w S l xs → ∀ i (hi : i < l.length), ∃ cs, OneL w S l[i] cs ∧ ∀ j, j < 6 → xs[i * 6 + j]? = cs[j]?
  | [], _, _, i, hi => absurd hi (by simp)
  | o :: l, xs, h, i, hi => by
    obtain ⟨c, r, rfl, h1, h2⟩ := h
    cases i with
    | zero =>
      refine ⟨c, h1, fun j hj => ?_⟩
      rw [List.getElem?_append_left (by rw [h1.len]; omega)]
      congr 1; omega
    | succ i =>
      obtain ⟨cs, h3, h4⟩ := OnesL.at h2 i (by simpa using hi)
      refine ⟨cs, h3, fun j hj => ?_⟩
      rw [List.getElem?_append_right (by rw [h1.len]; omega), h1.len, ← h4 j hj]
      congr 1; omega
end
/-- The document's images lie in block x, their row in a block from B on. -/
def RIAt (w : World) (S : Nat → Prop) (B : Nat) (x : Nat) (r : RefI) : Prop :=
  ∃ A c xs, w.heap[x]? = some (.cells #[.int .i64 r.keep, .int .i64 r.base, .slice A r.l.length c] 32 (0, 0)) ∧ w.ownsRow B 71 6 (.slice A r.l.length c) r.l.length xs ∧ OnesL w S r.l xs
theorem RIAt.lt {w : World} {S : Nat → Prop} {B x : Nat} {r : RefI} (h : RIAt w S B x r) : x < w.heap.size := by
  obtain ⟨A, c, xs, h1, -⟩ := h
  exact (Array.getElem?_eq_some_iff.1 h1).1
theorem ownsRow_belowR {w w' : World} {B : Nat} {e : TypeId} {n : Nat} {v : Value} {k : Nat} {xs : List Value} (h : w.ownsRow B e n v k xs) (hb : Below w.heap.size w w') : w'.ownsRow B e n v k xs := by
  refine ⟨h.1, h.2.imp id ?_⟩
  rintro ⟨g, cap, cur, rfl, hB, hh, hr⟩
  refine ⟨g, cap, cur, rfl, hB, ?_, hr⟩
  rw [hb.block g (Array.getElem?_eq_some_iff.1 hh).1]
  exact hh
theorem RIAt.below {w w' : World} {S : Nat → Prop} {B x : Nat} {r : RefI} (h : RIAt w S B x r) (hS : ∀ b, S b → b < w.heap.size) (hb : Below w.heap.size w w') : RIAt w' S B x r := by
  obtain ⟨A, c, xs, h1, h2, h3⟩ := h
  exact ⟨A, c, xs, (hb.block x (Array.getElem?_eq_some_iff.1 h1).1).trans h1, ownsRow_belowR h2 hb, h3.keep fun b k => hb.block b (hS b k)⟩
theorem RIAt.imp {w : World} {S S' : Nat → Prop} {B x : Nat} {r : RefI} (h : RIAt w S B x r) (hS : ∀ b, S b → S' b) : RIAt w S' B x r := by
  obtain ⟨A, c, xs, h1, h2, h3⟩ := h
  exact ⟨A, c, xs, h1, h2, h3.imp hS⟩
theorem RIAt.c0 {w : World} {S : Nat → Prop} {B x : Nat} {r : RefI} (h : RIAt w S B x r) : w.cell? ⟨x, 0, none⟩ = some (.int .i64 r.keep) := by
  obtain ⟨A, c, xs, h1, -⟩ := h
  exact Go.Joins.cell_of_block h1 0
theorem RIAt.c1 {w : World} {S : Nat → Prop} {B x : Nat} {r : RefI} (h : RIAt w S B x r) : w.cell? ⟨x, 1, none⟩ = some (.int .i64 r.base) := by
  obtain ⟨A, c, xs, h1, -⟩ := h
  exact Go.Joins.cell_of_block h1 1
theorem RIAt.free {w : World} {S : Nat → Prop} {B x : Nat} {r : RefI} (h : RIAt w S B x r) (i : Nat) : w.frozen? ⟨x, i, none⟩ = false := by
  obtain ⟨A, c, xs, h1, -⟩ := h
  exact Go.Joins.unfrozen_of_block h1 i
/-- An append of ones to a row of the call's own, as one step of a region. -/
theorem wp_append_ones {w : World} {o : Oper} {a : Act} {K : Act → World → Prop} {Q : Exit → Act → World → Prop} (s y : Operand)
    (ho : o.op = .call { callee := .builtin .append, args := #[s, y], argTypes := #[30, 30] }) (B : Nat) (v : Value) (n : Nat) (xs : List Value) (hs : a.eval s = v) (hown : w.ownsRow B 71 6 v n xs)
    (A : Option Addr) (m c : Nat) (news : List Value) (hy : a.eval y = .slice A m c) (hA : A = none → m = 0 ∧ c = 0 ∧ news = []) (hl : news.length = m * 6) (hnews : ∀ ad, A = some ad → ∀ j u, news[j]? = some u → w.cell? (ad.add j) = some u) (h1 : ∀ u ∈ news, u.oneCell' = true)
    (hlen : n + m ≤ 1000000000) (hB : B ≤ w.heap.size)
    (h : ∀ v' w', w'.ownsRow B 71 6 v' (n + m) (xs ++ news) → w.grownBy w' v.ownBlock → WhereRow w v v' → K (a.put o.dst v') w') : o.wp Try.prog a w K Q := by
  obtain ⟨i0, hi, hi0, hi1, hi2⟩ := info_parts Try.infoOne
  cases A with
  | none =>
    obtain ⟨rfl, rfl, rfl⟩ := hA rfl
    have hrun := run_append_owned_none (P := Try.prog) (w := w) B 30 o.type 71 i0 6 Try.underlying30 hi v n xs hown
    unfold Oper.wp
    simp [execOp, ho, resolve, invoke, builtin, hs, hy, hrun, Result.andThen]
    exact h v w (by simpa using hown) ⟨rfl, rfl, rfl, Nat.le_refl _, fun _ _ _ => rfl⟩ (.inl rfl)
  | some ad =>
    exact wp_append_moved _ s y 30 ho B 71 i0 _ 6 88 Try.underlying30 hi hi0 hi1 hi2 rfl (by decide) v n xs hs hown ad m c news hy hl (hnews ad rfl) h1 (by unfold maxLen; omega) (by omega) hB h
end Go.Proofs.Ytdggeokpnaopiaa
