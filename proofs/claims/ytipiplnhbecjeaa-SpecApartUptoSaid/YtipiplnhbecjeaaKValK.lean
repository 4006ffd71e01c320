/- Values made, and copied. -/
import Derived.Test.YtipiplnhbecjeaaKOrd
import Derived.Deep.OwnRows
import Derived.Laws.AppendOwnNone
namespace Go.Proofs.Ytipiplnhbecjeaa
set_option linter.unusedVariables false
set_option linter.unusedSimpArgs false
open Go.RowKit

theorem Try.infoStr : (Try.prog.info? 9).map (fun i => (i.zero, i.size, i.bytes)) = some (some (.string ⟨#[]⟩), 1, 16) := by kernel_rfl
theorem Try.infoVal : (Try.prog.info? 25).map (fun i => (i.zero, i.size, i.bytes)) = some (some (.agg #[.int .i64 0, .int .i64 0, .string ⟨#[]⟩, .slice none 0 0, .slice none 0 0]), 5, 80) := by kernel_rfl

theorem rng0 : Rng 0 := by unfold Rng; omega
theorem rngK {k : Int} (h1 : 0 ≤ k) (h2 : k ≤ 7) : Rng k := by unfold Rng; omega
theorem strs_nil (w : World) (S : Nat → Prop) (A : Option Addr) : StrsAt w S A [] := fun h => absurd h (by simp)
theorem lva_nil (w : World) (S : Nat → Prop) (A : Option Addr) : LVA w S A [] := fun h => absurd h (by simp)
/-- A value that holds no others. -/
theorem leaf_lv (w : World) (S : Nat → Prop) (k i : Int) (s : ByteArray) (hk : Rng k) (hi : Rng i) (hs : s.size ≤ 140737488351232) :
    LV w S (.mk k i s [] []) (.agg #[.int .i64 k, .int .i64 i, .string s, .slice none 0 0, .slice none 0 0]) := LV.mk hk hi hs (by simp) (by simp) (strs_nil _ _ _) (lva_nil _ _ _)

section
set_option maxHeartbeats 400000
variable (w : World)
end

/-! ### names copied -/
/-- New blocks. -/
def New (B : Nat) (w : World) : Nat → Prop := fun b => B ≤ b ∧ b < w.heap.size
theorem run_append_nothing (A : Option Addr) (c : Nat) (w : World) (ty : TypeId) : (Builtin.append_ #[22, 22] ty #[.slice none 0 0, .slice A 0 c]).run Try.prog w = .ok (.slice none 0 0) w := by
  obtain ⟨i0, hi, -, -, -⟩ := info_parts Try.infoStr
  cases A <;> simp [Builtin.append_, run_underlying Try.underlying22, sizeOf, typeInfo, hi, Builtin.lenOf, Builtin.firstCells, loadCells, loadCellsFrom]
theorem addr_at (b off i : Nat) : ((⟨b, off, none⟩ : Addr).add i) = ⟨b, off + i, none⟩ := by
  unfold Addr.add
  split
  · next h => simp [h]
  · rfl
theorem wpList_append_nothing {w : World} {ops : Array Oper} {rest : List Oper} {o : Oper} {a : Act} {Q : Exit → Act → World → Prop} (hgd : o.guard = none) (s x : Operand)
    (ho : o.op = .call { callee := .builtin .append, args := #[s, x], argTypes := #[22, 22] }) (hs : a.eval s = .slice none 0 0) (A : Option Addr) (c : Nat) (hx : a.eval x = .slice A 0 c)
    (h : wpList Try.prog ops Q rest (a.put o.dst (.slice none 0 0)) w) : wpList Try.prog ops Q (o :: rest) a w := by
  refine wpList_plain hgd fun K hK => ?_
  have hrun := run_append_nothing A c w o.type
  unfold Oper.wp
  simp [execOp, ho, resolve, invoke, builtin, hs, hx, hrun, Result.andThen]
  exact hK _ _ h
theorem strs_of_row {w : World} {B : Nat} {v : Value} {ns : List ByteArray} (h : w.ownsRow B 9 1 v ns.length (ns.map Value.string)) (hs : ∀ s ∈ ns, s.size ≤ 140737488351232) : ∃ A c, v = .slice A ns.length c ∧ StrsAt w (New B w) A ns := by
  rcases h.2 with ⟨rfl, h2⟩ | ⟨g, cap, cur, rfl, hg, hh, r⟩
  · exact ⟨none, 0, by rw [h2], fun hp => absurd hp (by omega)⟩
  · refine ⟨_, _, rfl, fun hp => ⟨g, 0, rfl, ⟨hg, (Array.getElem?_eq_some_iff.1 hh).1⟩, fun i hi => ⟨?_, hs _ (List.getElem_mem hi)⟩⟩⟩
    have h' : w.ownsRow B 9 1 (.slice (some ⟨g, 0, none⟩) ns.length cap) ns.length (ns.map Value.string) := h
    have := h'.cells (g := g) rfl i (.string ns[i]) (by simp [List.getElem?_map, List.getElem?_eq_getElem hi])
    rw [addr_at] at this
    exact this

end Go.Proofs.Ytipiplnhbecjeaa

/- Values copied. -/
namespace Go.Proofs.Ytipiplnhbecjeaa
set_option linter.unusedVariables false
set_option linter.unusedSimpArgs false
open Go.RowKit

/-- Items that lie in a row. -/
theorem LVs_of_row {w : World} {S : Nat → Prop} {G n : Nat} {f : Nat → Value} (hr : w.rowIs G 25 n f) : ∀ (l : List VT) (off : Nat), off + l.length * 5 ≤ n →
    (∀ i (h : i < l.length), LV w S l[i] (.agg #[f (off + i * 5), f (off + i * 5 + 1), f (off + i * 5 + 2), f (off + i * 5 + 3), f (off + i * 5 + 4)])) → LVs w S G off l
  | [], _, _, _ => by unfold LVs; trivial
  | t :: r, off, hn, h => by
    simp only [List.length_cons] at hn
    unfold LVs
    refine ⟨⟨_, _, _, _, _, hr.cell (by omega), hr.cell (by omega), hr.cell (by omega), hr.cell (by omega), hr.cell (by omega), by have := h 0 (by simp); simpa only [Nat.zero_mul, Nat.add_zero, List.getElem_cons_zero] using this⟩, LVs_of_row hr r (off + 5) (by omega) fun i hi => ?_⟩
    have := h (i + 1) (by simpa using hi)
    have e : off + 5 + i * 5 = off + (i + 1) * 5 := by omega
    rw [e]
    simpa using this
theorem row_of_made {w : World} {G n : Nat} {v : Value} {xs : List Value} {B : Nat} (h : w.ownsRow B 25 5 (.slice (some ⟨G, 0, none⟩) n n) n xs) : ∃ f, w.rowIs G 25 (n * 5) f := by
  rcases h.2 with ⟨h1, _⟩ | ⟨g, cap, cur, hv, hg, hh, h1, h2, h3, _⟩
  · cases h1
  · injection hv with e1 e2 e3
    injection e1 with e1
    injection e1 with e1
    subst e1; subst e3
    exact ⟨fun i => cur[i]?.getD undef, cur, hh, h3, fun i hi => by show cur[i]? = some (cur[i]?.getD undef); rw [Array.getElem?_eq_getElem (by omega)]; rfl⟩

def put5 (f : Nat → Value) (p : Nat) (v0 v1 v2 v3 v4 : Value) : Nat → Value := fun i => if i = p + 4 then v4 else if i = p + 3 then v3 else if i = p + 2 then v2 else if i = p + 1 then v1 else if i = p then v0 else f i
def set5 (w : World) (G p : Nat) (v0 v1 v2 v3 v4 : Value) : World := ((((w.setCell ⟨G, p, none⟩ v0).setCell ⟨G, p + 1, none⟩ v1).setCell ⟨G, p + 2, none⟩ v2).setCell ⟨G, p + 3, none⟩ v3).setCell ⟨G, p + 4, none⟩ v4
theorem row_set5 {w : World} {G n p : Nat} {f : Nat → Value} (hr : w.rowIs G 25 n f) (v0 v1 v2 v3 v4 : Value) : (set5 w G p v0 v1 v2 v3 v4).rowIs G 25 n (put5 f p v0 v1 v2 v3 v4) :=
  ((((hr.set p v0).set (p + 1) v1).set (p + 2) v2).set (p + 3) v3).set (p + 4) v4
theorem set5_size (w : World) (G p : Nat) (v0 v1 v2 v3 v4 : Value) : (set5 w G p v0 v1 v2 v3 v4).heap.size = w.heap.size := by simp [set5, World.setCell]
theorem set5_block {w : World} {G p b : Nat} (v0 v1 v2 v3 v4 : Value) (h : b ≠ G) : (set5 w G p v0 v1 v2 v3 v4).heap[b]? = w.heap[b]? := by
  unfold set5
  rw [Below.heap_setCell _ _ _ _ h, Below.heap_setCell _ _ _ _ h, Below.heap_setCell _ _ _ _ h, Below.heap_setCell _ _ _ _ h, Below.heap_setCell _ _ _ _ h]
theorem set5_below {B : Nat} {a w : World} {G p : Nat} (v0 v1 v2 v3 v4 : Value) (h : Below B a w) (hG : B ≤ G) : Below B a (set5 w G p v0 v1 v2 v3 v4) := by
  unfold set5
  exact ((((h.setCell hG _).setCell hG _).setCell hG _).setCell hG _).setCell hG _
theorem put5_old {f : Nat → Value} {p i : Nat} {v0 v1 v2 v3 v4 : Value} (h : i < p) : put5 f p v0 v1 v2 v3 v4 i = f i := by
  unfold put5
  rw [if_neg (by omega), if_neg (by omega), if_neg (by omega), if_neg (by omega), if_neg (by omega)]
theorem put5_new (f : Nat → Value) (p : Nat) (v0 v1 v2 v3 v4 : Value) : put5 f p v0 v1 v2 v3 v4 p = v0 ∧ put5 f p v0 v1 v2 v3 v4 (p + 1) = v1 ∧ put5 f p v0 v1 v2 v3 v4 (p + 2) = v2 ∧ put5 f p v0 v1 v2 v3 v4 (p + 3) = v3 ∧ put5 f p v0 v1 v2 v3 v4 (p + 4) = v4 := by
  unfold put5
  refine ⟨?_, ?_, ?_, ?_, ?_⟩
  · rw [if_neg (by omega), if_neg (by omega), if_neg (by omega), if_neg (by omega), if_pos rfl]
  · rw [if_neg (by omega), if_neg (by omega), if_neg (by omega), if_pos rfl]
  · rw [if_neg (by omega), if_neg (by omega), if_pos rfl]
  · rw [if_neg (by omega), if_pos rfl]
  · rw [if_pos rfl]
/-- What the copy holds up to the j-th item. -/
def Part (w : World) (G : Nat) (l : List VT) (f : Nat → Value) (j : Nat) : Prop := ∀ i (h : i < l.length), i < j → LV w (fun b => G < b ∧ b < w.heap.size) l[i] (.agg #[f (i * 5), f (i * 5 + 1), f (i * 5 + 2), f (i * 5 + 3), f (i * 5 + 4)])
theorem Part.next {w w3 : World} {G j : Nat} {l : List VT} {f : Nat → Value} {v0 v1 v2 v3 v4 : Value} (h : Part w G l f j) (hj : j < l.length) (hs : w.heap.size ≤ w3.heap.size) (hG : G < w.heap.size) (hb : ∀ b, b < w.heap.size → b ≠ G → w3.heap[b]? = w.heap[b]?)
    (hx : LV w3 (fun b => w.heap.size ≤ b ∧ b < w3.heap.size) l[j] (.agg #[v0, v1, v2, v3, v4])) : Part (set5 w3 G (j * 5) v0 v1 v2 v3 v4) G l (put5 f (j * 5) v0 v1 v2 v3 v4) (j + 1) := by
  intro i hi hij
  have hkeep : ∀ {S : Nat → Prop} {t : VT} {v : Value}, (∀ b, S b → b ≠ G) → LV w3 S t v → LV (set5 w3 G (j * 5) v0 v1 v2 v3 v4) S t v := fun hS hv => hv.keep fun b hb => set5_block v0 v1 v2 v3 v4 (hS b hb)
  by_cases e : i = j
  · subst e
    obtain ⟨e0, e1, e2, e3, e4⟩ := put5_new f (i * 5) v0 v1 v2 v3 v4
    rw [e0, e1, e2, e3, e4]
    refine (hkeep (fun b hb => by have := hb.1; omega) hx).imp fun b hb => ⟨by have := hb.1; omega, by rw [set5_size]; exact hb.2⟩
  · rw [put5_old (by omega), put5_old (by omega), put5_old (by omega), put5_old (by omega), put5_old (by omega)]
    have h1 := h i hi (by omega)
    have h2 := h1.keep (w' := w3) fun b hb' => hb b hb'.2 (by have := hb'.1; omega)
    exact (hkeep (fun b hb => by have := hb.1; omega) h2).imp fun b hb => ⟨hb.1, by rw [set5_size]; omega⟩



theorem Box.set0 {w : World} {g : Nat} {a b c d e : Value} (h : Box w g a b c d e) (u : Value) : Box (w.setCell ⟨g, 0, none⟩ u) g u b c d e := Go.Joins.block_setCell (i := 0) h u
theorem Box.set1 {w : World} {g : Nat} {a b c d e : Value} (h : Box w g a b c d e) (u : Value) : Box (w.setCell ⟨g, 1, none⟩ u) g a u c d e := Go.Joins.block_setCell (i := 1) h u
theorem Box.set2 {w : World} {g : Nat} {a b c d e : Value} (h : Box w g a b c d e) (u : Value) : Box (w.setCell ⟨g, 2, none⟩ u) g a b u d e := Go.Joins.block_setCell (i := 2) h u
theorem Box.set3 {w : World} {g : Nat} {a b c d e : Value} (h : Box w g a b c d e) (u : Value) : Box (w.setCell ⟨g, 3, none⟩ u) g a b c u e := Go.Joins.block_setCell (i := 3) h u
theorem Box.set4 {w : World} {g : Nat} {a b c d e : Value} (h : Box w g a b c d e) (u : Value) : Box (w.setCell ⟨g, 4, none⟩ u) g a b c d u := Go.Joins.block_setCell (i := 4) h u
theorem Box.far {w : World} {g : Nat} {a b c d e : Value} (h : Box w g a b c d e) {p : Addr} (hne : g ≠ p.block) (u : Value) : Box (w.setCell p u) g a b c d e := (Below.heap_setCell w p u g hne).trans h
theorem New.mono {B B' : Nat} {w w' : World} (hB : B' ≤ B) (hs : w.heap.size ≤ w'.heap.size) : ∀ b, New B w b → New B' w' b := fun b hb => ⟨Nat.le_trans hB hb.1, Nat.lt_of_lt_of_le hb.2 hs⟩


end Go.Proofs.Ytipiplnhbecjeaa
