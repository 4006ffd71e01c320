/- The decoder's parts: what is read, and the variable that a value is read into. -/
import Derived.Test.YtopmeoonepkodaaKCodP
import Derived.Test.YtopmeoonepkodaaKCodE
import Derived.Test.YtopmeoonepkodaaKReg
import Derived.Test.YtopmeoonepkodaaKOpen
import Derived.Outline
namespace Go.Proofs.Ytopmeoonepkodaa
set_option linter.unusedVariables false
set_option linter.unusedSimpArgs false
open Go.RowKit

/-- Block D is a decoder. -/
def Dec (w : World) (D g : Nat) (least lv : Int) : Prop := w.heap[D]? = some (.cells #[.pointer (some ⟨g, 0, none⟩), .int .i64 least, .int .i64 lv] 58 (0, 0))
/-- Block bb is a variable that points to D. -/
def PB (w : World) (bb D : Nat) : Prop := w.heap[bb]? = some (.cells #[.pointer (some ⟨D, 0, none⟩)] 66 (0, 0))
theorem Dec.lt {w : World} {D g : Nat} {least lv : Int} (h : Dec w D g least lv) : D < w.heap.size := (Array.getElem?_eq_some_iff.1 h).1
theorem PB.lt {w : World} {bb D : Nat} (h : PB w bb D) : bb < w.heap.size := (Array.getElem?_eq_some_iff.1 h).1
/-- Below block B all but block g is as it was. -/
structure Far (B g : Nat) (w w' : World) : Prop where
  os : w'.os = w.os
  tape : w'.tape = w.tape
  output : w'.output = w.output
  size : w.heap.size ≤ w'.heap.size
  block : ∀ k, k < B → k ≠ g → w'.heap[k]? = w.heap[k]?
theorem Far.refl (B g : Nat) (w : World) : Far B g w w := ⟨rfl, rfl, rfl, Nat.le_refl _, fun _ _ _ => rfl⟩
theorem Far.trans {B g : Nat} {a b c : World} (h : Far B g a b) (k : Far B g b c) : Far B g a c :=
  ⟨k.os.trans h.os, k.tape.trans h.tape, k.output.trans h.output, Nat.le_trans h.size k.size, fun i hi hg => (k.block i hi hg).trans (h.block i hi hg)⟩
theorem Far.ofOnly {B g : Nat} {w w' : World} (h : Only w w' g) (hB : B ≤ w.heap.size) : Far B g w w' := ⟨h.os, h.tape, h.output, h.size, fun k hk hg => h.block k (by omega) (by rintro ⟨⟩; exact hg rfl)⟩
theorem Far.ofBelow {B g : Nat} {w w' : World} (h : Below B w w') : Far B g w w' := ⟨h.os, h.tape, h.output, h.size, fun k hk _ => h.block k hk⟩
theorem Far.drew {B g : Nat} {a w : World} (h : Far B g a w) : Far B g a w.drew := ⟨h.os, h.tape, h.output, h.size, h.block⟩

/-- What a reading makes of a source. -/
def Rel (d : Nat) (least : Int) (st : Option (List UInt8)) (t : VT) : Option (List UInt8) → Prop
  | some r' => ∃ l, st = some l ∧ rdW d l = some (t, r')
  | none => ∀ l u r, st = some l → rdW d l = some (u, r) → mayT u = false ∨ (r.length : Int) < least

/-- New blocks of a world. -/
def NewB (B : Nat) (w : World) : Nat → Prop := fun b => B ≤ b ∧ b < w.heap.size
/-- A row of values of the call's own, from block B on, that lie in blocks of S. -/
def RowV (w : World) (B : Nat) (S : Nat → Prop) (v : Value) (ts : List VT) : Prop :=
  ∃ xs, w.ownsRow B 25 5 v ts.length xs ∧ ∀ j (h : j < ts.length), ∃ c0 c1 c2 c3 c4, (xs.drop (j * 5)).take 5 = [c0, c1, c2, c3, c4] ∧ LV w S ts[j] (.agg #[c0, c1, c2, c3, c4])
theorem ownsRow_keep {w w' : World} {B sz n : Nat} {e : TypeId} {v : Value} {xs : List Value} (h : w.ownsRow B e sz v n xs) (hk : ∀ g, v.ownBlock = some g → w'.heap[g]? = w.heap[g]?) : w'.ownsRow B e sz v n xs := by
  refine ⟨h.1, ?_⟩
  rcases h.2 with h0 | ⟨g, cap, cur, h1, h2, h3, h4⟩
  · exact .inl h0
  · exact .inr ⟨g, cap, cur, h1, h2, (hk g (by rw [h1]; rfl)).trans h3, h4⟩
theorem RowV.keep {w w' : World} {B : Nat} {S : Nat → Prop} {v : Value} {ts : List VT} (h : RowV w B S v ts) (hv : ∀ g, v.ownBlock = some g → w'.heap[g]? = w.heap[g]?) (hS : ∀ b, S b → w'.heap[b]? = w.heap[b]?) : RowV w' B S v ts := by
  obtain ⟨xs, h1, h2⟩ := h
  refine ⟨xs, ownsRow_keep h1 hv, fun j hj => ?_⟩
  obtain ⟨c0, c1, c2, c3, c4, e, hx⟩ := h2 j hj
  exact ⟨c0, c1, c2, c3, c4, e, hx.keep hS⟩
/-- A row that got one more, behind the others. -/
theorem RowV.more {w w' : World} {B : Nat} {S S' : Nat → Prop} {v v' : Value} {ts : List VT} {t : VT} {xs : List Value} {c0 c1 c2 c3 c4 : Value} (h1 : w.ownsRow B 25 5 v ts.length xs)
    (h2 : ∀ j (h : j < ts.length), ∃ c0 c1 c2 c3 c4, (xs.drop (j * 5)).take 5 = [c0, c1, c2, c3, c4] ∧ LV w S ts[j] (.agg #[c0, c1, c2, c3, c4]))
    (hk : ∀ b, S b → w'.heap[b]? = w.heap[b]?) (hS : ∀ b, S b → S' b) (ho : w'.ownsRow B 25 5 v' (ts.length + 1) (xs ++ [c0, c1, c2, c3, c4])) (ht : LV w' S' t (.agg #[c0, c1, c2, c3, c4])) : RowV w' B S' v' (ts ++ [t]) := by
  have hx : xs.length = ts.length * 5 := h1.1
  refine ⟨xs ++ [c0, c1, c2, c3, c4], by rw [List.length_append]; exact ho, fun j hj => ?_⟩
  by_cases hjl : j < ts.length
  · obtain ⟨d0, d1, d2, d3, d4, e, hx'⟩ := h2 j hjl
    refine ⟨d0, d1, d2, d3, d4, ?_, ?_⟩
    · rw [List.drop_append_of_le_length (by omega), List.take_append_of_le_length (by rw [List.length_drop]; omega)]
      exact e
    · rw [List.getElem_append_left hjl]
      exact (hx'.keep hk).imp hS
  · obtain rfl : j = ts.length := by simp at hj; omega
    refine ⟨c0, c1, c2, c3, c4, ?_, ?_⟩
    · rw [← hx, List.drop_left]; rfl
    · rw [List.getElem_append_right (Nat.le_refl _)]
      simpa using ht
theorem set_five (xs : List Value) (z0 z1 z2 z3 z4 c0 c1 c2 c3 c4 : Value) (n : Nat) (hn : n = xs.length) :
    (((((xs ++ [z0, z1, z2, z3, z4]).set n c0).set (n + 1) c1).set (n + 2) c2).set (n + 3) c3).set (n + 4) c4 = xs ++ [c0, c1, c2, c3, c4] := by
  subst hn
  rw [List.set_append_right _ _ (by omega), List.set_append_right _ _ (by omega), List.set_append_right _ _ (by omega), List.set_append_right _ _ (by omega), List.set_append_right _ _ (by omega)]
  simp
/-- Five cells are stored behind one another in a row of the call's own. -/
theorem store_five {w : World} {B q cap n : Nat} {xs : List Value} {z0 z1 z2 z3 z4 : Value} (c0 c1 c2 c3 c4 : Value) (h : w.ownsRow B 25 5 (.slice (some ⟨q, 0, none⟩) (n + 1) cap) (n + 1) (xs ++ [z0, z1, z2, z3, z4])) (hx : xs.length = n * 5) :
    (((((w.setCell ⟨q, n * 5, none⟩ c0).setCell ⟨q, n * 5 + 1, none⟩ c1).setCell ⟨q, n * 5 + 2, none⟩ c2).setCell ⟨q, n * 5 + 3, none⟩ c3).setCell ⟨q, n * 5 + 4, none⟩ c4).ownsRow B 25 5 (.slice (some ⟨q, 0, none⟩) (n + 1) cap) (n + 1) (xs ++ [c0, c1, c2, c3, c4]) := by
  have h0 := (World.ownsRow.stored h (n * 5) c0).1
  have h1 := (World.ownsRow.stored h0 (n * 5 + 1) c1).1
  have h2 := (World.ownsRow.stored h1 (n * 5 + 2) c2).1
  have h3 := (World.ownsRow.stored h2 (n * 5 + 3) c3).1
  have h4 := (World.ownsRow.stored h3 (n * 5 + 4) c4).1
  rw [set_five _ _ _ _ _ _ _ _ _ _ _ _ hx.symm] at h4
  exact h4

/-- The variable that a value is read into. -/
structure PV (w : World) (B vb : Nat) (k : Int) (ts : List VT) (ns : List ByteArray) (VI VN : Value) (S : Nat → Prop) : Prop where
  box : Box w vb (.int .i64 k) (.int .i64 0) (.string eS) VI VN
  items : RowV w B S VI ts
  names : w.ownsRow B 9 1 VN ns.length (ns.map Value.string)
  small : ∀ s ∈ ns, s.size ≤ 140737488351232
  new : ∀ b, S b → B ≤ b ∧ b < w.heap.size ∧ some b ≠ VI.ownBlock ∧ some b ≠ VN.ownBlock
  vb : vb < B

/-- Reading a value. -/
def ValR (d g : Nat) (least : Int) (st : Option (List UInt8)) (w : World) (e : Ending) (w' : World) : Prop :=
  ∃ v t st', e = .returned v ∧ SrcL w' g st' ∧ Only w w' g ∧ LV w' (NewB w.heap.size w') t v ∧ Rel d least st t st'
def ValOK (d : Nat) : Prop := ∀ (D g : Nat) (least : Int) (st : Option (List UInt8)) (w : World), Dec w D g least (8 - (d : Int)) → SrcL w g st → D ≠ g →
  Calls Try.prog 33 #[.pointer (some ⟨D, 0, none⟩)] w (ValR d g least st w)

/-- What must stay while the parts of an append are waited for. -/
def KeepR (vb bb : Nat) (w w' : World) : Prop := w'.heap[vb]? = w.heap[vb]? ∧ w'.heap[bb]? = w.heap[bb]?
theorem KeepR.refl (vb bb : Nat) (w : World) : KeepR vb bb w w := ⟨rfl, rfl⟩
theorem KeepR.trans {vb bb : Nat} {a b c : World} (h : KeepR vb bb a b) (k : KeepR vb bb b c) : KeepR vb bb a c := ⟨k.1.trans h.1, k.2.trans h.2⟩
instance (vb bb : Nat) (w : World) : Inhabited (LaterR (KeepR vb bb) w) := ⟨⟨w, KeepR.refl vb bb w⟩⟩
theorem keep_cells {vb bb : Nat} {w : World} : (∀ p : LaterR (KeepR vb bb) w, ∀ o, p.u.cell? ⟨vb, o, none⟩ = w.cell? ⟨vb, o, none⟩) ∧ (∀ p : LaterR (KeepR vb bb) w, ∀ o, p.u.cell? ⟨bb, o, none⟩ = w.cell? ⟨bb, o, none⟩) :=
  ⟨fun p o => World.cell?_of_block (a := ⟨vb, o, none⟩) p.h.1, fun p o => World.cell?_of_block (a := ⟨bb, o, none⟩) p.h.2⟩

/-- Another value is read behind the others. -/
def ItemR (d g vb B : Nat) (k : Int) (least : Int) (st : Option (List UInt8)) (ts : List VT) (ns : List ByteArray) (w : World) (e : Ending) (w' : World) : Prop :=
  ∃ t st' VI VN S, e = .returned (.tuple #[]) ∧ PV w' B vb k (ts ++ [t]) ns VI VN S ∧ SrcL w' g st' ∧ Far vb g w w' ∧ Rel d least st t st'
/-- Five cells that stand behind one another. -/
def five (w : World) (p o : Nat) (c0 c1 c2 c3 c4 : Value) : World := ((((w.setCell ⟨p, o, none⟩ c0).setCell ⟨p, o + 1, none⟩ c1).setCell ⟨p, o + 2, none⟩ c2).setCell ⟨p, o + 3, none⟩ c3).setCell ⟨p, o + 4, none⟩ c4
theorem five_other (w : World) (p o : Nat) (c0 c1 c2 c3 c4 : Value) (b : Nat) (h : b ≠ p) : (five w p o c0 c1 c2 c3 c4).heap[b]? = w.heap[b]? := by
  unfold five
  rw [heap_setCell_other _ ⟨p, _, none⟩ b _ h, heap_setCell_other _ ⟨p, _, none⟩ b _ h, heap_setCell_other _ ⟨p, _, none⟩ b _ h, heap_setCell_other _ ⟨p, _, none⟩ b _ h, heap_setCell_other _ ⟨p, _, none⟩ b _ h]
theorem five_size (w : World) (p o : Nat) (c0 c1 c2 c3 c4 : Value) : (five w p o c0 c1 c2 c3 c4).heap.size = w.heap.size := by simp [five]
/-- An item is read and its variable holds the longer row. -/
theorem item_end {d g vb B : Nat} {k least : Int} {st st' : Option (List UInt8)} {ts : List VT} {ns : List ByteArray} {VI VN : Value} {S : Nat → Prop} {w w4 : World} {xs : List Value} {p cap : Nat} {t : VT} {c0 c1 c2 c3 c4 : Value}
    (hpv : PV w B vb k ts ns VI VN S) (hown : w.ownsRow B 25 5 VI ts.length xs)
    (hitems : ∀ j (h : j < ts.length), ∃ c0 c1 c2 c3 c4, (xs.drop (j * 5)).take 5 = [c0, c1, c2, c3, c4] ∧ LV w S ts[j] (.agg #[c0, c1, c2, c3, c4]))
    (hg : g < vb) (ho : w4.os = w.os) (htp : w4.tape = w.tape) (hot : w4.output = w.output) (hsz : w.heap.size ≤ w4.heap.size)
    (hold : ∀ b, b < w.heap.size → b ≠ g → b ≠ vb → some b ≠ VI.ownBlock → w4.heap[b]? = w.heap[b]?)
    (hp : VI.ownBlock = some p ∨ w.heap.size ≤ p)
    (hown4 : w4.ownsRow B 25 5 (.slice (some ⟨p, 0, none⟩) (ts.length + 1) cap) (ts.length + 1) (xs ++ [c0, c1, c2, c3, c4]))
    (hbox : Box w4 vb (.int .i64 k) (.int .i64 0) (.string eS) (.slice (some ⟨p, 0, none⟩) (ts.length + 1) cap) VN)
    (ht : LV w4 (fun b => w.heap.size ≤ b ∧ b < w4.heap.size ∧ b ≠ p) t (.agg #[c0, c1, c2, c3, c4])) (hs : SrcL w4 g st') (hrel : Rel d least st t st') (hB : B ≤ w.heap.size) :
    ItemR d g vb B k least st ts ns w (.returned (.tuple #[])) w4 := by
  have hvb := hpv.vb
  have hVI : ∀ q, VI.ownBlock = some q → B ≤ q ∧ q < w.heap.size := fun q hq => World.ownsRow.lt hown q hq
  have hVN : ∀ q, VN.ownBlock = some q → B ≤ q ∧ q < w.heap.size := fun q hq => World.ownsRow.lt hpv.names q hq
  have hap : ∀ q, VN.ownBlock = some q → VI.ownBlock ≠ some q := by
    intro q hq hq'
    rcases hown.2 with ⟨rfl, -⟩ | ⟨g1, cap1, cur1, rfl, -, h1, -⟩
    · simp [Value.ownBlock] at hq'
    · rcases hpv.names.2 with ⟨rfl, -⟩ | ⟨g2, cap2, cur2, rfl, -, h2, -⟩
      · simp [Value.ownBlock] at hq
      · simp only [Value.ownBlock, Option.some.injEq] at hq hq'
        subst hq hq'
        rw [h1] at h2
        simp at h2
  have hSk : ∀ b, S b → w4.heap[b]? = w.heap[b]? := fun b hb => by
    obtain ⟨h1, h2, h3, h4⟩ := hpv.new b hb
    exact hold b h2 (by omega) (by omega) h3
  refine ⟨t, st', .slice (some ⟨p, 0, none⟩) (ts.length + 1) cap, VN, fun b => S b ∨ (w.heap.size ≤ b ∧ b < w4.heap.size ∧ b ≠ p), rfl, ⟨hbox, ?_, ?_, hpv.small, ?_, hvb⟩, hs, ⟨ho, htp, hot, hsz, fun b hb hbg => ?_⟩, hrel⟩
  · exact RowV.more hown hitems hSk (fun _ h => .inl h) hown4 (ht.imp fun _ h => .inr h)
  · refine ownsRow_keep hpv.names fun q hq => ?_
    have := hVN q hq
    exact hold q this.2 (by omega) (by omega) (fun e => hap q hq e.symm)
  · rintro b (hb | ⟨h1, h2, h3⟩)
    · obtain ⟨h1, h2, h3, h4⟩ := hpv.new b hb
      refine ⟨h1, by omega, fun e => ?_, h4⟩
      obtain rfl : b = p := by simpa [Value.ownBlock] using e
      rcases hp with hp | hp
      · exact h3 hp.symm
      · omega
    · refine ⟨by omega, h2, fun e => h3 (by cases e; rfl), fun e => ?_⟩
      have := hVN b e.symm
      omega
  · refine hold b (by omega) hbg (by omega) fun e => ?_
    have := hVI b e.symm
    omega
end Go.Proofs.Ytopmeoonepkodaa
