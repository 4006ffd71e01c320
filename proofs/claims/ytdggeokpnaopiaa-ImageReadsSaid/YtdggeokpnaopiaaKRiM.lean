/- The document's images are read. -/
import Derived.Test.YtdggeokpnaopiaaKRiL
import Derived.Test.YtdggeokpnaopiaaKRdC
namespace Go.Proofs.Ytdggeokpnaopiaa
set_option linter.unusedVariables false
set_option linter.unusedSimpArgs false
open Go.RowKit
set_option maxRecDepth 100000
/-- The document's images of the call's own, while they are read. -/
def RowI (w0 : World) (Z : Nat) (w : World) (x : Nat) (r : RefI) : Prop :=
  ∃ A c xs, ∃ S : Nat → Prop, w.heap[x]? = some (.cells #[.int .i64 r.keep, .int .i64 r.base, .slice A r.l.length c] 32 (0, 0)) ∧ w.ownsRow w0.heap.size 71 6 (.slice A r.l.length c) r.l.length xs ∧ OnesL w S r.l xs ∧
    ∀ b, S b → (w0.heap.size ≤ b ∧ b < w.heap.size ∧ b ≠ x ∧ ∀ p, (Value.slice A r.l.length c).ownBlock = some p → b ≠ p) ∧ b < Z
theorem RowI.rat {w0 w : World} {Z x : Nat} {r : RefI} (h : RowI w0 Z w x r) : RIAt w (fun b => b < w.heap.size) 0 x r := by
  obtain ⟨A, c, xs, S, h1, h2, h3, h4⟩ := h
  exact RIAt.base0 (B := w0.heap.size) ⟨A, c, xs, h1, h2, h3.imp fun b hb => (h4 b hb).1.2.1⟩
theorem RowI.only {w0 w w' : World} {Z x g : Nat} {r : RefI} (h : RowI w0 Z w x r) (ho : Only w w' g) (hg : g < w0.heap.size) (hx : w0.heap.size ≤ x) : RowI w0 Z w' x r := by
  obtain ⟨A, c, xs, S, h1, h2, h3, h4⟩ := h
  refine ⟨A, c, xs, S, (ho.block x (Array.getElem?_eq_some_iff.1 h1).1 (by rintro ⟨⟩; omega)).trans h1, ⟨h2.1, h2.2.imp id ?_⟩, h3.keep fun b hb => ho.block b (h4 b hb).1.2.1 (by rintro ⟨⟩; have := (h4 _ hb).1.1; omega), fun b hb => ⟨⟨(h4 b hb).1.1, Nat.lt_of_lt_of_le (h4 b hb).1.2.1 ho.size, (h4 b hb).1.2.2⟩, (h4 b hb).2⟩⟩
  rintro ⟨q, cap, cur, e, hB, hh, hr⟩
  exact ⟨q, cap, cur, e, hB, (ho.block q (Array.getElem?_eq_some_iff.1 hh).1 (by rintro ⟨⟩; omega)).trans hh, hr⟩
theorem RowI.start (w0 w : World) (hz : w0.heap.size ≤ w.heap.size) (k b : Int) : RowI w0 0 (w.alloc (.cells #[.int .i64 k, .int .i64 b, .slice none 0 0] 32)) w.heap.size ⟨k, b, []⟩ :=
  ⟨none, 0, [], fun _ => False, heap_alloc_new w _, World.ownsRow_nil _ _ _ _, rfl, fun _ h => h.elim⟩
/-- One more lies in the row, behind an append and the store. -/
theorem RowI.push {w0 w W : World} {x p cap n : Nat} {A : Option Addr} {c : Nat} {xs cs : List Value} {S S2 : Nat → Prop} {o : Option VT} {r : RefI} (hx : w.heap[x]? = some (.cells #[.int .i64 r.keep, .int .i64 r.base, .slice A n c] 32 (0, 0))) (hn : n = r.l.length) (hxn : w0.heap.size ≤ x)
    (hb : w.grownBy W (Value.slice A n c).ownBlock) (hw : WhereRow w (.slice A n c) (.slice (some ⟨p, 0, none⟩) (n + 1) cap)) (hown0 : w.ownsRow w0.heap.size 71 6 (.slice A n c) n xs) (hown : W.ownsRow w0.heap.size 71 6 (.slice (some ⟨p, 0, none⟩) (n + 1) cap) (n + 1) (xs ++ cs)) (hones : OnesL w S r.l xs) (hone : OneL w S2 o cs)
    (hS : ∀ b, S b → w0.heap.size ≤ b ∧ b < w.heap.size ∧ b ≠ x ∧ ∀ p, (Value.slice A n c).ownBlock = some p → b ≠ p) (hS2 : ∀ b, S2 b → w0.heap.size ≤ b ∧ b < w.heap.size ∧ b ≠ x ∧ ∀ p, (Value.slice A n c).ownBlock = some p → b ≠ p) :
    RowI w0 W.heap.size (W.setCell ⟨x, 2, none⟩ (.slice (some ⟨p, 0, none⟩) (n + 1) cap)) x (r.note o) := by
  subst hn
  have hxl : x < w.heap.size := (Array.getElem?_eq_some_iff.1 hx).1
  have hxp : ∀ q, (Value.slice A r.l.length c).ownBlock = some q → q ≠ x := by
    rintro q hq rfl
    rcases hown0.2 with ⟨e, -⟩ | ⟨g, cap', cur, e, -, hh, -⟩
    · rw [e] at hq; cases hq
    · rw [e] at hq; injection hq with hq
      have hgq : g = q := hq
      subst hgq
      rw [hx] at hh; injection hh with hh; injection hh with _ hh; exact absurd hh (by decide)
  have hxW : W.heap[x]? = _ := (hb.block x hxl (fun e => hxp x e.symm rfl)).trans hx
  have hpx : x ≠ p := by
    rcases hw with hw | ⟨q, hq, e⟩
    · intro e; subst e
      exact hxp x hw.symm rfl
    · injection e with e
      have e : p = q := e
      omega
  have hlen : (r.note o).l.length = r.l.length + 1 := by show (r.l ++ [o]).length = _; simp
  have hk : ∀ b, b < w.heap.size → b ≠ x → (∀ p, (Value.slice A r.l.length c).ownBlock = some p → b ≠ p) → (W.setCell ⟨x, 2, none⟩ (.slice (some ⟨p, 0, none⟩) (r.l.length + 1) cap)).heap[b]? = w.heap[b]? := fun b h1 h2 h3 =>
    (heap_setCell_other _ ⟨x, 2, none⟩ b _ h2).trans (hb.block b h1 (fun e => h3 b e.symm rfl))
  refine ⟨some ⟨p, 0, none⟩, cap, xs ++ cs, fun b => S b ∨ S2 b, ?_, ?_, ?_, ?_⟩
  · rw [hlen]; exact Go.Joins.block_setCell (i := 2) hxW _
  · rw [hlen]
    refine ⟨hown.1, hown.2.imp id ?_⟩
    rintro ⟨g, cap', cur, h1, h2, h3, h4⟩
    refine ⟨g, cap', cur, h1, h2, ?_, h4⟩
    injection h1 with h1
    injection h1 with h1
    injection h1 with h1
    rw [heap_setCell_other _ ⟨x, 2, none⟩ g _ (by show g ≠ x; omega)]
    exact h3
  · exact OnesL.push ((hone.keep fun b hb' => hk b (hS2 b hb').2.1 (hS2 b hb').2.2.1 (hS2 b hb').2.2.2).imp fun b h => .inr h) ((OnesL.keep (fun b hb' => hk b (hS b hb').2.1 (hS b hb').2.2.1 (hS b hb').2.2.2) hones).imp fun b h => .inl h)
  · intro b hb'
    have hc : w0.heap.size ≤ b ∧ b < w.heap.size ∧ b ≠ x ∧ ∀ p, (Value.slice A r.l.length c).ownBlock = some p → b ≠ p := hb'.elim (hS b) (hS2 b)
    refine ⟨⟨hc.1, by have := hb.size; simp; omega, hc.2.2.1, fun q hq => ?_⟩, by have := hb.size; omega⟩
    have hq : p = q := by simpa [Value.ownBlock] using hq
    subst hq
    rcases hw with hw | ⟨q, hq, e⟩
    · exact hc.2.2.2 p hw.symm
    · injection e with e
      have e : p = q := e
      omega
/-- What is read so far. -/
def RfInv (N : Nat) (r0 : RefI) (s0 : Option (List UInt8)) (c : Nat) (r : RefI) (s : Option (List UInt8)) : Prop :=
  r.base = r0.base ∧ r.keep = r0.keep ∧ r.l.length + c = N ∧ match s with
    | none => (rfRing N r0 s0).2 = none
    | some l => rfRing N r0 s0 = rfRing c r (some l)
theorem rfInv_next {N c : Nat} {r0 r : RefI} {s0 : Option (List UInt8)} {l : List UInt8} (h : RfInv N r0 s0 c r (some l)) (hc : 0 < c) : RfInv N r0 s0 (c - 1) (r.note (keptO (some l))) (rdKept (some l)).2.2 := by
  obtain ⟨h1, h2, h3, h4⟩ := h
  have h4 : rfRing N r0 s0 = rfRing c r (some l) := h4
  obtain ⟨c', rfl⟩ : ∃ c', c = c' + 1 := ⟨c - 1, by omega⟩
  have e : rfRing (c' + 1) r (some l) = rfRing c' (r.note (keptO (some l))) (rdKept (some l)).2.2 := rfl
  rw [e] at h4
  refine ⟨h1, h2, by show (r.l ++ [_]).length + (c' + 1 - 1) = N; simp; omega, ?_⟩
  show match (rdKept (some l)).2.2 with
    | none => (rfRing N r0 s0).2 = none
    | some l' => rfRing N r0 s0 = rfRing c' (r.note (keptO (some l))) (some l')
  generalize (rdKept (some l)).2.2 = s at *
  cases s with
  | none => show (rfRing N r0 s0).2 = none; rw [h4]; exact rfRing_none _ _
  | some x => exact h4
def RReadI (g BB : Nat) (st : Option (List UInt8)) (w : World) (e : Ending) (w' : World) : Prop :=
  RS w' g BB (rdRef st).2 ∧ Only w w' g ∧ match (rdRef st).1 with
    | none => e = .returned (.pointer none)
    | some r => ∃ x, e = .returned (.pointer (some ⟨x, 0, none⟩)) ∧ w.heap.size ≤ x ∧ RIAt w' (fun b => b < w'.heap.size) 0 x r
theorem only_br {w w' : World} {B g : Nat} (ho : Only w w' g) (hB : B ≤ g) (hB2 : B ≤ w.heap.size) : Below B w w' := ⟨ho.os, ho.tape, ho.output, ho.size, fun b hb => ho.block b (by omega) (by rintro ⟨⟩; omega)⟩
theorem RS.stay {w w' : World} {g BB p : Nat} {st : Option (List UInt8)} (h : RS w g BB st) (ho : Only w w' p) (hp : g < p) (hB : BB ≤ g) : RS w' g BB st :=
  h.keep (ho.block g h.lt (by rintro ⟨⟩; omega)) (only_br ho (by omega) (by have := h.lt; omega))
theorem row_below {w0 wr W : World} {Z x : Nat} {r : RefI} (h : RowI w0 Z wr x r) (he : W.heap[x]? = wr.heap[x]?) : ∀ A c p, W.heap[x]? = some (.cells #[.int .i64 r.keep, .int .i64 r.base, .slice A r.l.length c] 32 (0, 0)) → (Value.slice A r.l.length c).ownBlock = some p → p < wr.heap.size := by
  intro A c p hx hp
  obtain ⟨A', c', xs, S, h1, h2, -⟩ := h
  rw [he, h1] at hx
  simp only [Option.some.injEq, Obj.cells.injEq, Array.mk.injEq, List.cons.injEq, Value.slice.injEq, and_true, true_and] at hx
  obtain ⟨rfl, rfl⟩ := hx
  exact (World.ownsRow.lt h2 p hp).2
def KeepXQ (x q : Nat) (a b : World) : Prop := b.heap[x]? = a.heap[x]? ∧ b.heap[q]? = a.heap[q]?
instance keepxq_inh (x q : Nat) (w : World) : Inhabited (LaterR (KeepXQ x q) w) := ⟨⟨w, rfl, rfl⟩⟩
theorem cell_kxq {w : World} {x q y i : Nat} {v : Value} (hy : y = x ∨ y = q) (hc : w.cell? ⟨y, i, none⟩ = some v) : ∀ p : LaterR (KeepXQ x q) w, p.u.cell? ⟨y, i, none⟩ = some v := fun p => by
  refine (World.cell?_of_block (a := ⟨y, i, none⟩) ?_).trans hc
  rcases hy with rfl | rfl
  · exact p.h.1
  · exact p.h.2
theorem own_not {w : World} {B n x : Nat} {v : Value} {xs : List Value} {cs : Array Value} {t : TypeId} {fr : Nat × Nat} (h : w.ownsRow B 71 6 v n xs) (hx : w.heap[x]? = some (.cells cs t fr)) (ht : t ≠ 71) : ∀ p, v.ownBlock = some p → p ≠ x := by
  rintro p hp rfl
  rcases h.2 with ⟨rfl, -⟩ | ⟨g, cap, cur, rfl, -, hh, -⟩
  · cases hp
  · have e : g = p := by simpa [Value.ownBlock] using hp
    subst e
    rw [hx] at hh; injection hh with hh; injection hh with _ hh; exact ht hh
theorem row_kept {b c : World} {v : Value} {x : Nat} (hg : b.grownBy c v.ownBlock) (hn : ∀ p, v.ownBlock = some p → p ≠ x) (hx : x < b.heap.size) : c.heap[x]? = b.heap[x]? := hg.block x hx (fun e => hn x e.symm rfl)
theorem only_below_r {a b c : World} {g : Nat} (h : Only a b g) (k : Below a.heap.size b c) (hs : a.heap.size ≤ b.heap.size) : Only a c g :=
  ⟨k.os.trans h.os, k.tape.trans h.tape, k.output.trans h.output, Nat.le_trans h.size k.size, fun i hi hg => (k.block i hi).trans (h.block i hi hg)⟩
theorem kept_zero {l : List UInt8} (h : (rdByte (some l)).1 = 0) : keptO (some l) = none ∧ (rdKept (some l)).2.2 = (rdByte (some l)).2 := by
  have e : rdKept (some l) = (zeroT, false, (rdByte (some l)).2) := by unfold rdKept; rw [if_pos h]
  unfold keptO
  rw [e]
  exact ⟨rfl, rfl⟩
theorem kept_one {l : List UInt8} (h : (rdByte (some l)).1 = 1) : keptO (some l) = some (readO (rdByte (some l)).2).1 ∧ (rdKept (some l)).2.2 = (readO (rdByte (some l)).2).2 := by
  have e : rdKept (some l) = ((readO (rdByte (some l)).2).1, true, (readO (rdByte (some l)).2).2) := by unfold rdKept; rw [if_neg (by omega), if_pos h]
  unfold keptO
  rw [e]
  exact ⟨rfl, rfl⟩
theorem kept_other {l : List UInt8} (h0 : (rdByte (some l)).1 ≠ 0) (h1 : (rdByte (some l)).1 ≠ 1) : keptO (some l) = none ∧ (rdKept (some l)).2.2 = none := by
  have e : rdKept (some l) = (zeroT, false, none) := by unfold rdKept; rw [if_neg h0, if_neg h1]
  unfold keptO
  rw [e]
  exact ⟨rfl, rfl⟩
theorem row_set {w0 w : World} {Z x q : Nat} {r : RefI} {C : Array Value} (h : RowI w0 Z w x r) (hp : ∀ A c p, w.heap[x]? = some (.cells #[.int .i64 r.keep, .int .i64 r.base, .slice A r.l.length c] 32 (0, 0)) → (Value.slice A r.l.length c).ownBlock = some p → p < q) (hxq : x ≠ q) (hZ : Z ≤ q) : RowI w0 Z (w.setRow q C) x r := by
  obtain ⟨A, c, xs, S, h1, h2, h3, h4⟩ := h
  have hpq := fun p hq => hp A c p h1 hq
  refine ⟨A, c, xs, S, (setRow_other w q x C hxq).trans h1, ⟨h2.1, h2.2.imp id ?_⟩, h3.keep fun b hb => setRow_other w q b C (by have := (h4 b hb).2; omega), fun b hb => ⟨⟨(h4 b hb).1.1, by have := (h4 b hb).1.2.1; simpa using this, (h4 b hb).1.2.2⟩, (h4 b hb).2⟩⟩
  rintro ⟨p, cap, cur, e, hB, hh, hr⟩
  have hpb : p < q := hpq p (by rw [e]; rfl)
  exact ⟨p, cap, cur, e, hB, (setRow_other w q p C (by omega)).trans hh, hr⟩
set_option maxHeartbeats 64000000 in
theorem rread16_any (g BB : Nat) (st : Option (List UInt8)) (w : World) (hs : RS w g BB st) (hB : BB ≤ g) : Calls Try.prog 22 #[.pointer (some ⟨g, 0, none⟩)] w (RReadI g BB st w) := by
  have HGL := Lib.hid hs.lt
  have HBB := Lib.hid hB
  obtain ⟨k, hk⟩ : ∃ k, k = (rdCount 64 st).1 := ⟨_, rfl⟩
  obtain ⟨st1, hst1⟩ : ∃ s, s = (rdCount 64 st).2 := ⟨_, rfl⟩
  obtain ⟨b, hb⟩ : ∃ k, k = (rdCount 1099511627776 st1).1 := ⟨_, rfl⟩
  obtain ⟨st2, hst2⟩ : ∃ s, s = (rdCount 1099511627776 st1).2 := ⟨_, rfl⟩
  obtain ⟨t, ht⟩ : ∃ k, k = (rdCount 1099511627776 st2).1 := ⟨_, rfl⟩
  obtain ⟨st3, hst3⟩ : ∃ s, s = (rdCount 1099511627776 st2).2 := ⟨_, rfl⟩
  have hkl : (k : Int) ≤ 64 := by rw [hk]; exact rdCount_leI (by omega) (by omega)
  have hbl : (b : Int) ≤ 1099511627776 := by rw [hb]; exact rdCount_leI (by omega) (by omega)
  have htl : (t : Int) ≤ 1099511627776 := by rw [ht]; exact rdCount_leI (by omega) (by omega)
  have HR : Hid (rdRef st = finR (rfRing (t - max b (t - k)) (startR k b t) (if t < b then none else st3))) := Lib.hid (by unfold rdRef; rw [← hst1, ← hst2, ← hst3, ← hk, ← hb, ← ht])
  have hc1 := rscount_any g BB 64 st w hs hB (by omega)
  rw [← hk, ← hst1] at hc1
  have HC1 := Lib.hid hc1
  have HC2 : Hid (∀ W, RS W g BB st1 → Calls Try.prog 44 #[.pointer (some ⟨g, 0, none⟩), .int .i64 1099511627776] W fun e w' => e = .returned (.int .i64 b) ∧ RS w' g BB st2 ∧ Only W w' g) := Lib.hid fun W hW => by rw [hb, hst2]; exact rscount_any g BB 1099511627776 st1 W hW hB (by omega)
  have HC3 : Hid (∀ W, RS W g BB st2 → Calls Try.prog 44 #[.pointer (some ⟨g, 0, none⟩), .int .i64 1099511627776] W fun e w' => e = .returned (.int .i64 t) ∧ RS w' g BB st3 ∧ Only W w' g) := Lib.hid fun W hW => by rw [ht, hst3]; exact rscount_any g BB 1099511627776 st2 W hW hB (by omega)
  clear hs hB hk hst1 hb hst2 ht hst3 hc1
  go_enter Try.func22, Try.ntmps22
  go_wp2_with fail
  refine HC1.out.mono ?_
  rintro e w1 ⟨rfl, hs1, ho1⟩
  have HS1 := Lib.hid hs1
  have HO1 := Lib.hid ho1
  clear hs1 ho1 HC1
  go_wp2_with fail
  refine (HC2.out _ HS1.out).mono ?_
  rintro e w2 ⟨rfl, hs2, ho2⟩
  have HS2 := Lib.hid hs2
  have HO2 := Lib.hid (HO1.out.trans ho2)
  clear hs2 ho2 HC2 HS1 HO1
  go_wp2_with fail
  refine (HC3.out _ HS2.out).mono ?_
  rintro e w3 ⟨rfl, hs3, ho3⟩
  have HS3 := Lib.hid hs3
  have HO3 := Lib.hid (HO2.out.trans ho3)
  have yg := rs_f1 hs3
  clear hs3 ho3 HC3 HS2 HO2
  rcases st3 with _ | l3
  · have y1 : w3.cell? ⟨g, 1, none⟩ = some (.bool true) := rs_c1 HS3.out
    have HX : Hid ((rdRef st) = (none, none)) := Lib.hid (by
      rw [HR.out]
      have e : (if t < b then none else (none : Option (List UInt8))) = none := by split <;> rfl
      rw [e]
      exact finR_none (rfRing_none _ _))
    go_wp2_with fail
    go_ret
    refine ⟨by rw [HX.out]; exact rs_spoil HS3.out, HO3.out.trans set_only, by rw [HX.out]; rfl⟩
  have y1 : w3.cell? ⟨g, 1, none⟩ = some (.bool false) := rs_c1 HS3.out
  by_cases htb : t < b
  · have htb' : (t : Int) < (b : Int) := by omega
    have HX : Hid ((rdRef st) = (none, none)) := Lib.hid (by
      rw [HR.out, if_pos htb]
      exact finR_none (rfRing_none _ _))
    go_wp2_with fail
    go_ret
    refine ⟨by rw [HX.out]; exact rs_spoil HS3.out, HO3.out.trans set_only, by rw [HX.out]; rfl⟩
  have htb' : ¬ ((t : Int) < (b : Int)) := by omega
  rw [if_neg htb] at HR
  obtain ⟨x, hx⟩ : ∃ x, x = w3.heap.size := ⟨_, rfl⟩
  have HXE := Lib.hid hx
  have HXN : Hid (w.heap.size ≤ x) := Lib.hid (by rw [hx]; exact HO3.out.size)
  by_cases hbig : (k : Int) < (t : Int) - (b : Int)
  · skip
    have hbx := below_box (w := w3) (.cells #[.int .i64 (k : Int), .int .i64 ((t : Int) - (k : Int)), .slice none 0 0] 32)
    have hox : Only w3 (w3.alloc (.cells #[.int .i64 (k : Int), .int .i64 ((t : Int) - (k : Int)), .slice none 0 0] 32)) g := ⟨hbx.os, hbx.tape, hbx.output, hbx.size, fun b hb _ => hbx.block b hb⟩
    have HRW9 : Hid (RowI w 0 (w3.alloc (.cells #[.int .i64 (k : Int), .int .i64 ((t : Int) - (k : Int)), .slice none 0 0] 32)) x (startR k b t)) := Lib.hid (by
      have e : startR k b t = ⟨k, ((t : Int) - (k : Int)), []⟩ := by unfold startR; congr 1; omega
      rw [hx, e]; exact RowI.start w w3 HO3.out.size _ _)
    have HSR9 : Hid (RS (w3.alloc (.cells #[.int .i64 (k : Int), .int .i64 ((t : Int) - (k : Int)), .slice none 0 0] 32)) g BB (some l3)) := Lib.hid (HS3.out.keep (hbx.block g HS3.out.lt) (hbx.mono (by have := HS3.out.lt; have := HBB.out; omega)))
    have HON9 : Hid (Only w (w3.alloc (.cells #[.int .i64 (k : Int), .int .i64 ((t : Int) - (k : Int)), .slice none 0 0] 32)) g) := Lib.hid (HO3.out.trans hox)
    clear hbx hox hx HS3 HO3
    go_wp2_with fail
    clear y1 yg
    try rw [← HXE.out]
    generalize w3.alloc (.cells #[.int .i64 (k : Int), .int .i64 ((t : Int) - (k : Int)), .slice none 0 0] 32) = w9 at *
    clear htb' hbig
    obtain ⟨N, hN⟩ : ∃ N, N = t - max b (t - k) := ⟨_, rfl⟩
    obtain ⟨r0, hr0⟩ : ∃ r, r = startR k b t := ⟨_, rfl⟩
    obtain ⟨s0, hs0⟩ : ∃ s : Option (List UInt8), s = some l3 := ⟨_, rfl⟩
    rw [← hN, ← hr0, ← hs0] at HR
    rw [← hr0] at HRW9
    rw [← hs0] at HSR9
    have HNL : Hid (N ≤ 1000000) := Lib.hid (by omega)
    have hrb : r0.base = ((max b (t - k) : Nat) : Int) := by rw [hr0]; rfl
    have hrk : r0.keep = (k : Int) := by rw [hr0]; rfl
    have HBT : Hid (r0.base + N = (t : Int) ∧ 0 ≤ r0.keep ∧ r0.keep ≤ 64 ∧ 0 ≤ r0.base ∧ r0.base ≤ 2199023255552) := Lib.hid ⟨by rw [hrb]; omega, by rw [hrk]; omega, by rw [hrk]; omega, by rw [hrb]; omega, by rw [hrb]; omega⟩
    have HV9 : Hid (RfInv N r0 s0 N r0 s0) := Lib.hid ⟨rfl, rfl, by rw [hr0]; show 0 + N = N; omega, by rw [hs0]⟩
    clear hN hr0 hs0 hrb hrk
    go_loopg [7] N (fun n _ wr => ∃ (r : RefI) (s : Option (List UInt8)) (c Z : Nat), n = c ∧ Hid (Z ≤ wr.heap.size) ∧ Hid (RowI w Z wr x r) ∧ Hid (RS wr g BB s) ∧ Hid (Only w wr g) ∧ Hid (RfInv N r0 s0 c r s))
    case atStart => exact ⟨r0, s0, N, 0, rfl, Lib.hid (Nat.zero_le _), HRW9, HSR9, HON9, HV9⟩
    case round =>
      clear HRW9 HSR9 HON9 HV9
      obtain ⟨r, s, c0, Z, hnc, HZ0, RW0, SRC0, ON0, HV⟩ := hrel
      have hrf : r.Fine := by
        have h1 := HV.out.1
        have h2 := HV.out.2.1
        have h3 := HV.out.2.2.1
        have h4 := HBT.out
        have h5 := HNL.out
        exact ⟨by rw [h2]; omega, by rw [h2]; omega, by rw [h1]; omega, by rw [h1]; omega, by omega⟩
      have htop : r.top = (t : Int) - c0 := by
        have h1 := HV.out.1
        have h3 := HV.out.2.2.1
        have h4 := HBT.out.1
        show r.base + (r.l.length : Int) = _
        rw [h1]; omega
      have hc := rtop16_any RW0.out.rat hrf
      rw [htop] at hc
      have HTOPC := Lib.hid hc
      clear hc htop hrf
      go_wp2_with fail
      refine HTOPC.out.mono ?_
      rintro e w4 ⟨rfl, hb4⟩
      have ho4 : Only wr w4 g := ⟨hb4.os, hb4.tape, hb4.output, hb4.size, fun b hb _ => hb4.block b hb⟩
      have RW := Lib.hid (RW0.out.only ho4 HGL.out HXN.out)
      have SRC := Lib.hid (SRC0.out.keep (hb4.block g SRC0.out.lt) (hb4.mono (by have := SRC0.out.lt; have := HBB.out; omega)))
      have ON := Lib.hid (ON0.out.trans ho4)
      have HRW0 := RW
      have hz4 : Z ≤ w4.heap.size := Nat.le_trans HZ0.out hb4.size
      have HZ4 := Lib.hid hz4
      clear hz4
      have hsrc1 := rs_c1 SRC.out
      clear hb4 ho4 HTOPC RW0 SRC0 ON0
      by_cases hc0 : c0 = 0
      · subst hc0
        cases s with
        | none =>
          have hsrc1' : w4.cell? ⟨g, 1, none⟩ = some (.bool true) := hsrc1
          clear hsrc1
          have hnn : ¬ ((t : Int) - ((0 : Nat) : Int) < (t : Int)) := by omega
          go_wp2_with fail
          go_ret
          refine ⟨?_, ON.out, ?_⟩
          · rw [HR.out, finR_none HV.out.2.2.2]; exact SRC.out
          · rw [HR.out, finR_none HV.out.2.2.2]; rfl
        | some l =>
          have hsrc1' : w4.cell? ⟨g, 1, none⟩ = some (.bool false) := hsrc1
          clear hsrc1
          have hnn : ¬ ((t : Int) - ((0 : Nat) : Int) < (t : Int)) := by omega
          have hend : rfRing N r0 s0 = (r, some l) := HV.out.2.2.2
          have HEND := Lib.hid hend
          clear hend
          go_wp2_with fail
          go_ret
          refine ⟨?_, ON.out, ?_⟩
          · rw [HR.out, HEND.out]; exact SRC.out
          · rw [HR.out, HEND.out]; exact ⟨x, rfl, HXN.out, RW.out.rat⟩
      · have hlt : (t : Int) - (c0 : Int) < (t : Int) := by omega
        cases s with
        | none =>
          have hsrc1' : w4.cell? ⟨g, 1, none⟩ = some (.bool true) := hsrc1
          clear hsrc1
          go_wp2_with fail
          go_ret
          refine ⟨?_, ON.out, ?_⟩
          · rw [HR.out, finR_none HV.out.2.2.2]; exact SRC.out
          · rw [HR.out, finR_none HV.out.2.2.2]; rfl
        | some l =>
          have hsrc1' : w4.cell? ⟨g, 1, none⟩ = some (.bool false) := hsrc1
          clear hsrc1
          have HC0 : Hid (0 < c0) := Lib.hid (by omega)
          obtain ⟨q, hq⟩ : ∃ q, q = w4.heap.size := ⟨_, rfl⟩
          have HQE := Lib.hid hq
          have hb5 := below_box (w := w4) (.cells #[.bool false, .int .i64 0, .int .i64 0, .string eS, .slice none 0 0, .slice none 0 0] 71)
          have ho5 : Only w4 (w4.alloc (.cells #[.bool false, .int .i64 0, .int .i64 0, .string eS, .slice none 0 0, .slice none 0 0] 71)) g := ⟨hb5.os, hb5.tape, hb5.output, hb5.size, fun b hb _ => hb5.block b hb⟩
          have SRC5 : Hid (RS (w4.alloc (.cells #[.bool false, .int .i64 0, .int .i64 0, .string eS, .slice none 0 0, .slice none 0 0] 71)) g BB (some l)) := Lib.hid (SRC.out.keep (hb5.block g SRC.out.lt) (hb5.mono (by have := SRC.out.lt; have := HBB.out; omega)))
          have RW5 : Hid (RowI w Z (w4.alloc (.cells #[.bool false, .int .i64 0, .int .i64 0, .string eS, .slice none 0 0, .slice none 0 0] 71)) x r) := Lib.hid (RW.out.only ho5 HGL.out HXN.out)
          have ON5 : Hid (Only w (w4.alloc (.cells #[.bool false, .int .i64 0, .int .i64 0, .string eS, .slice none 0 0, .slice none 0 0] 71)) g) := Lib.hid (ON.out.trans ho5)
          have HQ5 : Hid ((w4.alloc (.cells #[.bool false, .int .i64 0, .int .i64 0, .string eS, .slice none 0 0, .slice none 0 0] 71)).heap[q]? = some (.cells #[.bool false, .int .i64 0, .int .i64 0, .string eS, .slice none 0 0, .slice none 0 0] 71 (0, 0))) := Lib.hid (by rw [hq]; exact heap_alloc_new w4 _)
          have HWQ : Hid (w.heap.size ≤ q) := Lib.hid (by rw [hq]; exact ON.out.size)
          have HXQ : Hid (x < q) := Lib.hid (by rw [hq]; exact RW.out.rat.lt)
          have HWRQ : Hid (w4.heap.size ≤ q) := Lib.hid (by omega)
          have HZQ : Hid (Z ≤ q) := Lib.hid (by have := HZ4.out; omega)
          have HXX5 : Hid ((w4.alloc (.cells #[.bool false, .int .i64 0, .int .i64 0, .string eS, .slice none 0 0, .slice none 0 0] 71)).heap[x]? = w4.heap[x]?) := Lib.hid (hb5.block x RW.out.rat.lt)
          clear hb5 ho5 hq RW SRC ON
          go_wp2_with fail
          try rw [← HQE.out]
          refine (rsbyte_any g BB (some l) _ SRC5.out HBB.out).mono ?_
          rintro e w6 ⟨rfl, hs6, ho6⟩
          obtain ⟨n6, hn6⟩ : ∃ n, n = (rdByte (some l)).1 := ⟨_, rfl⟩
          obtain ⟨s6, hs6e⟩ : ∃ s, s = (rdByte (some l)).2 := ⟨_, rfl⟩
          rw [← hn6]
          rw [← hs6e] at hs6
          have HS6 := Lib.hid hs6e
          have SRC := Lib.hid hs6
          have RW := Lib.hid (RW5.out.only ho6 HGL.out HXN.out)
          have ON := Lib.hid (ON5.out.trans ho6)
          have HQ := Lib.hid ((ho6.block q (Array.getElem?_eq_some_iff.1 HQ5.out).1 (by rintro ⟨⟩; have := HGL.out; have := HWQ.out; omega)).trans HQ5.out)
          have HXX : Hid (w6.heap[x]? = w4.heap[x]?) := Lib.hid ((ho6.block x RW5.out.rat.lt (by rintro ⟨⟩; have := HGL.out; have := HXN.out; omega)).trans HXX5.out)
          have HRL : Hid (∀ A c p, w6.heap[x]? = some (.cells #[.int .i64 r.keep, .int .i64 r.base, .slice A r.l.length c] 32 (0, 0)) → (Value.slice A r.l.length c).ownBlock = some p → p < q) := Lib.hid (fun A c p h1 h2 => by
            have := row_below HRW0.out HXX.out A c p h1 h2
            have := HWRQ.out
            omega)
          clear hs6 ho6 hs6e RW5 SRC5 ON5 HQ5 HXX5 hsrc1'
          by_cases hb0 : n6 = 0
          · have hb0' : n6 = (rdByte (some l)).1 := hn6
            clear hn6
            subst hb0
            have HKZ := Lib.hid (kept_zero hb0'.symm)
            clear hb0'
            have HNX : Hid (RfInv N r0 s0 (c0 - 1) (r.note none) s6) := Lib.hid (by
              have h := rfInv_next HV.out HC0.out
              rw [HKZ.out.1, HKZ.out.2, ← HS6.out] at h
              exact h)
            have HONE : Hid (∃ S2 : Nat → Prop, OneL w6 S2 (none : Option VT) [.bool false, .int .i64 0, .int .i64 0, .string eS, .slice none 0 0, .slice none 0 0] ∧ ∀ b, S2 b → q < b ∧ b < w6.heap.size) := Lib.hid ⟨fun _ => False, rfl, fun _ h => h.elim⟩
            go_wp2_with fail
            obtain ⟨A, c, xs, S, hx, hown, hones, hSZ⟩ := RW.out
            have hS := fun b hb => (hSZ b hb).1
            obtain ⟨S2, hone, hS2⟩ := HONE.out
            have hxl : x < w6.heap.size := (Array.getElem?_eq_some_iff.1 hx).1
            have hql : q < w6.heap.size := (Array.getElem?_eq_some_iff.1 HQ.out).1
            obtain ⟨n, hnn⟩ : ∃ n, n = r.l.length := ⟨_, rfl⟩
            have hnl : n ≤ 1000000 := by have := HV.out.2.2.1; have := HNL.out; omega
            rw [← hnn] at hx hown hS
            have hS2' : ∀ b, S2 b → w.heap.size ≤ b ∧ b < w6.heap.size ∧ b ≠ x ∧ ∀ p, (Value.slice A n c).ownBlock = some p → b ≠ p := fun b hb => by
              have h := hS2 b hb
              refine ⟨by have := HWQ.out; omega, h.2, by have := HXQ.out; omega, fun p hp => ?_⟩
              have h4 := HRL.out A c p (by rw [← hnn]; exact hx) (by rw [← hnn]; exact hp)
              omega
            have z2 := cell_kxq (x := x) (q := q) (w := w6.drew) (i := 2) (.inl rfl) (Go.Joins.cell_of_block hx 2)
            have p0 := cell_kxq (x := x) (q := q) (w := w6.drew) (i := 0) (.inr rfl) (Go.Joins.cell_of_block HQ.out 0)
            have p1 := cell_kxq (x := x) (q := q) (w := w6.drew) (i := 1) (.inr rfl) (Go.Joins.cell_of_block HQ.out 1)
            have p2 := cell_kxq (x := x) (q := q) (w := w6.drew) (i := 2) (.inr rfl) (Go.Joins.cell_of_block HQ.out 2)
            have p3 := cell_kxq (x := x) (q := q) (w := w6.drew) (i := 3) (.inr rfl) (Go.Joins.cell_of_block HQ.out 3)
            have p4 := cell_kxq (x := x) (q := q) (w := w6.drew) (i := 4) (.inr rfl) (Go.Joins.cell_of_block HQ.out 4)
            have p5 := cell_kxq (x := x) (q := q) (w := w6.drew) (i := 5) (.inr rfl) (Go.Joins.cell_of_block HQ.out 5)
            have HX := Lib.hid hx
            have HOWN := Lib.hid hown
            have HONES := Lib.hid hones
            have HO1 := Lib.hid hone
            have HS := Lib.hid hS
            have HS2 := Lib.hid hS2'
            have HNN := Lib.hid hnn
            have HLL := Lib.hid (And.intro hxl hql)
            clear hx hown hones hS hSZ hone hS2 hS2' hnn hxl hql
            try go_wp2_with fail
            refine wp_region_OT (KeepXQ x q) (fun _ => ⟨rfl, rfl⟩) (fun _ _ _ h k => ⟨k.1.trans h.1, k.2.trans h.2⟩) [10] (.pure [0, 1, 2, 3, 4, 5] (.step 6 (.step 7 (.free [8, 9] (.tail [10]))))) (by kernel_rfl) (by kernel_rfl) (fun _ d _ _ _ h => by cases d <;> exact h) ?_
            refine ot_pure ?_
            simp only [atNats, List.filterMap_cons, List.filterMap_nil, List.getElem?_toArray, List.getElem?_cons_succ, List.getElem?_cons_zero]
            show wpQuiet _ _ _ _ [_, _, _, _, _, _] _
            repeat (go_big_quiet_step (fail))
            refine wpQuiet_nil ?_
            clear z2 p0 p1 p2 p3 p4 p5
            refine ot_step rfl (fun K hK => ?_)
            go_simp
            refine hK _ _ (.inr ⟨Below.heap_alloc w6 _ x HLL.out.1, Below.heap_alloc w6 _ q HLL.out.2⟩) ?_
            clear hK K
            have hb8 : Below w6.heap.size w6 (w6.alloc (.cells #[.bool false, .int .i64 0, .int .i64 0, .string eS, .slice none 0 0, .slice none 0 0] 71)).drew := ((Below.refl _ _).alloc (Nat.le_refl _) _).drew
            have HB8 := Lib.hid hb8
            have HX8 : Hid ((w6.alloc (.cells #[.bool false, .int .i64 0, .int .i64 0, .string eS, .slice none 0 0, .slice none 0 0] 71)).drew.heap[x]? = _) := Lib.hid ((hb8.block x HLL.out.1).trans HX.out)
            have HOWN8 : Hid ((w6.alloc (.cells #[.bool false, .int .i64 0, .int .i64 0, .string eS, .slice none 0 0, .slice none 0 0] 71)).drew.ownsRow w.heap.size 71 6 (.slice A n c) n xs) := Lib.hid (ownsRow_belowR HOWN.out hb8)
            have HLIT : Hid ((w6.alloc (.cells #[.bool false, .int .i64 0, .int .i64 0, .string eS, .slice none 0 0, .slice none 0 0] 71)).drew.heap[w6.heap.size]? = some (.cells #[.bool false, .int .i64 0, .int .i64 0, .string eS, .slice none 0 0, .slice none 0 0] 71 (0, 0))) := Lib.hid (heap_alloc_new w6 _)
            have HONES8 : Hid (OnesL (w6.alloc (.cells #[.bool false, .int .i64 0, .int .i64 0, .string eS, .slice none 0 0, .slice none 0 0] 71)).drew S r.l xs) := Lib.hid (OnesL.keep (fun b hb => hb8.block b (HS.out b hb).2.1) HONES.out)
            have HO18 : Hid (OneL (w6.alloc (.cells #[.bool false, .int .i64 0, .int .i64 0, .string eS, .slice none 0 0, .slice none 0 0] 71)).drew S2 _ _) := Lib.hid (HO1.out.keep fun b hb => hb8.block b (HS2.out b hb).2.1)
            have HWZ : Hid (w.heap.size ≤ (w6.alloc (.cells #[.bool false, .int .i64 0, .int .i64 0, .string eS, .slice none 0 0, .slice none 0 0] 71)).drew.heap.size) := Lib.hid (Nat.le_trans ON.out.size hb8.size)
            have HQ8 : Hid ((w6.alloc (.cells #[.bool false, .int .i64 0, .int .i64 0, .string eS, .slice none 0 0, .slice none 0 0] 71)).drew.heap[q]? = _) := Lib.hid ((hb8.block q HLL.out.2).trans HQ.out)
            have HSZ8 : Hid ((w6.alloc (.cells #[.bool false, .int .i64 0, .int .i64 0, .string eS, .slice none 0 0, .slice none 0 0] 71)).drew.heap.size = w6.heap.size + 1) := Lib.hid (by simp)
            generalize (w6.alloc (.cells #[.bool false, .int .i64 0, .int .i64 0, .string eS, .slice none 0 0, .slice none 0 0] 71)).drew = W8 at *
            clear hb8
            refine ot_act rfl rfl (fun K hK => ?_)
            refine wp_append_ones _ _ rfl w.heap.size (.slice A n c) n xs rfl HOWN8.out (some ⟨w6.heap.size, 0, none⟩) 1 1 [.bool false, .int .i64 0, .int .i64 0, .string eS, .slice none 0 0, .slice none 0 0] rfl (fun h => by cases h) rfl (fun ad e j u hj => by injection e with e; subst e; rw [add_at, Nat.zero_add]; exact (Go.Joins.cell_of_block HLIT.out j).trans (by simpa using hj)) (OneL.one HO18.out) (by omega) HWZ.out fun v9 W9 ho9 hg9 hw9 => ?_
            have hx9 : W9.heap[x]? = W8.heap[x]? := row_kept hg9 (own_not HOWN8.out HX8.out (by decide)) (by have := HLL.out.1; have := HSZ8.out; omega)
            have hq9 : W9.heap[q]? = W8.heap[q]? := hg9.block q (by have := HLL.out.2; have := HSZ8.out; omega) (fun e => by
              have h4 := HRL.out A c q (by rw [← HNN.out]; exact HX.out) (by rw [← HNN.out]; exact e.symm)
              omega)
            refine hK _ _ (.inr ⟨hx9, hq9⟩) ?_
            clear hK K
            simp only [List.getElem_toArray, List.getElem_cons_succ, List.getElem_cons_zero, Act.put, List.setIfInBounds_toArray, List.set_cons_succ, List.set_cons_zero]
            obtain ⟨p9, cap9, rfl, hp9, hpl9⟩ := own_shape ho9 (by omega)
            have HP : Hid (RowI w W9.heap.size (W9.setCell ⟨x, 2, none⟩ (.slice (some ⟨p9, 0, none⟩) (n + 1) cap9)) x (r.note none)) := Lib.hid (RowI.push HX8.out HNN.out HXN.out hg9 hw9 HOWN8.out ho9 HONES8.out HO18.out (fun b hb => ⟨(HS.out b hb).1, by have := (HS.out b hb).2.1; have := HSZ8.out; omega, (HS.out b hb).2.2⟩) (fun b hb => ⟨(HS2.out b hb).1, by have := (HS2.out b hb).2.1; have := HSZ8.out; omega, (HS2.out b hb).2.2⟩))
            have ho78 : Only w6 W8 g := ⟨HB8.out.os, HB8.out.tape, HB8.out.output, HB8.out.size, fun b hb _ => HB8.out.block b hb⟩
            have ho89 : Below w.heap.size W8 W9 := (Below.refl _ _).grown hg9 HWZ.out (fun k hk => (World.ownsRow.lt HOWN8.out k hk).1)
            have ho9s : Below w.heap.size W8 (W9.setCell ⟨x, 2, none⟩ (.slice (some ⟨p9, 0, none⟩) (n + 1) cap9)) := ho89.setCell (p := ⟨x, 2, none⟩) HXN.out _
            have HON9 : Hid (Only w (W9.setCell ⟨x, 2, none⟩ (.slice (some ⟨p9, 0, none⟩) (n + 1) cap9)) g) := Lib.hid (only_below_r (ON.out.trans ho78) ho9s (Nat.le_trans ON.out.size HB8.out.size))
            have HSRC9 : Hid (RS (W9.setCell ⟨x, 2, none⟩ (.slice (some ⟨p9, 0, none⟩) (n + 1) cap9)) g BB s6) := Lib.hid ((SRC.out.keep (HB8.out.block g SRC.out.lt) (HB8.out.mono (by have := HBB.out; have := SRC.out.lt; omega))).keep (ho9s.block g HGL.out) (ho9s.mono (by have := HGL.out; have := HBB.out; omega)))
            have yf : W9.frozen? ⟨x, 2, none⟩ = false := Go.Joins.unfrozen_of_block (hx9.trans HX8.out) 2
            have yc : W9.cell? ⟨x, 2, none⟩ = some (.slice A n c) := Go.Joins.cell_of_block (hx9.trans HX8.out) 2
            clear ho9 hg9 hw9 hx9 hq9 hp9 hpl9 ho78 ho89 ho9s HOWN HONES HO1 HX HOWN8 HONES8 HO18 HX8 HLIT HQ8 HQ HONE RW SRC ON
            refine ot_free ?_
            simp only [atNats, List.filterMap_cons, List.filterMap_nil, List.getElem?_toArray, List.getElem?_cons_succ, List.getElem?_cons_zero]
            show wpQuiet _ _ _ _ [_, _] _
            repeat (go_big_quiet_step (fail))
            refine wpQuiet_nil ?_
            refine ot_last rfl (fun K hK => ?_)
            go_simp
            refine hK _ _ ?_
            clear hK K
            refine ot_end ?_
            go_wp2_with fail
            go_roundg (c0 - 1)
            case measure => have := HC0.out; omega
            case rel => exact ⟨_, _, c0 - 1, W9.heap.size, by omega, Lib.hid (by simp), HP, HSRC9, HON9, HNX⟩
          by_cases hb1 : n6 = 1
          · have hb1' : n6 = (rdByte (some l)).1 := hn6
            clear hn6
            subst hb1
            have HKZ := Lib.hid (kept_one hb1'.symm)
            clear hb1'
            go_wp2_with fail
            refine (rread_any g BB s6 w6 SRC.out HBB.out).mono ?_
            rintro e w7 ⟨v7, rfl, hs7, ho7, hv7⟩
            obtain ⟨tt, htt⟩ : ∃ t, t = (readO s6).1 := ⟨_, rfl⟩
            obtain ⟨s7, hs7e⟩ : ∃ s, s = (readO s6).2 := ⟨_, rfl⟩
            rw [← htt] at hv7
            rw [← hs7e] at hs7
            obtain ⟨TA, tc, TB, td, rfl, -⟩ := hv7.shape
            have HNX : Hid (RfInv N r0 s0 (c0 - 1) (r.note (some tt)) s7) := Lib.hid (by
              have h := rfInv_next HV.out HC0.out
              rw [HKZ.out.1, HKZ.out.2, ← HS6.out, ← htt, ← hs7e] at h
              exact h)
            have hq7 : w7.heap[q]? = some (.cells #[.bool false, .int .i64 0, .int .i64 0, .string eS, .slice none 0 0, .slice none 0 0] 71 (0, 0)) := (ho7.block q (Array.getElem?_eq_some_iff.1 HQ.out).1 (by rintro ⟨⟩; have := HGL.out; have := HWQ.out; omega)).trans HQ.out
            have HQ7 := Lib.hid hq7
            have HV7 := Lib.hid hv7
            have HS7 := Lib.hid hs7
            have HON7 := Lib.hid (ON.out.trans ho7)
            have HRW7 := Lib.hid (RW.out.only ho7 HGL.out HXN.out)
            have HX7 : Hid (w7.heap[x]? = w4.heap[x]?) := Lib.hid ((ho7.block x RW.out.rat.lt (by rintro ⟨⟩; have := HGL.out; have := HXN.out; omega)).trans HXX.out)
            have HZ7 : Hid (q < w6.heap.size ∧ w6.heap.size ≤ w7.heap.size) := Lib.hid ⟨(Array.getElem?_eq_some_iff.1 HQ.out).1, ho7.size⟩
            have HSI : Hid ((Try.prog.info? 71).map (·.size) = some 6) := Lib.hid sizeOne
            clear hv7 hs7 ho7 htt hs7e hq7 HQ RW SRC ON HRL HXX
            go_wp2_with (refine wpList_store_row rfl 71 _ _ rfl q #[.bool true, .int .i64 tt.kind, .int .i64 tt.num, .string tt.text, .slice TA tt.items.length tc, .slice TB tt.names.length td] rfl rfl _ _ HQ7.out HSI.out rfl (by simp [Value.oneCell']) ?_)
            have hqx : x ≠ q := by have := HXQ.out; omega
            have hqg : g ≠ q := by have := HGL.out; have := HWQ.out; omega
            have hos : Only w7 (w7.setRow q #[.bool true, .int .i64 tt.kind, .int .i64 tt.num, .string tt.text, .slice TA tt.items.length tc, .slice TB tt.names.length td]) q := ⟨rfl, rfl, rfl, by simp, fun b _ hb => setRow_other w7 q b _ (by rintro rfl; exact hb rfl)⟩
            have RW : Hid (RowI w Z (w7.setRow q #[.bool true, .int .i64 tt.kind, .int .i64 tt.num, .string tt.text, .slice TA tt.items.length tc, .slice TB tt.names.length td]) x r) := Lib.hid (row_set HRW7.out (fun A c p h1 h2 => by have := row_below HRW0.out HX7.out A c p h1 h2; have := HWRQ.out; omega) hqx HZQ.out)
            have SRC : Hid (RS (w7.setRow q #[.bool true, .int .i64 tt.kind, .int .i64 tt.num, .string tt.text, .slice TA tt.items.length tc, .slice TB tt.names.length td]) g BB s7) := Lib.hid (HS7.out.keep (setRow_other w7 q g _ hqg) (only_br hos (by have := HGL.out; have := HWQ.out; have := HBB.out; omega) (by have := HZ7.out; have := HGL.out; have := HWQ.out; have := HBB.out; omega)))
            have ON : Hid (Only w (w7.setRow q #[.bool true, .int .i64 tt.kind, .int .i64 tt.num, .string tt.text, .slice TA tt.items.length tc, .slice TB tt.names.length td]) g) := Lib.hid (HON7.out.near hos HWQ.out)
            have HQ : Hid ((w7.setRow q #[.bool true, .int .i64 tt.kind, .int .i64 tt.num, .string tt.text, .slice TA tt.items.length tc, .slice TB tt.names.length td]).heap[q]? = some (.cells #[.bool true, .int .i64 tt.kind, .int .i64 tt.num, .string tt.text, .slice TA tt.items.length tc, .slice TB tt.names.length td] 71 (0, 0))) := Lib.hid (setRow_heap w7 q _ _ _ _ HQ7.out)
            have HONE : Hid (∃ S2 : Nat → Prop, OneL (w7.setRow q #[.bool true, .int .i64 tt.kind, .int .i64 tt.num, .string tt.text, .slice TA tt.items.length tc, .slice TB tt.names.length td]) S2 (some tt) [.bool true, .int .i64 tt.kind, .int .i64 tt.num, .string tt.text, .slice TA tt.items.length tc, .slice TB tt.names.length td] ∧ ∀ b, S2 b → q < b ∧ b < (w7.setRow q #[.bool true, .int .i64 tt.kind, .int .i64 tt.num, .string tt.text, .slice TA tt.items.length tc, .slice TB tt.names.length td]).heap.size) := Lib.hid ⟨NewB w6.heap.size w7, ⟨_, _, _, _, _, rfl, HV7.out.keep fun b hb => setRow_other w7 q b _ (by have := hb.1; have := HZ7.out; omega)⟩, fun b hb => ⟨by have := hb.1; have := HZ7.out; omega, by have := hb.2; simp; exact this⟩⟩
            have HRL : Hid (∀ A c p, (w7.setRow q #[.bool true, .int .i64 tt.kind, .int .i64 tt.num, .string tt.text, .slice TA tt.items.length tc, .slice TB tt.names.length td]).heap[x]? = some (.cells #[.int .i64 r.keep, .int .i64 r.base, .slice A r.l.length c] 32 (0, 0)) → (Value.slice A r.l.length c).ownBlock = some p → p < q) := Lib.hid (fun A c p h1 h2 => by
              have := row_below HRW0.out HX7.out A c p (by rw [← setRow_other w7 q x #[.bool true, .int .i64 tt.kind, .int .i64 tt.num, .string tt.text, .slice TA tt.items.length tc, .slice TB tt.names.length td] hqx]; exact h1) h2
              have := HWRQ.out
              omega)
            clear hos hqx hqg HQ7 HV7 HS7 HON7 HRW7 HX7
            generalize w7.setRow q #[.bool true, .int .i64 tt.kind, .int .i64 tt.num, .string tt.text, .slice TA tt.items.length tc, .slice TB tt.names.length td] = W7 at *
            simp only [Act.put]
            obtain ⟨A, c, xs, S, hx, hown, hones, hSZ⟩ := RW.out
            have hS := fun b hb => (hSZ b hb).1
            obtain ⟨S2, hone, hS2⟩ := HONE.out
            have hxl : x < W7.heap.size := (Array.getElem?_eq_some_iff.1 hx).1
            have hql : q < W7.heap.size := (Array.getElem?_eq_some_iff.1 HQ.out).1
            obtain ⟨n, hnn⟩ : ∃ n, n = r.l.length := ⟨_, rfl⟩
            have hnl : n ≤ 1000000 := by have := HV.out.2.2.1; have := HNL.out; omega
            rw [← hnn] at hx hown hS
            have hS2' : ∀ b, S2 b → w.heap.size ≤ b ∧ b < W7.heap.size ∧ b ≠ x ∧ ∀ p, (Value.slice A n c).ownBlock = some p → b ≠ p := fun b hb => by
              have h := hS2 b hb
              refine ⟨by have := HWQ.out; omega, h.2, by have := HXQ.out; omega, fun p hp => ?_⟩
              have h4 := HRL.out A c p (by rw [← hnn]; exact hx) (by rw [← hnn]; exact hp)
              omega
            have z2 := cell_kxq (x := x) (q := q) (w := W7.drew) (i := 2) (.inl rfl) (Go.Joins.cell_of_block hx 2)
            have p0 := cell_kxq (x := x) (q := q) (w := W7.drew) (i := 0) (.inr rfl) (Go.Joins.cell_of_block HQ.out 0)
            have p1 := cell_kxq (x := x) (q := q) (w := W7.drew) (i := 1) (.inr rfl) (Go.Joins.cell_of_block HQ.out 1)
            have p2 := cell_kxq (x := x) (q := q) (w := W7.drew) (i := 2) (.inr rfl) (Go.Joins.cell_of_block HQ.out 2)
            have p3 := cell_kxq (x := x) (q := q) (w := W7.drew) (i := 3) (.inr rfl) (Go.Joins.cell_of_block HQ.out 3)
            have p4 := cell_kxq (x := x) (q := q) (w := W7.drew) (i := 4) (.inr rfl) (Go.Joins.cell_of_block HQ.out 4)
            have p5 := cell_kxq (x := x) (q := q) (w := W7.drew) (i := 5) (.inr rfl) (Go.Joins.cell_of_block HQ.out 5)
            have HX := Lib.hid hx
            have HOWN := Lib.hid hown
            have HONES := Lib.hid hones
            have HO1 := Lib.hid hone
            have HS := Lib.hid hS
            have HS2 := Lib.hid hS2'
            have HNN := Lib.hid hnn
            have HLL := Lib.hid (And.intro hxl hql)
            clear hx hown hones hS hSZ hone hS2 hS2' hnn hxl hql
            try go_wp2_with fail
            refine wp_region_OT (KeepXQ x q) (fun _ => ⟨rfl, rfl⟩) (fun _ _ _ h k => ⟨k.1.trans h.1, k.2.trans h.2⟩) [10] (.pure [0, 1, 2, 3, 4, 5] (.step 6 (.step 7 (.free [8, 9] (.tail [10]))))) (by kernel_rfl) (by kernel_rfl) (fun _ d _ _ _ h => by cases d <;> exact h) ?_
            refine ot_pure ?_
            simp only [atNats, List.filterMap_cons, List.filterMap_nil, List.getElem?_toArray, List.getElem?_cons_succ, List.getElem?_cons_zero]
            show wpQuiet _ _ _ _ [_, _, _, _, _, _] _
            repeat (go_big_quiet_step (fail))
            refine wpQuiet_nil ?_
            clear z2 p0 p1 p2 p3 p4 p5
            refine ot_step rfl (fun K hK => ?_)
            go_simp
            refine hK _ _ (.inr ⟨Below.heap_alloc W7 _ x HLL.out.1, Below.heap_alloc W7 _ q HLL.out.2⟩) ?_
            clear hK K
            have hb8 : Below W7.heap.size W7 (W7.alloc (.cells #[.bool true, .int .i64 tt.kind, .int .i64 tt.num, .string tt.text, .slice TA tt.items.length tc, .slice TB tt.names.length td] 71)).drew := ((Below.refl _ _).alloc (Nat.le_refl _) _).drew
            have HB8 := Lib.hid hb8
            have HX8 : Hid ((W7.alloc (.cells #[.bool true, .int .i64 tt.kind, .int .i64 tt.num, .string tt.text, .slice TA tt.items.length tc, .slice TB tt.names.length td] 71)).drew.heap[x]? = _) := Lib.hid ((hb8.block x HLL.out.1).trans HX.out)
            have HOWN8 : Hid ((W7.alloc (.cells #[.bool true, .int .i64 tt.kind, .int .i64 tt.num, .string tt.text, .slice TA tt.items.length tc, .slice TB tt.names.length td] 71)).drew.ownsRow w.heap.size 71 6 (.slice A n c) n xs) := Lib.hid (ownsRow_belowR HOWN.out hb8)
            have HLIT : Hid ((W7.alloc (.cells #[.bool true, .int .i64 tt.kind, .int .i64 tt.num, .string tt.text, .slice TA tt.items.length tc, .slice TB tt.names.length td] 71)).drew.heap[W7.heap.size]? = some (.cells #[.bool true, .int .i64 tt.kind, .int .i64 tt.num, .string tt.text, .slice TA tt.items.length tc, .slice TB tt.names.length td] 71 (0, 0))) := Lib.hid (heap_alloc_new W7 _)
            have HONES8 : Hid (OnesL (W7.alloc (.cells #[.bool true, .int .i64 tt.kind, .int .i64 tt.num, .string tt.text, .slice TA tt.items.length tc, .slice TB tt.names.length td] 71)).drew S r.l xs) := Lib.hid (OnesL.keep (fun b hb => hb8.block b (HS.out b hb).2.1) HONES.out)
            have HO18 : Hid (OneL (W7.alloc (.cells #[.bool true, .int .i64 tt.kind, .int .i64 tt.num, .string tt.text, .slice TA tt.items.length tc, .slice TB tt.names.length td] 71)).drew S2 _ _) := Lib.hid (HO1.out.keep fun b hb => hb8.block b (HS2.out b hb).2.1)
            have HWZ : Hid (w.heap.size ≤ (W7.alloc (.cells #[.bool true, .int .i64 tt.kind, .int .i64 tt.num, .string tt.text, .slice TA tt.items.length tc, .slice TB tt.names.length td] 71)).drew.heap.size) := Lib.hid (Nat.le_trans ON.out.size hb8.size)
            have HQ8 : Hid ((W7.alloc (.cells #[.bool true, .int .i64 tt.kind, .int .i64 tt.num, .string tt.text, .slice TA tt.items.length tc, .slice TB tt.names.length td] 71)).drew.heap[q]? = _) := Lib.hid ((hb8.block q HLL.out.2).trans HQ.out)
            have HSZ8 : Hid ((W7.alloc (.cells #[.bool true, .int .i64 tt.kind, .int .i64 tt.num, .string tt.text, .slice TA tt.items.length tc, .slice TB tt.names.length td] 71)).drew.heap.size = W7.heap.size + 1) := Lib.hid (by simp)
            generalize (W7.alloc (.cells #[.bool true, .int .i64 tt.kind, .int .i64 tt.num, .string tt.text, .slice TA tt.items.length tc, .slice TB tt.names.length td] 71)).drew = W8 at *
            clear hb8
            refine ot_act rfl rfl (fun K hK => ?_)
            refine wp_append_ones _ _ rfl w.heap.size (.slice A n c) n xs rfl HOWN8.out (some ⟨W7.heap.size, 0, none⟩) 1 1 [.bool true, .int .i64 tt.kind, .int .i64 tt.num, .string tt.text, .slice TA tt.items.length tc, .slice TB tt.names.length td] rfl (fun h => by cases h) rfl (fun ad e j u hj => by injection e with e; subst e; rw [add_at, Nat.zero_add]; exact (Go.Joins.cell_of_block HLIT.out j).trans (by simpa using hj)) (OneL.one HO18.out) (by omega) HWZ.out fun v9 W9 ho9 hg9 hw9 => ?_
            have hx9 : W9.heap[x]? = W8.heap[x]? := row_kept hg9 (own_not HOWN8.out HX8.out (by decide)) (by have := HLL.out.1; have := HSZ8.out; omega)
            have hq9 : W9.heap[q]? = W8.heap[q]? := hg9.block q (by have := HLL.out.2; have := HSZ8.out; omega) (fun e => by
              have h4 := HRL.out A c q (by rw [← HNN.out]; exact HX.out) (by rw [← HNN.out]; exact e.symm)
              omega)
            refine hK _ _ (.inr ⟨hx9, hq9⟩) ?_
            clear hK K
            simp only [List.getElem_toArray, List.getElem_cons_succ, List.getElem_cons_zero, Act.put, List.setIfInBounds_toArray, List.set_cons_succ, List.set_cons_zero]
            obtain ⟨p9, cap9, rfl, hp9, hpl9⟩ := own_shape ho9 (by omega)
            have HP : Hid (RowI w W9.heap.size (W9.setCell ⟨x, 2, none⟩ (.slice (some ⟨p9, 0, none⟩) (n + 1) cap9)) x (r.note (some tt))) := Lib.hid (RowI.push HX8.out HNN.out HXN.out hg9 hw9 HOWN8.out ho9 HONES8.out HO18.out (fun b hb => ⟨(HS.out b hb).1, by have := (HS.out b hb).2.1; have := HSZ8.out; omega, (HS.out b hb).2.2⟩) (fun b hb => ⟨(HS2.out b hb).1, by have := (HS2.out b hb).2.1; have := HSZ8.out; omega, (HS2.out b hb).2.2⟩))
            have ho78 : Only W7 W8 g := ⟨HB8.out.os, HB8.out.tape, HB8.out.output, HB8.out.size, fun b hb _ => HB8.out.block b hb⟩
            have ho89 : Below w.heap.size W8 W9 := (Below.refl _ _).grown hg9 HWZ.out (fun k hk => (World.ownsRow.lt HOWN8.out k hk).1)
            have ho9s : Below w.heap.size W8 (W9.setCell ⟨x, 2, none⟩ (.slice (some ⟨p9, 0, none⟩) (n + 1) cap9)) := ho89.setCell (p := ⟨x, 2, none⟩) HXN.out _
            have HON9 : Hid (Only w (W9.setCell ⟨x, 2, none⟩ (.slice (some ⟨p9, 0, none⟩) (n + 1) cap9)) g) := Lib.hid (only_below_r (ON.out.trans ho78) ho9s (Nat.le_trans ON.out.size HB8.out.size))
            have HSRC9 : Hid (RS (W9.setCell ⟨x, 2, none⟩ (.slice (some ⟨p9, 0, none⟩) (n + 1) cap9)) g BB s7) := Lib.hid ((SRC.out.keep (HB8.out.block g SRC.out.lt) (HB8.out.mono (by have := HBB.out; have := SRC.out.lt; omega))).keep (ho9s.block g HGL.out) (ho9s.mono (by have := HGL.out; have := HBB.out; omega)))
            have yf : W9.frozen? ⟨x, 2, none⟩ = false := Go.Joins.unfrozen_of_block (hx9.trans HX8.out) 2
            have yc : W9.cell? ⟨x, 2, none⟩ = some (.slice A n c) := Go.Joins.cell_of_block (hx9.trans HX8.out) 2
            clear ho9 hg9 hw9 hx9 hq9 hp9 hpl9 ho78 ho89 ho9s HOWN HONES HO1 HX HOWN8 HONES8 HO18 HX8 HLIT HQ8 HQ HONE RW SRC ON
            refine ot_free ?_
            simp only [atNats, List.filterMap_cons, List.filterMap_nil, List.getElem?_toArray, List.getElem?_cons_succ, List.getElem?_cons_zero]
            show wpQuiet _ _ _ _ [_, _] _
            repeat (go_big_quiet_step (fail))
            refine wpQuiet_nil ?_
            refine ot_last rfl (fun K hK => ?_)
            go_simp
            refine hK _ _ ?_
            clear hK K
            refine ot_end ?_
            go_wp2_with fail
            go_roundg (c0 - 1)
            case measure => have := HC0.out; omega
            case rel => exact ⟨_, _, c0 - 1, W9.heap.size, by omega, Lib.hid (by simp), HP, HSRC9, HON9, HNX⟩
          · have hb0' : n6 = (rdByte (some l)).1 := hn6
            clear hn6
            have HKZ := Lib.hid (kept_other (fun h => hb0 (hb0'.trans h)) (fun h => hb1 (hb0'.trans h)))
            have HNX : Hid (RfInv N r0 s0 (c0 - 1) (r.note none) none) := Lib.hid (by
              have h := rfInv_next HV.out HC0.out
              rw [HKZ.out.1, HKZ.out.2] at h
              exact h)
            clear hb0'
            have y1 := rs_c1 SRC.out
            have yg := rs_f1 SRC.out
            have hq7 : (w6.setCell ⟨g, 1, none⟩ (.bool true)).heap[q]? = some (.cells #[.bool false, .int .i64 0, .int .i64 0, .string eS, .slice none 0 0, .slice none 0 0] 71 (0, 0)) := (heap_setCell_other _ ⟨g, 1, none⟩ q _ (by have := HGL.out; have := HWQ.out; show q ≠ g; omega)).trans HQ.out
            have HQ7 := Lib.hid hq7
            have HON7 : Hid (Only w (w6.setCell ⟨g, 1, none⟩ (.bool true)) g) := Lib.hid (ON.out.trans set_only)
            have HRW7 : Hid (RowI w Z (w6.setCell ⟨g, 1, none⟩ (.bool true)) x r) := Lib.hid (RW.out.only set_only HGL.out HXN.out)
            have HS7 : Hid (RS (w6.setCell ⟨g, 1, none⟩ (.bool true)) g BB none) := Lib.hid (rs_spoil SRC.out)
            have HX7 : Hid ((w6.setCell ⟨g, 1, none⟩ (.bool true)).heap[x]? = w4.heap[x]?) := Lib.hid ((heap_setCell_other _ ⟨g, 1, none⟩ x _ (by have := HGL.out; have := HXN.out; show x ≠ g; omega)).trans HXX.out)
            clear hq7 HQ RW SRC ON HRL
            go_wp2_with fail
            generalize w6.setCell ⟨g, 1, none⟩ (.bool true) = W7 at *
            have RW := HRW7
            have SRC := HS7
            have ON := HON7
            have HQ := HQ7
            have HONE : Hid (∃ S2 : Nat → Prop, OneL W7 S2 (none : Option VT) [.bool false, .int .i64 0, .int .i64 0, .string eS, .slice none 0 0, .slice none 0 0] ∧ ∀ b, S2 b → q < b ∧ b < W7.heap.size) := Lib.hid ⟨fun _ => False, rfl, fun _ h => h.elim⟩
            have HRL : Hid (∀ A c p, W7.heap[x]? = some (.cells #[.int .i64 r.keep, .int .i64 r.base, .slice A r.l.length c] 32 (0, 0)) → (Value.slice A r.l.length c).ownBlock = some p → p < q) := Lib.hid (fun A c p h1 h2 => by
              have := row_below HRW0.out HX7.out A c p h1 h2
              have := HWRQ.out
              omega)
            clear HRW7 HS7 HON7 HQ7 HX7 y1 yg
            obtain ⟨A, c, xs, S, hx, hown, hones, hSZ⟩ := RW.out
            have hS := fun b hb => (hSZ b hb).1
            obtain ⟨S2, hone, hS2⟩ := HONE.out
            have hxl : x < W7.heap.size := (Array.getElem?_eq_some_iff.1 hx).1
            have hql : q < W7.heap.size := (Array.getElem?_eq_some_iff.1 HQ.out).1
            obtain ⟨n, hnn⟩ : ∃ n, n = r.l.length := ⟨_, rfl⟩
            have hnl : n ≤ 1000000 := by have := HV.out.2.2.1; have := HNL.out; omega
            rw [← hnn] at hx hown hS
            have hS2' : ∀ b, S2 b → w.heap.size ≤ b ∧ b < W7.heap.size ∧ b ≠ x ∧ ∀ p, (Value.slice A n c).ownBlock = some p → b ≠ p := fun b hb => by
              have h := hS2 b hb
              refine ⟨by have := HWQ.out; omega, h.2, by have := HXQ.out; omega, fun p hp => ?_⟩
              have h4 := HRL.out A c p (by rw [← hnn]; exact hx) (by rw [← hnn]; exact hp)
              omega
            have z2 := cell_kxq (x := x) (q := q) (w := W7.drew) (i := 2) (.inl rfl) (Go.Joins.cell_of_block hx 2)
            have p0 := cell_kxq (x := x) (q := q) (w := W7.drew) (i := 0) (.inr rfl) (Go.Joins.cell_of_block HQ.out 0)
            have p1 := cell_kxq (x := x) (q := q) (w := W7.drew) (i := 1) (.inr rfl) (Go.Joins.cell_of_block HQ.out 1)
            have p2 := cell_kxq (x := x) (q := q) (w := W7.drew) (i := 2) (.inr rfl) (Go.Joins.cell_of_block HQ.out 2)
            have p3 := cell_kxq (x := x) (q := q) (w := W7.drew) (i := 3) (.inr rfl) (Go.Joins.cell_of_block HQ.out 3)
            have p4 := cell_kxq (x := x) (q := q) (w := W7.drew) (i := 4) (.inr rfl) (Go.Joins.cell_of_block HQ.out 4)
            have p5 := cell_kxq (x := x) (q := q) (w := W7.drew) (i := 5) (.inr rfl) (Go.Joins.cell_of_block HQ.out 5)
            have HX := Lib.hid hx
            have HOWN := Lib.hid hown
            have HONES := Lib.hid hones
            have HO1 := Lib.hid hone
            have HS := Lib.hid hS
            have HS2 := Lib.hid hS2'
            have HNN := Lib.hid hnn
            have HLL := Lib.hid (And.intro hxl hql)
            clear hx hown hones hS hSZ hone hS2 hS2' hnn hxl hql
            try go_wp2_with fail
            refine wp_region_OT (KeepXQ x q) (fun _ => ⟨rfl, rfl⟩) (fun _ _ _ h k => ⟨k.1.trans h.1, k.2.trans h.2⟩) [10] (.pure [0, 1, 2, 3, 4, 5] (.step 6 (.step 7 (.free [8, 9] (.tail [10]))))) (by kernel_rfl) (by kernel_rfl) (fun _ d _ _ _ h => by cases d <;> exact h) ?_
            refine ot_pure ?_
            simp only [atNats, List.filterMap_cons, List.filterMap_nil, List.getElem?_toArray, List.getElem?_cons_succ, List.getElem?_cons_zero]
            show wpQuiet _ _ _ _ [_, _, _, _, _, _] _
            repeat (go_big_quiet_step (fail))
            refine wpQuiet_nil ?_
            clear z2 p0 p1 p2 p3 p4 p5
            refine ot_step rfl (fun K hK => ?_)
            go_simp
            refine hK _ _ (.inr ⟨Below.heap_alloc W7 _ x HLL.out.1, Below.heap_alloc W7 _ q HLL.out.2⟩) ?_
            clear hK K
            have hb8 : Below W7.heap.size W7 (W7.alloc (.cells #[.bool false, .int .i64 0, .int .i64 0, .string eS, .slice none 0 0, .slice none 0 0] 71)).drew := ((Below.refl _ _).alloc (Nat.le_refl _) _).drew
            have HB8 := Lib.hid hb8
            have HX8 : Hid ((W7.alloc (.cells #[.bool false, .int .i64 0, .int .i64 0, .string eS, .slice none 0 0, .slice none 0 0] 71)).drew.heap[x]? = _) := Lib.hid ((hb8.block x HLL.out.1).trans HX.out)
            have HOWN8 : Hid ((W7.alloc (.cells #[.bool false, .int .i64 0, .int .i64 0, .string eS, .slice none 0 0, .slice none 0 0] 71)).drew.ownsRow w.heap.size 71 6 (.slice A n c) n xs) := Lib.hid (ownsRow_belowR HOWN.out hb8)
            have HLIT : Hid ((W7.alloc (.cells #[.bool false, .int .i64 0, .int .i64 0, .string eS, .slice none 0 0, .slice none 0 0] 71)).drew.heap[W7.heap.size]? = some (.cells #[.bool false, .int .i64 0, .int .i64 0, .string eS, .slice none 0 0, .slice none 0 0] 71 (0, 0))) := Lib.hid (heap_alloc_new W7 _)
            have HONES8 : Hid (OnesL (W7.alloc (.cells #[.bool false, .int .i64 0, .int .i64 0, .string eS, .slice none 0 0, .slice none 0 0] 71)).drew S r.l xs) := Lib.hid (OnesL.keep (fun b hb => hb8.block b (HS.out b hb).2.1) HONES.out)
            have HO18 : Hid (OneL (W7.alloc (.cells #[.bool false, .int .i64 0, .int .i64 0, .string eS, .slice none 0 0, .slice none 0 0] 71)).drew S2 _ _) := Lib.hid (HO1.out.keep fun b hb => hb8.block b (HS2.out b hb).2.1)
            have HWZ : Hid (w.heap.size ≤ (W7.alloc (.cells #[.bool false, .int .i64 0, .int .i64 0, .string eS, .slice none 0 0, .slice none 0 0] 71)).drew.heap.size) := Lib.hid (Nat.le_trans ON.out.size hb8.size)
            have HQ8 : Hid ((W7.alloc (.cells #[.bool false, .int .i64 0, .int .i64 0, .string eS, .slice none 0 0, .slice none 0 0] 71)).drew.heap[q]? = _) := Lib.hid ((hb8.block q HLL.out.2).trans HQ.out)
            have HSZ8 : Hid ((W7.alloc (.cells #[.bool false, .int .i64 0, .int .i64 0, .string eS, .slice none 0 0, .slice none 0 0] 71)).drew.heap.size = W7.heap.size + 1) := Lib.hid (by simp)
            generalize (W7.alloc (.cells #[.bool false, .int .i64 0, .int .i64 0, .string eS, .slice none 0 0, .slice none 0 0] 71)).drew = W8 at *
            clear hb8
            refine ot_act rfl rfl (fun K hK => ?_)
            refine wp_append_ones _ _ rfl w.heap.size (.slice A n c) n xs rfl HOWN8.out (some ⟨W7.heap.size, 0, none⟩) 1 1 [.bool false, .int .i64 0, .int .i64 0, .string eS, .slice none 0 0, .slice none 0 0] rfl (fun h => by cases h) rfl (fun ad e j u hj => by injection e with e; subst e; rw [add_at, Nat.zero_add]; exact (Go.Joins.cell_of_block HLIT.out j).trans (by simpa using hj)) (OneL.one HO18.out) (by omega) HWZ.out fun v9 W9 ho9 hg9 hw9 => ?_
            have hx9 : W9.heap[x]? = W8.heap[x]? := row_kept hg9 (own_not HOWN8.out HX8.out (by decide)) (by have := HLL.out.1; have := HSZ8.out; omega)
            have hq9 : W9.heap[q]? = W8.heap[q]? := hg9.block q (by have := HLL.out.2; have := HSZ8.out; omega) (fun e => by
              have h4 := HRL.out A c q (by rw [← HNN.out]; exact HX.out) (by rw [← HNN.out]; exact e.symm)
              omega)
            refine hK _ _ (.inr ⟨hx9, hq9⟩) ?_
            clear hK K
            simp only [List.getElem_toArray, List.getElem_cons_succ, List.getElem_cons_zero, Act.put, List.setIfInBounds_toArray, List.set_cons_succ, List.set_cons_zero]
            obtain ⟨p9, cap9, rfl, hp9, hpl9⟩ := own_shape ho9 (by omega)
            have HP : Hid (RowI w W9.heap.size (W9.setCell ⟨x, 2, none⟩ (.slice (some ⟨p9, 0, none⟩) (n + 1) cap9)) x (r.note none)) := Lib.hid (RowI.push HX8.out HNN.out HXN.out hg9 hw9 HOWN8.out ho9 HONES8.out HO18.out (fun b hb => ⟨(HS.out b hb).1, by have := (HS.out b hb).2.1; have := HSZ8.out; omega, (HS.out b hb).2.2⟩) (fun b hb => ⟨(HS2.out b hb).1, by have := (HS2.out b hb).2.1; have := HSZ8.out; omega, (HS2.out b hb).2.2⟩))
            have ho78 : Only W7 W8 g := ⟨HB8.out.os, HB8.out.tape, HB8.out.output, HB8.out.size, fun b hb _ => HB8.out.block b hb⟩
            have ho89 : Below w.heap.size W8 W9 := (Below.refl _ _).grown hg9 HWZ.out (fun k hk => (World.ownsRow.lt HOWN8.out k hk).1)
            have ho9s : Below w.heap.size W8 (W9.setCell ⟨x, 2, none⟩ (.slice (some ⟨p9, 0, none⟩) (n + 1) cap9)) := ho89.setCell (p := ⟨x, 2, none⟩) HXN.out _
            have HON9 : Hid (Only w (W9.setCell ⟨x, 2, none⟩ (.slice (some ⟨p9, 0, none⟩) (n + 1) cap9)) g) := Lib.hid (only_below_r (ON.out.trans ho78) ho9s (Nat.le_trans ON.out.size HB8.out.size))
            have HSRC9 : Hid (RS (W9.setCell ⟨x, 2, none⟩ (.slice (some ⟨p9, 0, none⟩) (n + 1) cap9)) g BB none) := Lib.hid ((SRC.out.keep (HB8.out.block g SRC.out.lt) (HB8.out.mono (by have := HBB.out; have := SRC.out.lt; omega))).keep (ho9s.block g HGL.out) (ho9s.mono (by have := HGL.out; have := HBB.out; omega)))
            have yf : W9.frozen? ⟨x, 2, none⟩ = false := Go.Joins.unfrozen_of_block (hx9.trans HX8.out) 2
            have yc : W9.cell? ⟨x, 2, none⟩ = some (.slice A n c) := Go.Joins.cell_of_block (hx9.trans HX8.out) 2
            clear ho9 hg9 hw9 hx9 hq9 hp9 hpl9 ho78 ho89 ho9s HOWN HONES HO1 HX HOWN8 HONES8 HO18 HX8 HLIT HQ8 HQ HONE RW SRC ON
            refine ot_free ?_
            simp only [atNats, List.filterMap_cons, List.filterMap_nil, List.getElem?_toArray, List.getElem?_cons_succ, List.getElem?_cons_zero]
            show wpQuiet _ _ _ _ [_, _] _
            repeat (go_big_quiet_step (fail))
            refine wpQuiet_nil ?_
            refine ot_last rfl (fun K hK => ?_)
            go_simp
            refine hK _ _ ?_
            clear hK K
            refine ot_end ?_
            go_wp2_with fail
            go_roundg (c0 - 1)
            case measure => have := HC0.out; omega
            case rel => exact ⟨_, _, c0 - 1, W9.heap.size, by omega, Lib.hid (by simp), HP, HSRC9, HON9, HNX⟩
  · skip
    have hbx := below_box (w := w3) (.cells #[.int .i64 (k : Int), .int .i64 ((b : Int)), .slice none 0 0] 32)
    have hox : Only w3 (w3.alloc (.cells #[.int .i64 (k : Int), .int .i64 ((b : Int)), .slice none 0 0] 32)) g := ⟨hbx.os, hbx.tape, hbx.output, hbx.size, fun b hb _ => hbx.block b hb⟩
    have HRW9 : Hid (RowI w 0 (w3.alloc (.cells #[.int .i64 (k : Int), .int .i64 ((b : Int)), .slice none 0 0] 32)) x (startR k b t)) := Lib.hid (by
      have e : startR k b t = ⟨k, ((b : Int)), []⟩ := by unfold startR; congr 1; omega
      rw [hx, e]; exact RowI.start w w3 HO3.out.size _ _)
    have HSR9 : Hid (RS (w3.alloc (.cells #[.int .i64 (k : Int), .int .i64 ((b : Int)), .slice none 0 0] 32)) g BB (some l3)) := Lib.hid (HS3.out.keep (hbx.block g HS3.out.lt) (hbx.mono (by have := HS3.out.lt; have := HBB.out; omega)))
    have HON9 : Hid (Only w (w3.alloc (.cells #[.int .i64 (k : Int), .int .i64 ((b : Int)), .slice none 0 0] 32)) g) := Lib.hid (HO3.out.trans hox)
    clear hbx hox hx HS3 HO3
    go_wp2_with fail
    clear y1 yg
    try rw [← HXE.out]
    generalize w3.alloc (.cells #[.int .i64 (k : Int), .int .i64 ((b : Int)), .slice none 0 0] 32) = w9 at *
    clear htb' hbig
    obtain ⟨N, hN⟩ : ∃ N, N = t - max b (t - k) := ⟨_, rfl⟩
    obtain ⟨r0, hr0⟩ : ∃ r, r = startR k b t := ⟨_, rfl⟩
    obtain ⟨s0, hs0⟩ : ∃ s : Option (List UInt8), s = some l3 := ⟨_, rfl⟩
    rw [← hN, ← hr0, ← hs0] at HR
    rw [← hr0] at HRW9
    rw [← hs0] at HSR9
    have HNL : Hid (N ≤ 1000000) := Lib.hid (by omega)
    have hrb : r0.base = ((max b (t - k) : Nat) : Int) := by rw [hr0]; rfl
    have hrk : r0.keep = (k : Int) := by rw [hr0]; rfl
    have HBT : Hid (r0.base + N = (t : Int) ∧ 0 ≤ r0.keep ∧ r0.keep ≤ 64 ∧ 0 ≤ r0.base ∧ r0.base ≤ 2199023255552) := Lib.hid ⟨by rw [hrb]; omega, by rw [hrk]; omega, by rw [hrk]; omega, by rw [hrb]; omega, by rw [hrb]; omega⟩
    have HV9 : Hid (RfInv N r0 s0 N r0 s0) := Lib.hid ⟨rfl, rfl, by rw [hr0]; show 0 + N = N; omega, by rw [hs0]⟩
    clear hN hr0 hs0 hrb hrk
    go_loopg [7] N (fun n _ wr => ∃ (r : RefI) (s : Option (List UInt8)) (c Z : Nat), n = c ∧ Hid (Z ≤ wr.heap.size) ∧ Hid (RowI w Z wr x r) ∧ Hid (RS wr g BB s) ∧ Hid (Only w wr g) ∧ Hid (RfInv N r0 s0 c r s))
    case atStart => exact ⟨r0, s0, N, 0, rfl, Lib.hid (Nat.zero_le _), HRW9, HSR9, HON9, HV9⟩
    case round =>
      clear HRW9 HSR9 HON9 HV9
      obtain ⟨r, s, c0, Z, hnc, HZ0, RW0, SRC0, ON0, HV⟩ := hrel
      have hrf : r.Fine := by
        have h1 := HV.out.1
        have h2 := HV.out.2.1
        have h3 := HV.out.2.2.1
        have h4 := HBT.out
        have h5 := HNL.out
        exact ⟨by rw [h2]; omega, by rw [h2]; omega, by rw [h1]; omega, by rw [h1]; omega, by omega⟩
      have htop : r.top = (t : Int) - c0 := by
        have h1 := HV.out.1
        have h3 := HV.out.2.2.1
        have h4 := HBT.out.1
        show r.base + (r.l.length : Int) = _
        rw [h1]; omega
      have hc := rtop16_any RW0.out.rat hrf
      rw [htop] at hc
      have HTOPC := Lib.hid hc
      clear hc htop hrf
      go_wp2_with fail
      refine HTOPC.out.mono ?_
      rintro e w4 ⟨rfl, hb4⟩
      have ho4 : Only wr w4 g := ⟨hb4.os, hb4.tape, hb4.output, hb4.size, fun b hb _ => hb4.block b hb⟩
      have RW := Lib.hid (RW0.out.only ho4 HGL.out HXN.out)
      have SRC := Lib.hid (SRC0.out.keep (hb4.block g SRC0.out.lt) (hb4.mono (by have := SRC0.out.lt; have := HBB.out; omega)))
      have ON := Lib.hid (ON0.out.trans ho4)
      have HRW0 := RW
      have hz4 : Z ≤ w4.heap.size := Nat.le_trans HZ0.out hb4.size
      have HZ4 := Lib.hid hz4
      clear hz4
      have hsrc1 := rs_c1 SRC.out
      clear hb4 ho4 HTOPC RW0 SRC0 ON0
      by_cases hc0 : c0 = 0
      · subst hc0
        cases s with
        | none =>
          have hsrc1' : w4.cell? ⟨g, 1, none⟩ = some (.bool true) := hsrc1
          clear hsrc1
          have hnn : ¬ ((t : Int) - ((0 : Nat) : Int) < (t : Int)) := by omega
          go_wp2_with fail
          go_ret
          refine ⟨?_, ON.out, ?_⟩
          · rw [HR.out, finR_none HV.out.2.2.2]; exact SRC.out
          · rw [HR.out, finR_none HV.out.2.2.2]; rfl
        | some l =>
          have hsrc1' : w4.cell? ⟨g, 1, none⟩ = some (.bool false) := hsrc1
          clear hsrc1
          have hnn : ¬ ((t : Int) - ((0 : Nat) : Int) < (t : Int)) := by omega
          have hend : rfRing N r0 s0 = (r, some l) := HV.out.2.2.2
          have HEND := Lib.hid hend
          clear hend
          go_wp2_with fail
          go_ret
          refine ⟨?_, ON.out, ?_⟩
          · rw [HR.out, HEND.out]; exact SRC.out
          · rw [HR.out, HEND.out]; exact ⟨x, rfl, HXN.out, RW.out.rat⟩
      · have hlt : (t : Int) - (c0 : Int) < (t : Int) := by omega
        cases s with
        | none =>
          have hsrc1' : w4.cell? ⟨g, 1, none⟩ = some (.bool true) := hsrc1
          clear hsrc1
          go_wp2_with fail
          go_ret
          refine ⟨?_, ON.out, ?_⟩
          · rw [HR.out, finR_none HV.out.2.2.2]; exact SRC.out
          · rw [HR.out, finR_none HV.out.2.2.2]; rfl
        | some l =>
          have hsrc1' : w4.cell? ⟨g, 1, none⟩ = some (.bool false) := hsrc1
          clear hsrc1
          have HC0 : Hid (0 < c0) := Lib.hid (by omega)
          obtain ⟨q, hq⟩ : ∃ q, q = w4.heap.size := ⟨_, rfl⟩
          have HQE := Lib.hid hq
          have hb5 := below_box (w := w4) (.cells #[.bool false, .int .i64 0, .int .i64 0, .string eS, .slice none 0 0, .slice none 0 0] 71)
          have ho5 : Only w4 (w4.alloc (.cells #[.bool false, .int .i64 0, .int .i64 0, .string eS, .slice none 0 0, .slice none 0 0] 71)) g := ⟨hb5.os, hb5.tape, hb5.output, hb5.size, fun b hb _ => hb5.block b hb⟩
          have SRC5 : Hid (RS (w4.alloc (.cells #[.bool false, .int .i64 0, .int .i64 0, .string eS, .slice none 0 0, .slice none 0 0] 71)) g BB (some l)) := Lib.hid (SRC.out.keep (hb5.block g SRC.out.lt) (hb5.mono (by have := SRC.out.lt; have := HBB.out; omega)))
          have RW5 : Hid (RowI w Z (w4.alloc (.cells #[.bool false, .int .i64 0, .int .i64 0, .string eS, .slice none 0 0, .slice none 0 0] 71)) x r) := Lib.hid (RW.out.only ho5 HGL.out HXN.out)
          have ON5 : Hid (Only w (w4.alloc (.cells #[.bool false, .int .i64 0, .int .i64 0, .string eS, .slice none 0 0, .slice none 0 0] 71)) g) := Lib.hid (ON.out.trans ho5)
          have HQ5 : Hid ((w4.alloc (.cells #[.bool false, .int .i64 0, .int .i64 0, .string eS, .slice none 0 0, .slice none 0 0] 71)).heap[q]? = some (.cells #[.bool false, .int .i64 0, .int .i64 0, .string eS, .slice none 0 0, .slice none 0 0] 71 (0, 0))) := Lib.hid (by rw [hq]; exact heap_alloc_new w4 _)
          have HWQ : Hid (w.heap.size ≤ q) := Lib.hid (by rw [hq]; exact ON.out.size)
          have HXQ : Hid (x < q) := Lib.hid (by rw [hq]; exact RW.out.rat.lt)
          have HWRQ : Hid (w4.heap.size ≤ q) := Lib.hid (by omega)
          have HZQ : Hid (Z ≤ q) := Lib.hid (by have := HZ4.out; omega)
          have HXX5 : Hid ((w4.alloc (.cells #[.bool false, .int .i64 0, .int .i64 0, .string eS, .slice none 0 0, .slice none 0 0] 71)).heap[x]? = w4.heap[x]?) := Lib.hid (hb5.block x RW.out.rat.lt)
          clear hb5 ho5 hq RW SRC ON
          go_wp2_with fail
          try rw [← HQE.out]
          refine (rsbyte_any g BB (some l) _ SRC5.out HBB.out).mono ?_
          rintro e w6 ⟨rfl, hs6, ho6⟩
          obtain ⟨n6, hn6⟩ : ∃ n, n = (rdByte (some l)).1 := ⟨_, rfl⟩
          obtain ⟨s6, hs6e⟩ : ∃ s, s = (rdByte (some l)).2 := ⟨_, rfl⟩
          rw [← hn6]
          rw [← hs6e] at hs6
          have HS6 := Lib.hid hs6e
          have SRC := Lib.hid hs6
          have RW := Lib.hid (RW5.out.only ho6 HGL.out HXN.out)
          have ON := Lib.hid (ON5.out.trans ho6)
          have HQ := Lib.hid ((ho6.block q (Array.getElem?_eq_some_iff.1 HQ5.out).1 (by rintro ⟨⟩; have := HGL.out; have := HWQ.out; omega)).trans HQ5.out)
          have HXX : Hid (w6.heap[x]? = w4.heap[x]?) := Lib.hid ((ho6.block x RW5.out.rat.lt (by rintro ⟨⟩; have := HGL.out; have := HXN.out; omega)).trans HXX5.out)
          have HRL : Hid (∀ A c p, w6.heap[x]? = some (.cells #[.int .i64 r.keep, .int .i64 r.base, .slice A r.l.length c] 32 (0, 0)) → (Value.slice A r.l.length c).ownBlock = some p → p < q) := Lib.hid (fun A c p h1 h2 => by
            have := row_below HRW0.out HXX.out A c p h1 h2
            have := HWRQ.out
            omega)
          clear hs6 ho6 hs6e RW5 SRC5 ON5 HQ5 HXX5 hsrc1'
          by_cases hb0 : n6 = 0
          · have hb0' : n6 = (rdByte (some l)).1 := hn6
            clear hn6
            subst hb0
            have HKZ := Lib.hid (kept_zero hb0'.symm)
            clear hb0'
            have HNX : Hid (RfInv N r0 s0 (c0 - 1) (r.note none) s6) := Lib.hid (by
              have h := rfInv_next HV.out HC0.out
              rw [HKZ.out.1, HKZ.out.2, ← HS6.out] at h
              exact h)
            have HONE : Hid (∃ S2 : Nat → Prop, OneL w6 S2 (none : Option VT) [.bool false, .int .i64 0, .int .i64 0, .string eS, .slice none 0 0, .slice none 0 0] ∧ ∀ b, S2 b → q < b ∧ b < w6.heap.size) := Lib.hid ⟨fun _ => False, rfl, fun _ h => h.elim⟩
            go_wp2_with fail
            obtain ⟨A, c, xs, S, hx, hown, hones, hSZ⟩ := RW.out
            have hS := fun b hb => (hSZ b hb).1
            obtain ⟨S2, hone, hS2⟩ := HONE.out
            have hxl : x < w6.heap.size := (Array.getElem?_eq_some_iff.1 hx).1
            have hql : q < w6.heap.size := (Array.getElem?_eq_some_iff.1 HQ.out).1
            obtain ⟨n, hnn⟩ : ∃ n, n = r.l.length := ⟨_, rfl⟩
            have hnl : n ≤ 1000000 := by have := HV.out.2.2.1; have := HNL.out; omega
            rw [← hnn] at hx hown hS
            have hS2' : ∀ b, S2 b → w.heap.size ≤ b ∧ b < w6.heap.size ∧ b ≠ x ∧ ∀ p, (Value.slice A n c).ownBlock = some p → b ≠ p := fun b hb => by
              have h := hS2 b hb
              refine ⟨by have := HWQ.out; omega, h.2, by have := HXQ.out; omega, fun p hp => ?_⟩
              have h4 := HRL.out A c p (by rw [← hnn]; exact hx) (by rw [← hnn]; exact hp)
              omega
            have z2 := cell_kxq (x := x) (q := q) (w := w6.drew) (i := 2) (.inl rfl) (Go.Joins.cell_of_block hx 2)
            have p0 := cell_kxq (x := x) (q := q) (w := w6.drew) (i := 0) (.inr rfl) (Go.Joins.cell_of_block HQ.out 0)
            have p1 := cell_kxq (x := x) (q := q) (w := w6.drew) (i := 1) (.inr rfl) (Go.Joins.cell_of_block HQ.out 1)
            have p2 := cell_kxq (x := x) (q := q) (w := w6.drew) (i := 2) (.inr rfl) (Go.Joins.cell_of_block HQ.out 2)
            have p3 := cell_kxq (x := x) (q := q) (w := w6.drew) (i := 3) (.inr rfl) (Go.Joins.cell_of_block HQ.out 3)
            have p4 := cell_kxq (x := x) (q := q) (w := w6.drew) (i := 4) (.inr rfl) (Go.Joins.cell_of_block HQ.out 4)
            have p5 := cell_kxq (x := x) (q := q) (w := w6.drew) (i := 5) (.inr rfl) (Go.Joins.cell_of_block HQ.out 5)
            have HX := Lib.hid hx
            have HOWN := Lib.hid hown
            have HONES := Lib.hid hones
            have HO1 := Lib.hid hone
            have HS := Lib.hid hS
            have HS2 := Lib.hid hS2'
            have HNN := Lib.hid hnn
            have HLL := Lib.hid (And.intro hxl hql)
            clear hx hown hones hS hSZ hone hS2 hS2' hnn hxl hql
            try go_wp2_with fail
            refine wp_region_OT (KeepXQ x q) (fun _ => ⟨rfl, rfl⟩) (fun _ _ _ h k => ⟨k.1.trans h.1, k.2.trans h.2⟩) [10] (.pure [0, 1, 2, 3, 4, 5] (.step 6 (.step 7 (.free [8, 9] (.tail [10]))))) (by kernel_rfl) (by kernel_rfl) (fun _ d _ _ _ h => by cases d <;> exact h) ?_
            refine ot_pure ?_
            simp only [atNats, List.filterMap_cons, List.filterMap_nil, List.getElem?_toArray, List.getElem?_cons_succ, List.getElem?_cons_zero]
            show wpQuiet _ _ _ _ [_, _, _, _, _, _] _
            repeat (go_big_quiet_step (fail))
            refine wpQuiet_nil ?_
            clear z2 p0 p1 p2 p3 p4 p5
            refine ot_step rfl (fun K hK => ?_)
            go_simp
            refine hK _ _ (.inr ⟨Below.heap_alloc w6 _ x HLL.out.1, Below.heap_alloc w6 _ q HLL.out.2⟩) ?_
            clear hK K
            have hb8 : Below w6.heap.size w6 (w6.alloc (.cells #[.bool false, .int .i64 0, .int .i64 0, .string eS, .slice none 0 0, .slice none 0 0] 71)).drew := ((Below.refl _ _).alloc (Nat.le_refl _) _).drew
            have HB8 := Lib.hid hb8
            have HX8 : Hid ((w6.alloc (.cells #[.bool false, .int .i64 0, .int .i64 0, .string eS, .slice none 0 0, .slice none 0 0] 71)).drew.heap[x]? = _) := Lib.hid ((hb8.block x HLL.out.1).trans HX.out)
            have HOWN8 : Hid ((w6.alloc (.cells #[.bool false, .int .i64 0, .int .i64 0, .string eS, .slice none 0 0, .slice none 0 0] 71)).drew.ownsRow w.heap.size 71 6 (.slice A n c) n xs) := Lib.hid (ownsRow_belowR HOWN.out hb8)
            have HLIT : Hid ((w6.alloc (.cells #[.bool false, .int .i64 0, .int .i64 0, .string eS, .slice none 0 0, .slice none 0 0] 71)).drew.heap[w6.heap.size]? = some (.cells #[.bool false, .int .i64 0, .int .i64 0, .string eS, .slice none 0 0, .slice none 0 0] 71 (0, 0))) := Lib.hid (heap_alloc_new w6 _)
            have HONES8 : Hid (OnesL (w6.alloc (.cells #[.bool false, .int .i64 0, .int .i64 0, .string eS, .slice none 0 0, .slice none 0 0] 71)).drew S r.l xs) := Lib.hid (OnesL.keep (fun b hb => hb8.block b (HS.out b hb).2.1) HONES.out)
            have HO18 : Hid (OneL (w6.alloc (.cells #[.bool false, .int .i64 0, .int .i64 0, .string eS, .slice none 0 0, .slice none 0 0] 71)).drew S2 _ _) := Lib.hid (HO1.out.keep fun b hb => hb8.block b (HS2.out b hb).2.1)
            have HWZ : Hid (w.heap.size ≤ (w6.alloc (.cells #[.bool false, .int .i64 0, .int .i64 0, .string eS, .slice none 0 0, .slice none 0 0] 71)).drew.heap.size) := Lib.hid (Nat.le_trans ON.out.size hb8.size)
            have HQ8 : Hid ((w6.alloc (.cells #[.bool false, .int .i64 0, .int .i64 0, .string eS, .slice none 0 0, .slice none 0 0] 71)).drew.heap[q]? = _) := Lib.hid ((hb8.block q HLL.out.2).trans HQ.out)
            have HSZ8 : Hid ((w6.alloc (.cells #[.bool false, .int .i64 0, .int .i64 0, .string eS, .slice none 0 0, .slice none 0 0] 71)).drew.heap.size = w6.heap.size + 1) := Lib.hid (by simp)
            generalize (w6.alloc (.cells #[.bool false, .int .i64 0, .int .i64 0, .string eS, .slice none 0 0, .slice none 0 0] 71)).drew = W8 at *
            clear hb8
            refine ot_act rfl rfl (fun K hK => ?_)
            refine wp_append_ones _ _ rfl w.heap.size (.slice A n c) n xs rfl HOWN8.out (some ⟨w6.heap.size, 0, none⟩) 1 1 [.bool false, .int .i64 0, .int .i64 0, .string eS, .slice none 0 0, .slice none 0 0] rfl (fun h => by cases h) rfl (fun ad e j u hj => by injection e with e; subst e; rw [add_at, Nat.zero_add]; exact (Go.Joins.cell_of_block HLIT.out j).trans (by simpa using hj)) (OneL.one HO18.out) (by omega) HWZ.out fun v9 W9 ho9 hg9 hw9 => ?_
            have hx9 : W9.heap[x]? = W8.heap[x]? := row_kept hg9 (own_not HOWN8.out HX8.out (by decide)) (by have := HLL.out.1; have := HSZ8.out; omega)
            have hq9 : W9.heap[q]? = W8.heap[q]? := hg9.block q (by have := HLL.out.2; have := HSZ8.out; omega) (fun e => by
              have h4 := HRL.out A c q (by rw [← HNN.out]; exact HX.out) (by rw [← HNN.out]; exact e.symm)
              omega)
            refine hK _ _ (.inr ⟨hx9, hq9⟩) ?_
            clear hK K
            simp only [List.getElem_toArray, List.getElem_cons_succ, List.getElem_cons_zero, Act.put, List.setIfInBounds_toArray, List.set_cons_succ, List.set_cons_zero]
            obtain ⟨p9, cap9, rfl, hp9, hpl9⟩ := own_shape ho9 (by omega)
            have HP : Hid (RowI w W9.heap.size (W9.setCell ⟨x, 2, none⟩ (.slice (some ⟨p9, 0, none⟩) (n + 1) cap9)) x (r.note none)) := Lib.hid (RowI.push HX8.out HNN.out HXN.out hg9 hw9 HOWN8.out ho9 HONES8.out HO18.out (fun b hb => ⟨(HS.out b hb).1, by have := (HS.out b hb).2.1; have := HSZ8.out; omega, (HS.out b hb).2.2⟩) (fun b hb => ⟨(HS2.out b hb).1, by have := (HS2.out b hb).2.1; have := HSZ8.out; omega, (HS2.out b hb).2.2⟩))
            have ho78 : Only w6 W8 g := ⟨HB8.out.os, HB8.out.tape, HB8.out.output, HB8.out.size, fun b hb _ => HB8.out.block b hb⟩
            have ho89 : Below w.heap.size W8 W9 := (Below.refl _ _).grown hg9 HWZ.out (fun k hk => (World.ownsRow.lt HOWN8.out k hk).1)
            have ho9s : Below w.heap.size W8 (W9.setCell ⟨x, 2, none⟩ (.slice (some ⟨p9, 0, none⟩) (n + 1) cap9)) := ho89.setCell (p := ⟨x, 2, none⟩) HXN.out _
            have HON9 : Hid (Only w (W9.setCell ⟨x, 2, none⟩ (.slice (some ⟨p9, 0, none⟩) (n + 1) cap9)) g) := Lib.hid (only_below_r (ON.out.trans ho78) ho9s (Nat.le_trans ON.out.size HB8.out.size))
            have HSRC9 : Hid (RS (W9.setCell ⟨x, 2, none⟩ (.slice (some ⟨p9, 0, none⟩) (n + 1) cap9)) g BB s6) := Lib.hid ((SRC.out.keep (HB8.out.block g SRC.out.lt) (HB8.out.mono (by have := HBB.out; have := SRC.out.lt; omega))).keep (ho9s.block g HGL.out) (ho9s.mono (by have := HGL.out; have := HBB.out; omega)))
            have yf : W9.frozen? ⟨x, 2, none⟩ = false := Go.Joins.unfrozen_of_block (hx9.trans HX8.out) 2
            have yc : W9.cell? ⟨x, 2, none⟩ = some (.slice A n c) := Go.Joins.cell_of_block (hx9.trans HX8.out) 2
            clear ho9 hg9 hw9 hx9 hq9 hp9 hpl9 ho78 ho89 ho9s HOWN HONES HO1 HX HOWN8 HONES8 HO18 HX8 HLIT HQ8 HQ HONE RW SRC ON
            refine ot_free ?_
            simp only [atNats, List.filterMap_cons, List.filterMap_nil, List.getElem?_toArray, List.getElem?_cons_succ, List.getElem?_cons_zero]
            show wpQuiet _ _ _ _ [_, _] _
            repeat (go_big_quiet_step (fail))
            refine wpQuiet_nil ?_
            refine ot_last rfl (fun K hK => ?_)
            go_simp
            refine hK _ _ ?_
            clear hK K
            refine ot_end ?_
            go_wp2_with fail
            go_roundg (c0 - 1)
            case measure => have := HC0.out; omega
            case rel => exact ⟨_, _, c0 - 1, W9.heap.size, by omega, Lib.hid (by simp), HP, HSRC9, HON9, HNX⟩
          by_cases hb1 : n6 = 1
          · have hb1' : n6 = (rdByte (some l)).1 := hn6
            clear hn6
            subst hb1
            have HKZ := Lib.hid (kept_one hb1'.symm)
            clear hb1'
            go_wp2_with fail
            refine (rread_any g BB s6 w6 SRC.out HBB.out).mono ?_
            rintro e w7 ⟨v7, rfl, hs7, ho7, hv7⟩
            obtain ⟨tt, htt⟩ : ∃ t, t = (readO s6).1 := ⟨_, rfl⟩
            obtain ⟨s7, hs7e⟩ : ∃ s, s = (readO s6).2 := ⟨_, rfl⟩
            rw [← htt] at hv7
            rw [← hs7e] at hs7
            obtain ⟨TA, tc, TB, td, rfl, -⟩ := hv7.shape
            have HNX : Hid (RfInv N r0 s0 (c0 - 1) (r.note (some tt)) s7) := Lib.hid (by
              have h := rfInv_next HV.out HC0.out
              rw [HKZ.out.1, HKZ.out.2, ← HS6.out, ← htt, ← hs7e] at h
              exact h)
            have hq7 : w7.heap[q]? = some (.cells #[.bool false, .int .i64 0, .int .i64 0, .string eS, .slice none 0 0, .slice none 0 0] 71 (0, 0)) := (ho7.block q (Array.getElem?_eq_some_iff.1 HQ.out).1 (by rintro ⟨⟩; have := HGL.out; have := HWQ.out; omega)).trans HQ.out
            have HQ7 := Lib.hid hq7
            have HV7 := Lib.hid hv7
            have HS7 := Lib.hid hs7
            have HON7 := Lib.hid (ON.out.trans ho7)
            have HRW7 := Lib.hid (RW.out.only ho7 HGL.out HXN.out)
            have HX7 : Hid (w7.heap[x]? = w4.heap[x]?) := Lib.hid ((ho7.block x RW.out.rat.lt (by rintro ⟨⟩; have := HGL.out; have := HXN.out; omega)).trans HXX.out)
            have HZ7 : Hid (q < w6.heap.size ∧ w6.heap.size ≤ w7.heap.size) := Lib.hid ⟨(Array.getElem?_eq_some_iff.1 HQ.out).1, ho7.size⟩
            have HSI : Hid ((Try.prog.info? 71).map (·.size) = some 6) := Lib.hid sizeOne
            clear hv7 hs7 ho7 htt hs7e hq7 HQ RW SRC ON HRL HXX
            go_wp2_with (refine wpList_store_row rfl 71 _ _ rfl q #[.bool true, .int .i64 tt.kind, .int .i64 tt.num, .string tt.text, .slice TA tt.items.length tc, .slice TB tt.names.length td] rfl rfl _ _ HQ7.out HSI.out rfl (by simp [Value.oneCell']) ?_)
            have hqx : x ≠ q := by have := HXQ.out; omega
            have hqg : g ≠ q := by have := HGL.out; have := HWQ.out; omega
            have hos : Only w7 (w7.setRow q #[.bool true, .int .i64 tt.kind, .int .i64 tt.num, .string tt.text, .slice TA tt.items.length tc, .slice TB tt.names.length td]) q := ⟨rfl, rfl, rfl, by simp, fun b _ hb => setRow_other w7 q b _ (by rintro rfl; exact hb rfl)⟩
            have RW : Hid (RowI w Z (w7.setRow q #[.bool true, .int .i64 tt.kind, .int .i64 tt.num, .string tt.text, .slice TA tt.items.length tc, .slice TB tt.names.length td]) x r) := Lib.hid (row_set HRW7.out (fun A c p h1 h2 => by have := row_below HRW0.out HX7.out A c p h1 h2; have := HWRQ.out; omega) hqx HZQ.out)
            have SRC : Hid (RS (w7.setRow q #[.bool true, .int .i64 tt.kind, .int .i64 tt.num, .string tt.text, .slice TA tt.items.length tc, .slice TB tt.names.length td]) g BB s7) := Lib.hid (HS7.out.keep (setRow_other w7 q g _ hqg) (only_br hos (by have := HGL.out; have := HWQ.out; have := HBB.out; omega) (by have := HZ7.out; have := HGL.out; have := HWQ.out; have := HBB.out; omega)))
            have ON : Hid (Only w (w7.setRow q #[.bool true, .int .i64 tt.kind, .int .i64 tt.num, .string tt.text, .slice TA tt.items.length tc, .slice TB tt.names.length td]) g) := Lib.hid (HON7.out.near hos HWQ.out)
            have HQ : Hid ((w7.setRow q #[.bool true, .int .i64 tt.kind, .int .i64 tt.num, .string tt.text, .slice TA tt.items.length tc, .slice TB tt.names.length td]).heap[q]? = some (.cells #[.bool true, .int .i64 tt.kind, .int .i64 tt.num, .string tt.text, .slice TA tt.items.length tc, .slice TB tt.names.length td] 71 (0, 0))) := Lib.hid (setRow_heap w7 q _ _ _ _ HQ7.out)
            have HONE : Hid (∃ S2 : Nat → Prop, OneL (w7.setRow q #[.bool true, .int .i64 tt.kind, .int .i64 tt.num, .string tt.text, .slice TA tt.items.length tc, .slice TB tt.names.length td]) S2 (some tt) [.bool true, .int .i64 tt.kind, .int .i64 tt.num, .string tt.text, .slice TA tt.items.length tc, .slice TB tt.names.length td] ∧ ∀ b, S2 b → q < b ∧ b < (w7.setRow q #[.bool true, .int .i64 tt.kind, .int .i64 tt.num, .string tt.text, .slice TA tt.items.length tc, .slice TB tt.names.length td]).heap.size) := Lib.hid ⟨NewB w6.heap.size w7, ⟨_, _, _, _, _, rfl, HV7.out.keep fun b hb => setRow_other w7 q b _ (by have := hb.1; have := HZ7.out; omega)⟩, fun b hb => ⟨by have := hb.1; have := HZ7.out; omega, by have := hb.2; simp; exact this⟩⟩
            have HRL : Hid (∀ A c p, (w7.setRow q #[.bool true, .int .i64 tt.kind, .int .i64 tt.num, .string tt.text, .slice TA tt.items.length tc, .slice TB tt.names.length td]).heap[x]? = some (.cells #[.int .i64 r.keep, .int .i64 r.base, .slice A r.l.length c] 32 (0, 0)) → (Value.slice A r.l.length c).ownBlock = some p → p < q) := Lib.hid (fun A c p h1 h2 => by
              have := row_below HRW0.out HX7.out A c p (by rw [← setRow_other w7 q x #[.bool true, .int .i64 tt.kind, .int .i64 tt.num, .string tt.text, .slice TA tt.items.length tc, .slice TB tt.names.length td] hqx]; exact h1) h2
              have := HWRQ.out
              omega)
            clear hos hqx hqg HQ7 HV7 HS7 HON7 HRW7 HX7
            generalize w7.setRow q #[.bool true, .int .i64 tt.kind, .int .i64 tt.num, .string tt.text, .slice TA tt.items.length tc, .slice TB tt.names.length td] = W7 at *
            simp only [Act.put]
            obtain ⟨A, c, xs, S, hx, hown, hones, hSZ⟩ := RW.out
            have hS := fun b hb => (hSZ b hb).1
            obtain ⟨S2, hone, hS2⟩ := HONE.out
            have hxl : x < W7.heap.size := (Array.getElem?_eq_some_iff.1 hx).1
            have hql : q < W7.heap.size := (Array.getElem?_eq_some_iff.1 HQ.out).1
            obtain ⟨n, hnn⟩ : ∃ n, n = r.l.length := ⟨_, rfl⟩
            have hnl : n ≤ 1000000 := by have := HV.out.2.2.1; have := HNL.out; omega
            rw [← hnn] at hx hown hS
            have hS2' : ∀ b, S2 b → w.heap.size ≤ b ∧ b < W7.heap.size ∧ b ≠ x ∧ ∀ p, (Value.slice A n c).ownBlock = some p → b ≠ p := fun b hb => by
              have h := hS2 b hb
              refine ⟨by have := HWQ.out; omega, h.2, by have := HXQ.out; omega, fun p hp => ?_⟩
              have h4 := HRL.out A c p (by rw [← hnn]; exact hx) (by rw [← hnn]; exact hp)
              omega
            have z2 := cell_kxq (x := x) (q := q) (w := W7.drew) (i := 2) (.inl rfl) (Go.Joins.cell_of_block hx 2)
            have p0 := cell_kxq (x := x) (q := q) (w := W7.drew) (i := 0) (.inr rfl) (Go.Joins.cell_of_block HQ.out 0)
            have p1 := cell_kxq (x := x) (q := q) (w := W7.drew) (i := 1) (.inr rfl) (Go.Joins.cell_of_block HQ.out 1)
            have p2 := cell_kxq (x := x) (q := q) (w := W7.drew) (i := 2) (.inr rfl) (Go.Joins.cell_of_block HQ.out 2)
            have p3 := cell_kxq (x := x) (q := q) (w := W7.drew) (i := 3) (.inr rfl) (Go.Joins.cell_of_block HQ.out 3)
            have p4 := cell_kxq (x := x) (q := q) (w := W7.drew) (i := 4) (.inr rfl) (Go.Joins.cell_of_block HQ.out 4)
            have p5 := cell_kxq (x := x) (q := q) (w := W7.drew) (i := 5) (.inr rfl) (Go.Joins.cell_of_block HQ.out 5)
            have HX := Lib.hid hx
            have HOWN := Lib.hid hown
            have HONES := Lib.hid hones
            have HO1 := Lib.hid hone
            have HS := Lib.hid hS
            have HS2 := Lib.hid hS2'
            have HNN := Lib.hid hnn
            have HLL := Lib.hid (And.intro hxl hql)
            clear hx hown hones hS hSZ hone hS2 hS2' hnn hxl hql
            try go_wp2_with fail
            refine wp_region_OT (KeepXQ x q) (fun _ => ⟨rfl, rfl⟩) (fun _ _ _ h k => ⟨k.1.trans h.1, k.2.trans h.2⟩) [10] (.pure [0, 1, 2, 3, 4, 5] (.step 6 (.step 7 (.free [8, 9] (.tail [10]))))) (by kernel_rfl) (by kernel_rfl) (fun _ d _ _ _ h => by cases d <;> exact h) ?_
            refine ot_pure ?_
            simp only [atNats, List.filterMap_cons, List.filterMap_nil, List.getElem?_toArray, List.getElem?_cons_succ, List.getElem?_cons_zero]
            show wpQuiet _ _ _ _ [_, _, _, _, _, _] _
            repeat (go_big_quiet_step (fail))
            refine wpQuiet_nil ?_
            clear z2 p0 p1 p2 p3 p4 p5
            refine ot_step rfl (fun K hK => ?_)
            go_simp
            refine hK _ _ (.inr ⟨Below.heap_alloc W7 _ x HLL.out.1, Below.heap_alloc W7 _ q HLL.out.2⟩) ?_
            clear hK K
            have hb8 : Below W7.heap.size W7 (W7.alloc (.cells #[.bool true, .int .i64 tt.kind, .int .i64 tt.num, .string tt.text, .slice TA tt.items.length tc, .slice TB tt.names.length td] 71)).drew := ((Below.refl _ _).alloc (Nat.le_refl _) _).drew
            have HB8 := Lib.hid hb8
            have HX8 : Hid ((W7.alloc (.cells #[.bool true, .int .i64 tt.kind, .int .i64 tt.num, .string tt.text, .slice TA tt.items.length tc, .slice TB tt.names.length td] 71)).drew.heap[x]? = _) := Lib.hid ((hb8.block x HLL.out.1).trans HX.out)
            have HOWN8 : Hid ((W7.alloc (.cells #[.bool true, .int .i64 tt.kind, .int .i64 tt.num, .string tt.text, .slice TA tt.items.length tc, .slice TB tt.names.length td] 71)).drew.ownsRow w.heap.size 71 6 (.slice A n c) n xs) := Lib.hid (ownsRow_belowR HOWN.out hb8)
            have HLIT : Hid ((W7.alloc (.cells #[.bool true, .int .i64 tt.kind, .int .i64 tt.num, .string tt.text, .slice TA tt.items.length tc, .slice TB tt.names.length td] 71)).drew.heap[W7.heap.size]? = some (.cells #[.bool true, .int .i64 tt.kind, .int .i64 tt.num, .string tt.text, .slice TA tt.items.length tc, .slice TB tt.names.length td] 71 (0, 0))) := Lib.hid (heap_alloc_new W7 _)
            have HONES8 : Hid (OnesL (W7.alloc (.cells #[.bool true, .int .i64 tt.kind, .int .i64 tt.num, .string tt.text, .slice TA tt.items.length tc, .slice TB tt.names.length td] 71)).drew S r.l xs) := Lib.hid (OnesL.keep (fun b hb => hb8.block b (HS.out b hb).2.1) HONES.out)
            have HO18 : Hid (OneL (W7.alloc (.cells #[.bool true, .int .i64 tt.kind, .int .i64 tt.num, .string tt.text, .slice TA tt.items.length tc, .slice TB tt.names.length td] 71)).drew S2 _ _) := Lib.hid (HO1.out.keep fun b hb => hb8.block b (HS2.out b hb).2.1)
            have HWZ : Hid (w.heap.size ≤ (W7.alloc (.cells #[.bool true, .int .i64 tt.kind, .int .i64 tt.num, .string tt.text, .slice TA tt.items.length tc, .slice TB tt.names.length td] 71)).drew.heap.size) := Lib.hid (Nat.le_trans ON.out.size hb8.size)
            have HQ8 : Hid ((W7.alloc (.cells #[.bool true, .int .i64 tt.kind, .int .i64 tt.num, .string tt.text, .slice TA tt.items.length tc, .slice TB tt.names.length td] 71)).drew.heap[q]? = _) := Lib.hid ((hb8.block q HLL.out.2).trans HQ.out)
            have HSZ8 : Hid ((W7.alloc (.cells #[.bool true, .int .i64 tt.kind, .int .i64 tt.num, .string tt.text, .slice TA tt.items.length tc, .slice TB tt.names.length td] 71)).drew.heap.size = W7.heap.size + 1) := Lib.hid (by simp)
            generalize (W7.alloc (.cells #[.bool true, .int .i64 tt.kind, .int .i64 tt.num, .string tt.text, .slice TA tt.items.length tc, .slice TB tt.names.length td] 71)).drew = W8 at *
            clear hb8
            refine ot_act rfl rfl (fun K hK => ?_)
            refine wp_append_ones _ _ rfl w.heap.size (.slice A n c) n xs rfl HOWN8.out (some ⟨W7.heap.size, 0, none⟩) 1 1 [.bool true, .int .i64 tt.kind, .int .i64 tt.num, .string tt.text, .slice TA tt.items.length tc, .slice TB tt.names.length td] rfl (fun h => by cases h) rfl (fun ad e j u hj => by injection e with e; subst e; rw [add_at, Nat.zero_add]; exact (Go.Joins.cell_of_block HLIT.out j).trans (by simpa using hj)) (OneL.one HO18.out) (by omega) HWZ.out fun v9 W9 ho9 hg9 hw9 => ?_
            have hx9 : W9.heap[x]? = W8.heap[x]? := row_kept hg9 (own_not HOWN8.out HX8.out (by decide)) (by have := HLL.out.1; have := HSZ8.out; omega)
            have hq9 : W9.heap[q]? = W8.heap[q]? := hg9.block q (by have := HLL.out.2; have := HSZ8.out; omega) (fun e => by
              have h4 := HRL.out A c q (by rw [← HNN.out]; exact HX.out) (by rw [← HNN.out]; exact e.symm)
              omega)
            refine hK _ _ (.inr ⟨hx9, hq9⟩) ?_
            clear hK K
            simp only [List.getElem_toArray, List.getElem_cons_succ, List.getElem_cons_zero, Act.put, List.setIfInBounds_toArray, List.set_cons_succ, List.set_cons_zero]
            obtain ⟨p9, cap9, rfl, hp9, hpl9⟩ := own_shape ho9 (by omega)
            have HP : Hid (RowI w W9.heap.size (W9.setCell ⟨x, 2, none⟩ (.slice (some ⟨p9, 0, none⟩) (n + 1) cap9)) x (r.note (some tt))) := Lib.hid (RowI.push HX8.out HNN.out HXN.out hg9 hw9 HOWN8.out ho9 HONES8.out HO18.out (fun b hb => ⟨(HS.out b hb).1, by have := (HS.out b hb).2.1; have := HSZ8.out; omega, (HS.out b hb).2.2⟩) (fun b hb => ⟨(HS2.out b hb).1, by have := (HS2.out b hb).2.1; have := HSZ8.out; omega, (HS2.out b hb).2.2⟩))
            have ho78 : Only W7 W8 g := ⟨HB8.out.os, HB8.out.tape, HB8.out.output, HB8.out.size, fun b hb _ => HB8.out.block b hb⟩
            have ho89 : Below w.heap.size W8 W9 := (Below.refl _ _).grown hg9 HWZ.out (fun k hk => (World.ownsRow.lt HOWN8.out k hk).1)
            have ho9s : Below w.heap.size W8 (W9.setCell ⟨x, 2, none⟩ (.slice (some ⟨p9, 0, none⟩) (n + 1) cap9)) := ho89.setCell (p := ⟨x, 2, none⟩) HXN.out _
            have HON9 : Hid (Only w (W9.setCell ⟨x, 2, none⟩ (.slice (some ⟨p9, 0, none⟩) (n + 1) cap9)) g) := Lib.hid (only_below_r (ON.out.trans ho78) ho9s (Nat.le_trans ON.out.size HB8.out.size))
            have HSRC9 : Hid (RS (W9.setCell ⟨x, 2, none⟩ (.slice (some ⟨p9, 0, none⟩) (n + 1) cap9)) g BB s7) := Lib.hid ((SRC.out.keep (HB8.out.block g SRC.out.lt) (HB8.out.mono (by have := HBB.out; have := SRC.out.lt; omega))).keep (ho9s.block g HGL.out) (ho9s.mono (by have := HGL.out; have := HBB.out; omega)))
            have yf : W9.frozen? ⟨x, 2, none⟩ = false := Go.Joins.unfrozen_of_block (hx9.trans HX8.out) 2
            have yc : W9.cell? ⟨x, 2, none⟩ = some (.slice A n c) := Go.Joins.cell_of_block (hx9.trans HX8.out) 2
            clear ho9 hg9 hw9 hx9 hq9 hp9 hpl9 ho78 ho89 ho9s HOWN HONES HO1 HX HOWN8 HONES8 HO18 HX8 HLIT HQ8 HQ HONE RW SRC ON
            refine ot_free ?_
            simp only [atNats, List.filterMap_cons, List.filterMap_nil, List.getElem?_toArray, List.getElem?_cons_succ, List.getElem?_cons_zero]
            show wpQuiet _ _ _ _ [_, _] _
            repeat (go_big_quiet_step (fail))
            refine wpQuiet_nil ?_
            refine ot_last rfl (fun K hK => ?_)
            go_simp
            refine hK _ _ ?_
            clear hK K
            refine ot_end ?_
            go_wp2_with fail
            go_roundg (c0 - 1)
            case measure => have := HC0.out; omega
            case rel => exact ⟨_, _, c0 - 1, W9.heap.size, by omega, Lib.hid (by simp), HP, HSRC9, HON9, HNX⟩
          · have hb0' : n6 = (rdByte (some l)).1 := hn6
            clear hn6
            have HKZ := Lib.hid (kept_other (fun h => hb0 (hb0'.trans h)) (fun h => hb1 (hb0'.trans h)))
            have HNX : Hid (RfInv N r0 s0 (c0 - 1) (r.note none) none) := Lib.hid (by
              have h := rfInv_next HV.out HC0.out
              rw [HKZ.out.1, HKZ.out.2] at h
              exact h)
            clear hb0'
            have y1 := rs_c1 SRC.out
            have yg := rs_f1 SRC.out
            have hq7 : (w6.setCell ⟨g, 1, none⟩ (.bool true)).heap[q]? = some (.cells #[.bool false, .int .i64 0, .int .i64 0, .string eS, .slice none 0 0, .slice none 0 0] 71 (0, 0)) := (heap_setCell_other _ ⟨g, 1, none⟩ q _ (by have := HGL.out; have := HWQ.out; show q ≠ g; omega)).trans HQ.out
            have HQ7 := Lib.hid hq7
            have HON7 : Hid (Only w (w6.setCell ⟨g, 1, none⟩ (.bool true)) g) := Lib.hid (ON.out.trans set_only)
            have HRW7 : Hid (RowI w Z (w6.setCell ⟨g, 1, none⟩ (.bool true)) x r) := Lib.hid (RW.out.only set_only HGL.out HXN.out)
            have HS7 : Hid (RS (w6.setCell ⟨g, 1, none⟩ (.bool true)) g BB none) := Lib.hid (rs_spoil SRC.out)
            have HX7 : Hid ((w6.setCell ⟨g, 1, none⟩ (.bool true)).heap[x]? = w4.heap[x]?) := Lib.hid ((heap_setCell_other _ ⟨g, 1, none⟩ x _ (by have := HGL.out; have := HXN.out; show x ≠ g; omega)).trans HXX.out)
            clear hq7 HQ RW SRC ON HRL
            go_wp2_with fail
            generalize w6.setCell ⟨g, 1, none⟩ (.bool true) = W7 at *
            have RW := HRW7
            have SRC := HS7
            have ON := HON7
            have HQ := HQ7
            have HONE : Hid (∃ S2 : Nat → Prop, OneL W7 S2 (none : Option VT) [.bool false, .int .i64 0, .int .i64 0, .string eS, .slice none 0 0, .slice none 0 0] ∧ ∀ b, S2 b → q < b ∧ b < W7.heap.size) := Lib.hid ⟨fun _ => False, rfl, fun _ h => h.elim⟩
            have HRL : Hid (∀ A c p, W7.heap[x]? = some (.cells #[.int .i64 r.keep, .int .i64 r.base, .slice A r.l.length c] 32 (0, 0)) → (Value.slice A r.l.length c).ownBlock = some p → p < q) := Lib.hid (fun A c p h1 h2 => by
              have := row_below HRW0.out HX7.out A c p h1 h2
              have := HWRQ.out
              omega)
            clear HRW7 HS7 HON7 HQ7 HX7 y1 yg
            obtain ⟨A, c, xs, S, hx, hown, hones, hSZ⟩ := RW.out
            have hS := fun b hb => (hSZ b hb).1
            obtain ⟨S2, hone, hS2⟩ := HONE.out
            have hxl : x < W7.heap.size := (Array.getElem?_eq_some_iff.1 hx).1
            have hql : q < W7.heap.size := (Array.getElem?_eq_some_iff.1 HQ.out).1
            obtain ⟨n, hnn⟩ : ∃ n, n = r.l.length := ⟨_, rfl⟩
            have hnl : n ≤ 1000000 := by have := HV.out.2.2.1; have := HNL.out; omega
            rw [← hnn] at hx hown hS
            have hS2' : ∀ b, S2 b → w.heap.size ≤ b ∧ b < W7.heap.size ∧ b ≠ x ∧ ∀ p, (Value.slice A n c).ownBlock = some p → b ≠ p := fun b hb => by
              have h := hS2 b hb
              refine ⟨by have := HWQ.out; omega, h.2, by have := HXQ.out; omega, fun p hp => ?_⟩
              have h4 := HRL.out A c p (by rw [← hnn]; exact hx) (by rw [← hnn]; exact hp)
              omega
            have z2 := cell_kxq (x := x) (q := q) (w := W7.drew) (i := 2) (.inl rfl) (Go.Joins.cell_of_block hx 2)
            have p0 := cell_kxq (x := x) (q := q) (w := W7.drew) (i := 0) (.inr rfl) (Go.Joins.cell_of_block HQ.out 0)
            have p1 := cell_kxq (x := x) (q := q) (w := W7.drew) (i := 1) (.inr rfl) (Go.Joins.cell_of_block HQ.out 1)
            have p2 := cell_kxq (x := x) (q := q) (w := W7.drew) (i := 2) (.inr rfl) (Go.Joins.cell_of_block HQ.out 2)
            have p3 := cell_kxq (x := x) (q := q) (w := W7.drew) (i := 3) (.inr rfl) (Go.Joins.cell_of_block HQ.out 3)
            have p4 := cell_kxq (x := x) (q := q) (w := W7.drew) (i := 4) (.inr rfl) (Go.Joins.cell_of_block HQ.out 4)
            have p5 := cell_kxq (x := x) (q := q) (w := W7.drew) (i := 5) (.inr rfl) (Go.Joins.cell_of_block HQ.out 5)
            have HX := Lib.hid hx
            have HOWN := Lib.hid hown
            have HONES := Lib.hid hones
            have HO1 := Lib.hid hone
            have HS := Lib.hid hS
            have HS2 := Lib.hid hS2'
            have HNN := Lib.hid hnn
            have HLL := Lib.hid (And.intro hxl hql)
            clear hx hown hones hS hSZ hone hS2 hS2' hnn hxl hql
            try go_wp2_with fail
            refine wp_region_OT (KeepXQ x q) (fun _ => ⟨rfl, rfl⟩) (fun _ _ _ h k => ⟨k.1.trans h.1, k.2.trans h.2⟩) [10] (.pure [0, 1, 2, 3, 4, 5] (.step 6 (.step 7 (.free [8, 9] (.tail [10]))))) (by kernel_rfl) (by kernel_rfl) (fun _ d _ _ _ h => by cases d <;> exact h) ?_
            refine ot_pure ?_
            simp only [atNats, List.filterMap_cons, List.filterMap_nil, List.getElem?_toArray, List.getElem?_cons_succ, List.getElem?_cons_zero]
            show wpQuiet _ _ _ _ [_, _, _, _, _, _] _
            repeat (go_big_quiet_step (fail))
            refine wpQuiet_nil ?_
            clear z2 p0 p1 p2 p3 p4 p5
            refine ot_step rfl (fun K hK => ?_)
            go_simp
            refine hK _ _ (.inr ⟨Below.heap_alloc W7 _ x HLL.out.1, Below.heap_alloc W7 _ q HLL.out.2⟩) ?_
            clear hK K
            have hb8 : Below W7.heap.size W7 (W7.alloc (.cells #[.bool false, .int .i64 0, .int .i64 0, .string eS, .slice none 0 0, .slice none 0 0] 71)).drew := ((Below.refl _ _).alloc (Nat.le_refl _) _).drew
            have HB8 := Lib.hid hb8
            have HX8 : Hid ((W7.alloc (.cells #[.bool false, .int .i64 0, .int .i64 0, .string eS, .slice none 0 0, .slice none 0 0] 71)).drew.heap[x]? = _) := Lib.hid ((hb8.block x HLL.out.1).trans HX.out)
            have HOWN8 : Hid ((W7.alloc (.cells #[.bool false, .int .i64 0, .int .i64 0, .string eS, .slice none 0 0, .slice none 0 0] 71)).drew.ownsRow w.heap.size 71 6 (.slice A n c) n xs) := Lib.hid (ownsRow_belowR HOWN.out hb8)
            have HLIT : Hid ((W7.alloc (.cells #[.bool false, .int .i64 0, .int .i64 0, .string eS, .slice none 0 0, .slice none 0 0] 71)).drew.heap[W7.heap.size]? = some (.cells #[.bool false, .int .i64 0, .int .i64 0, .string eS, .slice none 0 0, .slice none 0 0] 71 (0, 0))) := Lib.hid (heap_alloc_new W7 _)
            have HONES8 : Hid (OnesL (W7.alloc (.cells #[.bool false, .int .i64 0, .int .i64 0, .string eS, .slice none 0 0, .slice none 0 0] 71)).drew S r.l xs) := Lib.hid (OnesL.keep (fun b hb => hb8.block b (HS.out b hb).2.1) HONES.out)
            have HO18 : Hid (OneL (W7.alloc (.cells #[.bool false, .int .i64 0, .int .i64 0, .string eS, .slice none 0 0, .slice none 0 0] 71)).drew S2 _ _) := Lib.hid (HO1.out.keep fun b hb => hb8.block b (HS2.out b hb).2.1)
            have HWZ : Hid (w.heap.size ≤ (W7.alloc (.cells #[.bool false, .int .i64 0, .int .i64 0, .string eS, .slice none 0 0, .slice none 0 0] 71)).drew.heap.size) := Lib.hid (Nat.le_trans ON.out.size hb8.size)
            have HQ8 : Hid ((W7.alloc (.cells #[.bool false, .int .i64 0, .int .i64 0, .string eS, .slice none 0 0, .slice none 0 0] 71)).drew.heap[q]? = _) := Lib.hid ((hb8.block q HLL.out.2).trans HQ.out)
            have HSZ8 : Hid ((W7.alloc (.cells #[.bool false, .int .i64 0, .int .i64 0, .string eS, .slice none 0 0, .slice none 0 0] 71)).drew.heap.size = W7.heap.size + 1) := Lib.hid (by simp)
            generalize (W7.alloc (.cells #[.bool false, .int .i64 0, .int .i64 0, .string eS, .slice none 0 0, .slice none 0 0] 71)).drew = W8 at *
            clear hb8
            refine ot_act rfl rfl (fun K hK => ?_)
            refine wp_append_ones _ _ rfl w.heap.size (.slice A n c) n xs rfl HOWN8.out (some ⟨W7.heap.size, 0, none⟩) 1 1 [.bool false, .int .i64 0, .int .i64 0, .string eS, .slice none 0 0, .slice none 0 0] rfl (fun h => by cases h) rfl (fun ad e j u hj => by injection e with e; subst e; rw [add_at, Nat.zero_add]; exact (Go.Joins.cell_of_block HLIT.out j).trans (by simpa using hj)) (OneL.one HO18.out) (by omega) HWZ.out fun v9 W9 ho9 hg9 hw9 => ?_
            have hx9 : W9.heap[x]? = W8.heap[x]? := row_kept hg9 (own_not HOWN8.out HX8.out (by decide)) (by have := HLL.out.1; have := HSZ8.out; omega)
            have hq9 : W9.heap[q]? = W8.heap[q]? := hg9.block q (by have := HLL.out.2; have := HSZ8.out; omega) (fun e => by
              have h4 := HRL.out A c q (by rw [← HNN.out]; exact HX.out) (by rw [← HNN.out]; exact e.symm)
              omega)
            refine hK _ _ (.inr ⟨hx9, hq9⟩) ?_
            clear hK K
            simp only [List.getElem_toArray, List.getElem_cons_succ, List.getElem_cons_zero, Act.put, List.setIfInBounds_toArray, List.set_cons_succ, List.set_cons_zero]
            obtain ⟨p9, cap9, rfl, hp9, hpl9⟩ := own_shape ho9 (by omega)
            have HP : Hid (RowI w W9.heap.size (W9.setCell ⟨x, 2, none⟩ (.slice (some ⟨p9, 0, none⟩) (n + 1) cap9)) x (r.note none)) := Lib.hid (RowI.push HX8.out HNN.out HXN.out hg9 hw9 HOWN8.out ho9 HONES8.out HO18.out (fun b hb => ⟨(HS.out b hb).1, by have := (HS.out b hb).2.1; have := HSZ8.out; omega, (HS.out b hb).2.2⟩) (fun b hb => ⟨(HS2.out b hb).1, by have := (HS2.out b hb).2.1; have := HSZ8.out; omega, (HS2.out b hb).2.2⟩))
            have ho78 : Only W7 W8 g := ⟨HB8.out.os, HB8.out.tape, HB8.out.output, HB8.out.size, fun b hb _ => HB8.out.block b hb⟩
            have ho89 : Below w.heap.size W8 W9 := (Below.refl _ _).grown hg9 HWZ.out (fun k hk => (World.ownsRow.lt HOWN8.out k hk).1)
            have ho9s : Below w.heap.size W8 (W9.setCell ⟨x, 2, none⟩ (.slice (some ⟨p9, 0, none⟩) (n + 1) cap9)) := ho89.setCell (p := ⟨x, 2, none⟩) HXN.out _
            have HON9 : Hid (Only w (W9.setCell ⟨x, 2, none⟩ (.slice (some ⟨p9, 0, none⟩) (n + 1) cap9)) g) := Lib.hid (only_below_r (ON.out.trans ho78) ho9s (Nat.le_trans ON.out.size HB8.out.size))
            have HSRC9 : Hid (RS (W9.setCell ⟨x, 2, none⟩ (.slice (some ⟨p9, 0, none⟩) (n + 1) cap9)) g BB none) := Lib.hid ((SRC.out.keep (HB8.out.block g SRC.out.lt) (HB8.out.mono (by have := HBB.out; have := SRC.out.lt; omega))).keep (ho9s.block g HGL.out) (ho9s.mono (by have := HGL.out; have := HBB.out; omega)))
            have yf : W9.frozen? ⟨x, 2, none⟩ = false := Go.Joins.unfrozen_of_block (hx9.trans HX8.out) 2
            have yc : W9.cell? ⟨x, 2, none⟩ = some (.slice A n c) := Go.Joins.cell_of_block (hx9.trans HX8.out) 2
            clear ho9 hg9 hw9 hx9 hq9 hp9 hpl9 ho78 ho89 ho9s HOWN HONES HO1 HX HOWN8 HONES8 HO18 HX8 HLIT HQ8 HQ HONE RW SRC ON
            refine ot_free ?_
            simp only [atNats, List.filterMap_cons, List.filterMap_nil, List.getElem?_toArray, List.getElem?_cons_succ, List.getElem?_cons_zero]
            show wpQuiet _ _ _ _ [_, _] _
            repeat (go_big_quiet_step (fail))
            refine wpQuiet_nil ?_
            refine ot_last rfl (fun K hK => ?_)
            go_simp
            refine hK _ _ ?_
            clear hK K
            refine ot_end ?_
            go_wp2_with fail
            go_roundg (c0 - 1)
            case measure => have := HC0.out; omega
            case rel => exact ⟨_, _, c0 - 1, W9.heap.size, by omega, Lib.hid (by simp), HP, HSRC9, HON9, HNX⟩
end Go.Proofs.Ytdggeokpnaopiaa
