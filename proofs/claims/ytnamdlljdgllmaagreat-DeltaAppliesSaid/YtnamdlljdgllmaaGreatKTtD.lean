/- The document's with: a value with another item, or one more. -/
import Derived.Test.YtnamdlljdgllmaaGreatKTtB
import Derived.Test.YtnamdlljdgllmaaGreatKTrV
import Derived.Test.YtnamdlljdgllmaaGreatKTsD
import Derived.Test.YtnamdlljdgllmaaGreatKRefM
namespace Go.Proofs.YtnamdlljdgllmaaGreat
open Lib (hid)
set_option linter.unusedVariables false
set_option linter.unusedSimpArgs false
open Go.RowKit
def withT (t : VT) (i : Int) (s : ByteArray) (x : VT) : VT := if i < t.items.length then setT t i.toNat x else if t.kind = 7 then addI (addN t s) x else addI t x
structure GrewR (w W : World) (A : Option Addr) (p : Nat) : Prop where
  sz : w.heap.size ≤ W.heap.size
  kp : ∀ b, b < w.heap.size → (∀ a, A = some a → a.block ≠ b) → W.heap[b]? = w.heap[b]?
  os : W.os = w.os
  tp : W.tape = w.tape
  ou : W.output = w.output
  pw : A = some ⟨p, 0, none⟩ ∨ w.heap.size ≤ p
theorem wpList_append_top {w : World} {ops : Array Oper} {rest : List Oper} {o : Oper} {a : Act} {Q : Exit → Act → World → Prop} (hgd : o.guard = none) (s y : Operand)
    (ho : o.op = .call { callee := .builtin .append, args := #[s, y], argTypes := #[27, 27] }) {S : Nat → Prop} {A A' : Option Addr} {c c' : Nat} {l : List VT} {ns : List ByteArray} {xs : List Value} (h : TopV w S A c A' c' l ns xs) (hs : a.eval s = .slice A l.length c) (z : Nat) (hy : a.eval y = .slice (some ⟨z, 0, none⟩) 1 1)
    (x : VT) {B B' : Option Addr} {d d' : Nat} (hz : w.heap[z]? = some (.cells #[.int .i64 x.kind, .int .i64 x.num, .string x.text, .slice B x.items.length d, .slice B' x.names.length d'] 29 (0, 0))) (hx : LV w S x (agg5 x B d B' d')) (hl : l.length < 1759218604390)
    (K : ∀ p cap W, TopV W S (some ⟨p, 0, none⟩) cap A' c' (l ++ [x]) ns (xs ++ [.int .i64 x.kind, .int .i64 x.num, .string x.text, .slice B x.items.length d, .slice B' x.names.length d']) → GrewR w W A p → wpList Tryz.prog ops Q rest (a.put o.dst (.slice (some ⟨p, 0, none⟩) (l.length + 1) cap)) W) : wpList Tryz.prog ops Q (o :: rest) a w := by
  refine wpList_plain hgd fun K' hK' => ?_
  obtain ⟨i0, hi, hi0, hi1, hi2⟩ := info_parts Tryz.infoVal
  have hxl : xs.length = l.length * 5 := h.ri.1
  refine wp_append_moved _ s y 27 ho 0 29 i0 _ 5 80 Tryz.underlying27 hi hi0 hi1 hi2 rfl (by decide) (.slice A l.length c) l.length xs hs h.ri ⟨z, 0, none⟩ 1 1 [.int .i64 x.kind, .int .i64 x.num, .string x.text, .slice B x.items.length d, .slice B' x.names.length d'] hy rfl ?_ ?_ (by unfold maxLen; omega) (by omega) (by omega) ?_
  · intro j x hj
    rw [add_at, Nat.zero_add]
    exact (Go.Joins.cell_of_block hz j).trans (by simpa using hj)
  · intro x hx
    simp only [List.mem_cons, List.not_mem_nil, or_false] at hx
    rcases hx with rfl | rfl | rfl | rfl | rfl <;> rfl
  intro v2 W hown hg hmv
  obtain ⟨p, cap, rfl⟩ : ∃ p cap, v2 = .slice (some ⟨p, 0, none⟩) (l.length + 1) cap := by
    rcases hown.2 with ⟨-, h0⟩ | ⟨p, cap, cur, h1, h2, -⟩
    · omega
    · exact ⟨p, cap, h1⟩
  have hpw : A = some ⟨p, 0, none⟩ ∨ w.heap.size ≤ p := by
    rcases hmv with h' | ⟨q, h1, h2⟩
    · left
      cases hA : A with
      | none => rw [hA] at h'; simp [Value.ownBlock] at h'
      | some a =>
        rw [hA] at h'
        simp only [Value.ownBlock, Option.some.injEq] at h'
        rw [row_at h.ri a hA, ← h']
    · right
      simp only [Value.ownBlock, Option.some.injEq] at h2
      omega
  have hoN : ∀ q, q < w.heap.size → (∀ a, A = some a → a.block ≠ q) → W.heap[q]? = w.heap[q]? := fun q hq hne => hg.block q hq (fun e => by
    cases hA : A with
    | none => rw [hA] at e; simp [Value.ownBlock] at e
    | some a => rw [hA] at e; simp only [Value.ownBlock, Option.some.injEq] at e; exact hne a hA e.symm)
  exact hK' _ _ (K p cap W (h.push hx hg.size hown hpw hoN) ⟨hg.size, hoN, hg.os, hg.tape, hg.output, hpw⟩)
theorem wpList_append_topn {w : World} {ops : Array Oper} {rest : List Oper} {o : Oper} {a : Act} {Q : Exit → Act → World → Prop} (hgd : o.guard = none) (s y : Operand)
    (ho : o.op = .call { callee := .builtin .append, args := #[s, y], argTypes := #[23, 23] }) {S : Nat → Prop} {A A' : Option Addr} {c c' : Nat} {l : List VT} {ns : List ByteArray} {xs : List Value} (h : TopV w S A c A' c' l ns xs) (hs : a.eval s = .slice A' ns.length c') (z : Nat) (hy : a.eval y = .slice (some ⟨z, 0, none⟩) 1 1)
    (x : ByteArray) (hz : w.heap[z]? = some (.cells #[.string x] 9 (0, 0))) (hl : ns.length < 8796093021952)
    (K : ∀ p cap W, TopV W S A c (some ⟨p, 0, none⟩) cap l (ns ++ [x]) xs → GrewR w W A' p → wpList Tryz.prog ops Q rest (a.put o.dst (.slice (some ⟨p, 0, none⟩) (ns.length + 1) cap)) W) : wpList Tryz.prog ops Q (o :: rest) a w := by
  refine wpList_plain hgd fun K' hK' => ?_
  obtain ⟨i0, hi, hi0, hi1, hi2⟩ := info_parts Tryz.infoStr
  refine wp_append_moved _ s y 23 ho 0 9 i0 (.string ⟨#[]⟩) 1 16 Tryz.underlying23 hi hi0 hi1 hi2 rfl (by decide) (.slice A' ns.length c') ns.length (ns.map Value.string) hs h.rn ⟨z, 0, none⟩ 1 1 [.string x] hy rfl ?_ ?_ (by unfold maxLen; omega) (by omega) (by omega) ?_
  · intro j x hj
    rw [add_at, Nat.zero_add]
    exact (Go.Joins.cell_of_block hz j).trans (by simpa using hj)
  · intro x hx
    simp only [List.mem_cons, List.not_mem_nil, or_false] at hx
    rcases hx with rfl
    rfl
  intro v2 W hown hg hmv
  obtain ⟨p, cap, rfl⟩ : ∃ p cap, v2 = .slice (some ⟨p, 0, none⟩) (ns.length + 1) cap := by
    rcases hown.2 with ⟨-, h0⟩ | ⟨p, cap, cur, h1, h2, -⟩
    · omega
    · exact ⟨p, cap, h1⟩
  have hpw : A' = some ⟨p, 0, none⟩ ∨ w.heap.size ≤ p := by
    rcases hmv with h' | ⟨q, h1, h2⟩
    · left
      cases hA : A' with
      | none => rw [hA] at h'; simp [Value.ownBlock] at h'
      | some a =>
        rw [hA] at h'
        simp only [Value.ownBlock, Option.some.injEq] at h'
        rw [row_at h.rn a hA, ← h']
    · right
      simp only [Value.ownBlock, Option.some.injEq] at h2
      omega
  have hoN : ∀ q, q < w.heap.size → (∀ a, A' = some a → a.block ≠ q) → W.heap[q]? = w.heap[q]? := fun q hq hne => hg.block q hq (fun e => by
    cases hA : A' with
    | none => rw [hA] at e; simp [Value.ownBlock] at e
    | some a => rw [hA] at e; simp only [Value.ownBlock, Option.some.injEq] at e; exact hne a hA e.symm)
  exact hK' _ _ (K p cap W (h.name hg.size hown hpw hoN) ⟨hg.size, hoN, hg.os, hg.tape, hg.output, hpw⟩)
theorem with_fin {S : Nat → Prop} {w W4 : World} {r : Nat} {S' : Nat → Prop} {A A' : Option Addr} {c c' : Nat} {k i : Int} {s : ByteArray} {l : List VT} {ns : List ByteArray} {xs : List Value} (T : TopV W4 S' A c A' c' l ns xs) (hr : ∀ b, S' b → b ≠ r ∧ (S b ∨ w.heap.size ≤ b)) (ha : ∀ a, A = some a → a.block ≠ r ∧ w.heap.size ≤ a.block) (hb : ∀ a, A' = some a → a.block ≠ r ∧ w.heap.size ≤ a.block) (hSw : ∀ b, S b → b < w.heap.size) (hw : Below w.heap.size w W4) (hrw : w.heap.size ≤ r)
    (h1 : Rng k) (h2 : Rng i) (h3 : s.size ≤ 140737488351232) (h4 : l.length ≤ 1759218604390) (h5 : ns.length ≤ 8796093021952) (h6 : ∀ x ∈ ns, x.size ≤ 140737488351232) :
    LV (five W4 r 0 (.int .i64 k) (.int .i64 i) (.string s) (.slice A l.length c) (.slice A' ns.length c')) (fun b => S b ∨ (w.heap.size ≤ b ∧ b < (five W4 r 0 (.int .i64 k) (.int .i64 i) (.string s) (.slice A l.length c) (.slice A' ns.length c')).heap.size)) (.mk k i s l ns) (.agg #[.int .i64 k, .int .i64 i, .string s, .slice A l.length c, .slice A' ns.length c']) ∧
      Below w.heap.size w (five W4 r 0 (.int .i64 k) (.int .i64 i) (.string s) (.slice A l.length c) (.slice A' ns.length c')) := by
  have hr6 := five_rest W4 r 0 (.int .i64 k) (.int .i64 i) (.string s) (.slice A l.length c) (.slice A' ns.length c')
  have hk6 := five_other W4 r 0 (.int .i64 k) (.int .i64 i) (.string s) (.slice A l.length c) (.slice A' ns.length c')
  have hz6 := five_size W4 r 0 (.int .i64 k) (.int .i64 i) (.string s) (.slice A l.length c) (.slice A' ns.length c')
  have T6 := T.keep (w' := five W4 r 0 (.int .i64 k) (.int .i64 i) (.string s) (.slice A l.length c) (.slice A' ns.length c')) (Nat.le_of_eq hz6.symm) (fun b h => hk6 b (hr b h).1) (fun a h => hk6 _ (ha a h).1) (fun a h => hk6 _ (hb a h).1)
  exact ⟨T6.lvU h1 h2 h3 h4 h5 h6 (fun b h => (hr b h).2.elim .inl fun e => .inr ⟨e, T6.lt b h⟩) (fun a h => .inr ⟨(ha a h).2, (T6.na a h).2⟩) (fun a h => .inr ⟨(hb a h).2, (T6.nb a h).2⟩), hr6.1.trans hw.os, hr6.2.1.trans hw.tape, hr6.2.2.trans hw.output, by rw [hz6]; exact hw.size, fun b h => (hk6 b (by omega)).trans (hw.block b h)⟩
set_option maxHeartbeats 4000000 in
set_option maxRecDepth 100000 in
theorem rwith_any (S : Nat → Prop) (t : VT) (v : Value) (i : Int) (nm : ByteArray) (x : VT) (vx : Value) (w : World) (hS : ∀ b, S b → b < w.heap.size) (h : LV w S t v) (hx : LV w S x vx) (hi : 0 ≤ i) (hl : t.items.length < 1759218604390) (hln : t.names.length < 8796093021952) (hnm : nm.size ≤ 140737488351232) :
    Calls Tryz.prog 98 #[v, .int .i64 i, .string nm, vx] w fun e w' => ∃ v', e = .returned v' ∧ LV w' (fun b => S b ∨ (w.heap.size ≤ b ∧ b < w'.heap.size)) (withT t i nm x) v' ∧ Below w.heap.size w w' := by
  obtain ⟨A0, c0, A0', c0', B0, d0, B0', d0', rfl, rfl, -, -, -, -, -, hV, hX, hb0⟩ := two_vars hS h hx
  have hz0 : ((w.alloc (.cells #[.int .i64 t.kind, .int .i64 t.num, .string t.text, .slice A0 t.items.length c0, .slice A0' t.names.length c0'] 29)).alloc (.cells #[.int .i64 x.kind, .int .i64 x.num, .string x.text, .slice B0 x.items.length d0, .slice B0' x.names.length d0'] 29)).heap.size = w.heap.size + 2 := by simp
  have hR := Box.new (w := ((w.alloc (.cells #[.int .i64 t.kind, .int .i64 t.num, .string t.text, .slice A0 t.items.length c0, .slice A0' t.names.length c0'] 29)).alloc (.cells #[.int .i64 x.kind, .int .i64 x.num, .string x.text, .slice B0 x.items.length d0, .slice B0' x.names.length d0'] 29))) (.int .i64 0) (.int .i64 0) (.string ⟨#[]⟩) (.slice none 0 0) (.slice none 0 0)
  rw [hz0] at hR
  have hbr := below_box (w := ((w.alloc (.cells #[.int .i64 t.kind, .int .i64 t.num, .string t.text, .slice A0 t.items.length c0, .slice A0' t.names.length c0'] 29)).alloc (.cells #[.int .i64 x.kind, .int .i64 x.num, .string x.text, .slice B0 x.items.length d0, .slice B0' x.names.length d0'] 29))) (.cells #[.int .i64 0, .int .i64 0, .string ⟨#[]⟩, .slice none 0 0, .slice none 0 0] 29)
  replace hV := hV.call hbr
  replace hX := hX.call hbr
  have HB := hid (toStart hb0 hbr)
  have HLX := hid hx
  have hz3 : (((w.alloc (.cells #[.int .i64 t.kind, .int .i64 t.num, .string t.text, .slice A0 t.items.length c0, .slice A0' t.names.length c0'] 29)).alloc (.cells #[.int .i64 x.kind, .int .i64 x.num, .string x.text, .slice B0 x.items.length d0, .slice B0' x.names.length d0'] 29)).alloc (.cells #[.int .i64 0, .int .i64 0, .string ⟨#[]⟩, .slice none 0 0, .slice none 0 0] 29)).heap.size = w.heap.size + 3 := by simp
  have HL := hid (rclone_any S t _ _ hV.s hV.v)
  have HS := hid hS
  clear h hx hb0 hbr hz0 hS
  have y0 := hV.x.c0
  have y1 := hV.x.c1
  have y2 := hV.x.c2
  have y3 := hV.x.c3
  have y4 := hV.x.c4
  have yl := hV.x.lt
  go_enter Tryz.func98, Tryz.ntmps98
  go_wp2_with fail
  refine HL.out.mono ?_
  rintro e w1 ⟨v', rfl, hov, hb1⟩
  rw [hz3] at hov
  obtain ⟨A, c, A', c', xs0, rfl, -, -, fA', fA, -, -⟩ := hov.shape
  clear hz3
  replace hV := hV.call hb1
  replace hX := hX.call hb1
  replace hR := hR.call hb1
  replace HB := hid (toStart HB.out hb1)
  have hz1 := hb1.size
  have hlt1 := hR.lt
  clear y0 y1 y2 y3 y4 yl HL
  obtain ⟨xs, htop⟩ := TopV.of hov (fun b hb => hb.2)
  have HTOP := hid (htop.imp (S' := fun b => b < w1.heap.size ∧ (∀ a, A = some a → a.block ≠ b) ∧ (∀ a, A' = some a → a.block ≠ b) ∧ b ≠ w.heap.size + 2 ∧ (S b ∨ w.heap.size ≤ b)) (fun b hb => ⟨hb.1.2, hb.2.1, hb.2.2, by have := hb.1.1; omega, .inr (by have := hb.1.1; omega)⟩) (fun a ha hb => hb.2.1 a ha rfl) (fun a ha hb => hb.2.2.1 a ha rfl) (fun b hb => hb.1))
  have hlx : LV w1 (fun b => b < w1.heap.size ∧ (∀ a, A = some a → a.block ≠ b) ∧ (∀ a, A' = some a → a.block ≠ b) ∧ b ≠ w.heap.size + 2 ∧ (S b ∨ w.heap.size ≤ b)) x (agg5 x B0 d0 B0' d0') := (HLX.out.keep fun b hb => HB.out.block b (HS.out b hb)).imp fun b hb => by
    have h1 := HS.out b hb
    have h2 := HB.out.size
    exact ⟨by omega, fun a ha e => by have := (fA a ha).1; omega, fun a ha e => by have := (fA' a ha).1; omega, by omega, .inl hb⟩
  have HLX1 := hid hlx
  have HFA := hid (And.intro fA fA')
  have hks : Rng t.kind ∧ Rng t.num ∧ t.text.size ≤ 140737488351232 ∧ ∀ s ∈ t.names, s.size ≤ 140737488351232 := by
    obtain ⟨_, _, _, _, -, r1, r2, r3, -, -, s6, -⟩ := hov.lv.shape
    exact ⟨r1, r2, r3, strs_sizes s6⟩
  have HK := hid hks
  clear hlx hks
  clear htop hov fA fA'
  have x0 := hX.x.c0
  have x1 := hX.x.c1
  have x2 := hX.x.c2
  have x3 := hX.x.c3
  have x4 := hX.x.c4
  have xl := hX.x.lt
  have r0 := hR.c0
  have r1 := hR.c1
  have r2 := hR.c2
  have r3 := hR.c3
  have r4 := hR.c4
  have rf0 := hR.free 0
  have rf1 := hR.free 1
  have rf2 := hR.free 2
  have rf3 := hR.free 3
  have rf4 := hR.free 4
  have HR := hid hR
  have HX := hid hX
  have hbx := below_box (w := w1) (.cells #[.int .i64 t.kind, .int .i64 t.num, .string t.text, .slice A t.items.length c, .slice A' t.names.length c'] 29)
  have HBX := hid hbx
  have hzx : (w1.alloc (.cells #[.int .i64 t.kind, .int .i64 t.num, .string t.text, .slice A t.items.length c, .slice A' t.names.length c'] 29)).heap.size = w1.heap.size + 1 := by simp
  have HZX := hid hzx
  have htop2 := HTOP.out.keep (w' := w1.alloc (.cells #[.int .i64 t.kind, .int .i64 t.num, .string t.text, .slice A t.items.length c, .slice A' t.names.length c'] 29)) hbx.size (fun b hb => hbx.block b hb.1) (fun a ha => hbx.block _ (HTOP.out.na a ha).2) (fun a ha => hbx.block _ (HTOP.out.nb a ha).2)
  have HTOP2 := hid htop2
  have HV := hid hV
  clear hR hX hV hbx hzx htop2
  by_cases hlt : i < (t.items.length : Int)
  · obtain ⟨j, rfl⟩ : ∃ j : Nat, i = (j : Int) := ⟨i.toNat, by omega⟩
    have hj : j < t.items.length := by omega
    have hw : withT t (j : Int) nm x = setT t j x := by unfold withT; rw [if_pos hlt, Int.toNat_natCast]
    have HW := hid hw
    clear hw
    obtain ⟨q, rfl⟩ : ∃ q, A = some ⟨q, 0, none⟩ := by
      cases hA : A with
      | none =>
        rcases HTOP.out.ri.2 with ⟨-, h'⟩ | ⟨g, cap, cur, hv, -⟩
        · omega
        · rw [hA] at hv; cases hv
      | some a => exact ⟨a.block, by rw [row_at HTOP.out.ri a hA]⟩
    have hq := (HTOP.out.na _ rfl).2
    replace hq : q < w1.heap.size := hq
    have hqr : w.heap.size + 3 ≤ q := (HFA.out.1 _ rfl).1
    obtain ⟨u0, u1, u2, u3, u4, g0, g1, g2, g3, g4, -⟩ := HTOP.out.it j hj
    have hc : ∀ i v, xs[i]? = some v → w1.cell? ⟨q, i, none⟩ = some v := fun i v hi => by
      have := HTOP.out.ri.cells (g := q) rfl i v hi
      rw [addr_at, Nat.zero_add] at this
      exact this
    have m0 := hc _ _ g0
    have m1 := hc _ _ g1
    have m2 := hc _ _ g2
    have m3 := hc _ _ g3
    have m4 := hc _ _ g4
    obtain ⟨Cq, hCq⟩ : ∃ C, w1.heap[q]? = some (.cells C 29 (0, 0)) := by
      rcases HTOP.out.ri.2 with ⟨hv, -⟩ | ⟨g, cap, cur, hv, -, hh, -⟩
      · cases hv
      · injection hv with e1; injection e1 with e1; injection e1 with e1; subst e1; exact ⟨cur, hh⟩
    have n0 := Go.Joins.unfrozen_of_block hCq (j * 5)
    have n1 := Go.Joins.unfrozen_of_block hCq (j * 5 + 1)
    have n2 := Go.Joins.unfrozen_of_block hCq (j * 5 + 2)
    have n3 := Go.Joins.unfrozen_of_block hCq (j * 5 + 3)
    have n4 := Go.Joins.unfrozen_of_block hCq (j * 5 + 4)
    clear hc g0 g1 g2 g3 g4 hCq
    go_wp2_with fail
    (try simp only [Exit.inBlock, Exit.then])
    have hhi : w.heap.size ≤ w1.heap.size := by omega
    have T5 := HTOP.out.put HLX1.out hj
    have T6 := T5.keep (w' := five (five w1 q (j * 5) (.int .i64 x.kind) (.int .i64 x.num) (.string x.text) (.slice B0 x.items.length d0) (.slice B0' x.names.length d0')) (w.heap.size + 1 + 1) 0 (.int .i64 t.kind) (.int .i64 t.num) (.string t.text) (.slice (some ⟨q, 0, none⟩) t.items.length c) (.slice A' t.names.length c')) (by rw [five_size, five_size, five_size]; exact Nat.le_refl _) (fun b hb => five_other _ _ _ _ _ _ _ _ b hb.2.2.2.1) (fun a ha => five_other _ _ _ _ _ _ _ _ _ (by cases ha; show q ≠ _; omega)) (fun a ha => five_other _ _ _ _ _ _ _ _ _ (by have := (HFA.out.2 a ha).1; omega))
    have T7 := T6.keep (w' := World.alloc _ (.cells #[.int .i64 t.kind, .int .i64 t.num, .string t.text, .slice (some ⟨q, 0, none⟩) t.items.length c, .slice A' t.names.length c'] 29)) (by simp) (fun b hb => Below.heap_alloc _ _ _ (T6.lt b hb)) (fun a ha => Below.heap_alloc _ _ _ (T6.na a ha).2) (fun a ha => Below.heap_alloc _ _ _ (T6.nb a ha).2)
    have hln2 : (t.items.set j x).length = t.items.length := List.length_set
    have FLV := T7.lvU (U := fun b => S b ∨ (w.heap.size ≤ b ∧ b < _)) HK.out.1 HK.out.2.1 HK.out.2.2.1 (by omega) (by omega) HK.out.2.2.2 (fun b hb => hb.2.2.2.2.elim .inl fun e => .inr ⟨e, T7.lt b hb⟩) (fun a ha => .inr ⟨by have := (HFA.out.1 a ha).1; omega, (T7.na a ha).2⟩) (fun a ha => .inr ⟨by have := (HFA.out.2 a ha).1; omega, (T7.nb a ha).2⟩)
    have FIN : Box (World.alloc (five (five w1 q (j * 5) (.int .i64 x.kind) (.int .i64 x.num) (.string x.text) (.slice B0 x.items.length d0) (.slice B0' x.names.length d0')) (w.heap.size + 1 + 1) 0 (.int .i64 t.kind) (.int .i64 t.num) (.string t.text) (.slice (some ⟨q, 0, none⟩) t.items.length c) (.slice A' t.names.length c')) (.cells #[.int .i64 t.kind, .int .i64 t.num, .string t.text, .slice (some ⟨q, 0, none⟩) t.items.length c, .slice A' t.names.length c'] 29)) (w.heap.size + 1 + 1) (.int .i64 t.kind) (.int .i64 t.num) (.string t.text) (.slice (some ⟨q, 0, none⟩) t.items.length c) (.slice A' t.names.length c') :=
      Box.alloc (five_box ((five_other _ _ _ _ _ _ _ _ (w.heap.size + 1 + 1) (by omega)).trans HR.out)) _
    have hr5 := five_rest w1 q (j * 5) (.int .i64 x.kind) (.int .i64 x.num) (.string x.text) (.slice B0 x.items.length d0) (.slice B0' x.names.length d0')
    have hk5 := five_other w1 q (j * 5) (.int .i64 x.kind) (.int .i64 x.num) (.string x.text) (.slice B0 x.items.length d0) (.slice B0' x.names.length d0')
    have hz5 := five_size w1 q (j * 5) (.int .i64 x.kind) (.int .i64 x.num) (.string x.text) (.slice B0 x.items.length d0) (.slice B0' x.names.length d0')
    have hb5 : Below w.heap.size w (five w1 q (j * 5) (.int .i64 x.kind) (.int .i64 x.num) (.string x.text) (.slice B0 x.items.length d0) (.slice B0' x.names.length d0')) := ⟨hr5.1.trans HB.out.os, hr5.2.1.trans HB.out.tape, hr5.2.2.trans HB.out.output, by rw [hz5]; exact HB.out.size, fun b hb => (hk5 b (by omega)).trans (HB.out.block b hb)⟩
    have hr6 := five_rest (five w1 q (j * 5) (.int .i64 x.kind) (.int .i64 x.num) (.string x.text) (.slice B0 x.items.length d0) (.slice B0' x.names.length d0')) (w.heap.size + 1 + 1) 0 (.int .i64 t.kind) (.int .i64 t.num) (.string t.text) (.slice (some ⟨q, 0, none⟩) t.items.length c) (.slice A' t.names.length c')
    have hk6 := five_other (five w1 q (j * 5) (.int .i64 x.kind) (.int .i64 x.num) (.string x.text) (.slice B0 x.items.length d0) (.slice B0' x.names.length d0')) (w.heap.size + 1 + 1) 0 (.int .i64 t.kind) (.int .i64 t.num) (.string t.text) (.slice (some ⟨q, 0, none⟩) t.items.length c) (.slice A' t.names.length c')
    have hz6 := five_size (five w1 q (j * 5) (.int .i64 x.kind) (.int .i64 x.num) (.string x.text) (.slice B0 x.items.length d0) (.slice B0' x.names.length d0')) (w.heap.size + 1 + 1) 0 (.int .i64 t.kind) (.int .i64 t.num) (.string t.text) (.slice (some ⟨q, 0, none⟩) t.items.length c) (.slice A' t.names.length c')
    have hb6 : Below w.heap.size w (five (five w1 q (j * 5) (.int .i64 x.kind) (.int .i64 x.num) (.string x.text) (.slice B0 x.items.length d0) (.slice B0' x.names.length d0')) (w.heap.size + 1 + 1) 0 (.int .i64 t.kind) (.int .i64 t.num) (.string t.text) (.slice (some ⟨q, 0, none⟩) t.items.length c) (.slice A' t.names.length c')) := ⟨hr6.1.trans hb5.os, hr6.2.1.trans hb5.tape, hr6.2.2.trans hb5.output, by rw [hz6]; exact hb5.size, fun b hb => (hk6 b (by omega)).trans (hb5.block b hb)⟩
    refine bodyPost_ret (results_cell_row rfl _ _ (w.heap.size + 1 + 1) 29 _ (0, 0) _ rfl FIN Tryz.underlying29 rfl (by kernel_rfl)) rfl ?_
    refine ⟨_, rfl, ?_, hb6.alloc (by rw [hz6, hz5]; exact hhi) _⟩
    have e1 : withT t (j : Int) nm x = .mk t.kind t.num t.text (t.items.set j x) t.names := by rw [HW.out]; cases t; rfl
    rw [hln2] at FLV
    rw [e1]
    exact FLV
  · have hzb : ((w1.alloc (.cells #[.int .i64 t.kind, .int .i64 t.num, .string t.text, .slice A t.items.length c, .slice A' t.names.length c'] 29)).alloc (.cells #[.int .i64 x.kind, .int .i64 x.num, .string x.text, .slice B0 x.items.length d0, .slice B0' x.names.length d0'] 29)).heap.size = w1.heap.size + 2 := by simp
    have hbb : Below w1.heap.size w1 ((w1.alloc (.cells #[.int .i64 t.kind, .int .i64 t.num, .string t.text, .slice A t.items.length c, .slice A' t.names.length c'] 29)).alloc (.cells #[.int .i64 x.kind, .int .i64 x.num, .string x.text, .slice B0 x.items.length d0, .slice B0' x.names.length d0'] 29)) := (below_box _).alloc (by simp) _
    have TB := HTOP.out.keep (w' := ((w1.alloc (.cells #[.int .i64 t.kind, .int .i64 t.num, .string t.text, .slice A t.items.length c, .slice A' t.names.length c'] 29)).alloc (.cells #[.int .i64 x.kind, .int .i64 x.num, .string x.text, .slice B0 x.items.length d0, .slice B0' x.names.length d0'] 29))) hbb.size (fun b hb => hbb.block b hb.1) (fun a ha => hbb.block _ (HTOP.out.na a ha).2) (fun a ha => hbb.block _ (HTOP.out.nb a ha).2)
    have LB := HLX1.out.keep (w' := ((w1.alloc (.cells #[.int .i64 t.kind, .int .i64 t.num, .string t.text, .slice A t.items.length c, .slice A' t.names.length c'] 29)).alloc (.cells #[.int .i64 x.kind, .int .i64 x.num, .string x.text, .slice B0 x.items.length d0, .slice B0' x.names.length d0'] 29))) fun b hb => hbb.block b hb.1
    have ZB : ((w1.alloc (.cells #[.int .i64 t.kind, .int .i64 t.num, .string t.text, .slice A t.items.length c, .slice A' t.names.length c'] 29)).alloc (.cells #[.int .i64 x.kind, .int .i64 x.num, .string x.text, .slice B0 x.items.length d0, .slice B0' x.names.length d0'] 29)).heap[w1.heap.size + 1]? = some (.cells #[.int .i64 x.kind, .int .i64 x.num, .string x.text, .slice B0 x.items.length d0, .slice B0' x.names.length d0'] 29 (0, 0)) := by
      have := heap_alloc_new (w1.alloc (.cells #[.int .i64 t.kind, .int .i64 t.num, .string t.text, .slice A t.items.length c, .slice A' t.names.length c'] 29)) (.cells #[.int .i64 x.kind, .int .i64 x.num, .string x.text, .slice B0 x.items.length d0, .slice B0' x.names.length d0'] 29)
      simpa using this
    have BB : Box ((w1.alloc (.cells #[.int .i64 t.kind, .int .i64 t.num, .string t.text, .slice A t.items.length c, .slice A' t.names.length c'] 29)).alloc (.cells #[.int .i64 x.kind, .int .i64 x.num, .string x.text, .slice B0 x.items.length d0, .slice B0' x.names.length d0'] 29)) w1.heap.size (.int .i64 t.kind) (.int .i64 t.num) (.string t.text) (.slice A t.items.length c) (.slice A' t.names.length c') := (Box.new _ _ _ _ _).alloc _
    have HTB := hid (And.intro TB (And.intro LB (And.intro ZB BB)))
    have HBB := hid (And.intro hzb hbb)
    clear hzb hbb TB LB ZB BB
    by_cases h7 : t.kind = 7
    · have hk7 : (t.kind == 7) = true := by rw [h7]; rfl
      have H7 := hid h7
      clear h7
      go_wp2_with (at_builtin; go_must (refine wpList_append_top rfl _ _ rfl HTB.out.1 rfl (w1.heap.size + 1) rfl x HTB.out.2.2.1 HTB.out.2.1 hl ?_))
      intro p cap W hT hgr
      have hAlo : ∀ a, A = some a → w.heap.size + 3 ≤ a.block ∧ a.block < w1.heap.size := fun a ha => HFA.out.1 a ha
      have hlow : ∀ b, (b < w.heap.size + 3 ∨ b = w1.heap.size) → W.heap[b]? = ((w1.alloc (.cells #[.int .i64 t.kind, .int .i64 t.num, .string t.text, .slice A t.items.length c, .slice A' t.names.length c'] 29)).alloc (.cells #[.int .i64 x.kind, .int .i64 x.num, .string x.text, .slice B0 x.items.length d0, .slice B0' x.names.length d0'] 29)).heap[b]? := fun b hb => hgr.kp b (by have := HBB.out.1; omega) (fun a ha => by have := hAlo a ha; omega)
      have BW : Box W w1.heap.size (.int .i64 t.kind) (.int .i64 t.num) (.string t.text) (.slice A t.items.length c) (.slice A' t.names.length c') := (hlow _ (.inr rfl)).trans HTB.out.2.2.2
      have RW : Box W (w.heap.size + 2) (.int .i64 0) (.int .i64 0) (.string ⟨#[]⟩) (.slice none 0 0) (.slice none 0 0) := (hlow _ (.inl (by omega))).trans ((HBB.out.2.block _ (by omega)).trans HR.out)
      have VW := (hlow w.heap.size (.inl (by omega))).trans ((HBB.out.2.block _ (by omega)).trans HV.out.x)
      have hbw : Below w.heap.size w W := ⟨hgr.os.trans (HBB.out.2.os.trans HB.out.os), hgr.tp.trans (HBB.out.2.tape.trans HB.out.tape), hgr.ou.trans (HBB.out.2.output.trans HB.out.output), by have := hgr.sz; have := HBB.out.1; have := HB.out.size; omega, fun b hb => (hlow b (.inl (by omega))).trans ((HBB.out.2.block b (by omega)).trans (HB.out.block b hb))⟩
      have hzW : w1.heap.size + 2 ≤ W.heap.size := by have := hgr.sz; have := HBB.out.1; omega
      have z0 := BW.c0
      have z1 := BW.c1
      have z2 := BW.c2
      have z3 := BW.c3
      have z4 := BW.c4
      have zf3 := BW.free 3
      have q0 := Box.c0 VW
      have r0 := RW.c0
      have r1 := RW.c1
      have r2 := RW.c2
      have r3 := RW.c3
      have r4 := RW.c4
      have rf0 := RW.free 0
      have rf1 := RW.free 1
      have rf2 := RW.free 2
      have rf3 := RW.free 3
      have rf4 := RW.free 4
      have hp1 : w.heap.size + 3 ≤ p ∧ p ≠ w1.heap.size := by
        rcases hgr.pw with e | e
        · have h1 : w.heap.size + 3 ≤ p ∧ p < w1.heap.size := hAlo _ e
          omega
        · have := HBB.out.1
          omega
      have T4 := hT.keep (w' := (W.setCell ⟨w1.heap.size, 3, none⟩ (.slice (some ⟨p, 0, none⟩) (t.items.length + 1) cap))) (by simp) (fun b hb => heap_setCell_other _ ⟨w1.heap.size, 3, none⟩ b _ (by have := hb.1; show b ≠ w1.heap.size; omega)) (fun a ha => heap_setCell_other _ ⟨w1.heap.size, 3, none⟩ _ _ (by cases ha; exact hp1.2)) (fun a ha => heap_setCell_other _ ⟨w1.heap.size, 3, none⟩ _ _ (by have := (HFA.out.2 a ha).2; show a.block ≠ w1.heap.size; omega))
      have hb4 : Below w.heap.size w (W.setCell ⟨w1.heap.size, 3, none⟩ (.slice (some ⟨p, 0, none⟩) (t.items.length + 1) cap)) := hbw.setCell (by show w.heap.size ≤ w1.heap.size; omega) _
      have hln3 : (t.items ++ [x]).length = t.items.length + 1 := by simp
      have hzC : ((W.setCell ⟨w1.heap.size, 3, none⟩ (.slice (some ⟨p, 0, none⟩) (t.items.length + 1) cap)).alloc (.cells #[.string nm] 9)).heap.size = W.heap.size + 1 := by simp
      have TC := T4.keep (w' := ((W.setCell ⟨w1.heap.size, 3, none⟩ (.slice (some ⟨p, 0, none⟩) (t.items.length + 1) cap)).alloc (.cells #[.string nm] 9))) (by simp) (fun b hb => Below.heap_alloc _ _ _ (T4.lt b hb)) (fun a ha => Below.heap_alloc _ _ _ (T4.na a ha).2) (fun a ha => Below.heap_alloc _ _ _ (T4.nb a ha).2)
      have ZC : ((W.setCell ⟨w1.heap.size, 3, none⟩ (.slice (some ⟨p, 0, none⟩) (t.items.length + 1) cap)).alloc (.cells #[.string nm] 9)).heap[W.heap.size]? = some (.cells #[.string nm] 9 (0, 0)) := by
        have := heap_alloc_new (W.setCell ⟨w1.heap.size, 3, none⟩ (.slice (some ⟨p, 0, none⟩) (t.items.length + 1) cap)) (.cells #[.string nm] 9)
        simpa using this
      have BC : Box ((W.setCell ⟨w1.heap.size, 3, none⟩ (.slice (some ⟨p, 0, none⟩) (t.items.length + 1) cap)).alloc (.cells #[.string nm] 9)) w1.heap.size (.int .i64 t.kind) (.int .i64 t.num) (.string t.text) (.slice (some ⟨p, 0, none⟩) (t.items.length + 1) cap) (.slice A' t.names.length c') := (BW.set3 (.slice (some ⟨p, 0, none⟩) (t.items.length + 1) cap)).alloc _
      have RC : Box ((W.setCell ⟨w1.heap.size, 3, none⟩ (.slice (some ⟨p, 0, none⟩) (t.items.length + 1) cap)).alloc (.cells #[.string nm] 9)) (w.heap.size + 2) (.int .i64 0) (.int .i64 0) (.string ⟨#[]⟩) (.slice none 0 0) (.slice none 0 0) := (RW.far (p := ⟨w1.heap.size, 3, none⟩) (by show _ ≠ w1.heap.size; omega) (.slice (some ⟨p, 0, none⟩) (t.items.length + 1) cap)).alloc _
      have bC : Below w.heap.size w ((W.setCell ⟨w1.heap.size, 3, none⟩ (.slice (some ⟨p, 0, none⟩) (t.items.length + 1) cap)).alloc (.cells #[.string nm] 9)) := hb4.alloc hb4.size _
      have HTC := hid (And.intro TC (And.intro ZC (And.intro BC (And.intro RC (And.intro bC hzC)))))
      have HP1 := hid hp1
      clear TC ZC BC RC bC hzC T4 hb4 hp1 hT hgr hlow BW RW VW hbw
      clear HX HLX HLX1 HTB HTOP HTOP2 HBX HZX
      go_wp2_with (at_builtin; go_must (refine wpList_append_topn rfl _ _ rfl HTC.out.1 rfl W.heap.size rfl nm HTC.out.2.1 hln ?_))
      intro p2 cap2 W2 hT2 hgr2
      have hA2 : ∀ a, A' = some a → w.heap.size + 3 ≤ a.block ∧ a.block < w1.heap.size := fun a ha => HFA.out.2 a ha
      have hzc := HTC.out.2.2.2.2.2
      have hlow2 : ∀ b, (b < w.heap.size + 3 ∨ b = w1.heap.size) → W2.heap[b]? = ((W.setCell ⟨w1.heap.size, 3, none⟩ (.slice (some ⟨p, 0, none⟩) (t.items.length + 1) cap)).alloc (.cells #[.string nm] 9)).heap[b]? := fun b hb => hgr2.kp b (by omega) (fun a ha => by have := hA2 a ha; omega)
      have BW2 : Box W2 w1.heap.size (.int .i64 t.kind) (.int .i64 t.num) (.string t.text) (.slice (some ⟨p, 0, none⟩) (t.items.length + 1) cap) (.slice A' t.names.length c') := (hlow2 _ (.inr rfl)).trans HTC.out.2.2.1
      have RW2 : Box W2 (w.heap.size + 2) (.int .i64 0) (.int .i64 0) (.string ⟨#[]⟩) (.slice none 0 0) (.slice none 0 0) := (hlow2 _ (.inl (by omega))).trans HTC.out.2.2.2.1
      have bC := HTC.out.2.2.2.2.1
      have hb2 : Below w.heap.size w W2 := ⟨hgr2.os.trans bC.os, hgr2.tp.trans bC.tape, hgr2.ou.trans bC.output, by have := hgr2.sz; have := bC.size; omega, fun b hb => (hlow2 b (.inl (by omega))).trans (bC.block b hb)⟩
      have hp2 : w.heap.size + 3 ≤ p2 ∧ p2 ≠ w1.heap.size := by
        rcases hgr2.pw with e | e
        · have h1 : w.heap.size + 3 ≤ p2 ∧ p2 < w1.heap.size := hA2 _ e
          omega
        · omega
      have T5 := hT2.keep (w' := (W2.setCell ⟨w1.heap.size, 4, none⟩ (.slice (some ⟨p2, 0, none⟩) (t.names.length + 1) cap2))) (by simp) (fun b hb => heap_setCell_other _ ⟨w1.heap.size, 4, none⟩ b _ (by have := hb.1; show b ≠ w1.heap.size; omega)) (fun a ha => heap_setCell_other _ ⟨w1.heap.size, 4, none⟩ _ _ (by cases ha; exact HP1.out.2)) (fun a ha => heap_setCell_other _ ⟨w1.heap.size, 4, none⟩ _ _ (by cases ha; exact hp2.2))
      have hb5 : Below w.heap.size w (W2.setCell ⟨w1.heap.size, 4, none⟩ (.slice (some ⟨p2, 0, none⟩) (t.names.length + 1) cap2)) := hb2.setCell (by show w.heap.size ≤ w1.heap.size; omega) _
      have hln4 : (t.names ++ [nm]).length = t.names.length + 1 := by simp
      have hfin := with_fin (k := t.kind) (i := t.num) (s := t.text) T5 (r := w.heap.size + 1 + 1) (fun b hb => hb.2.2.2) (fun a ha => by cases ha; have := HP1.out.1; show p ≠ w.heap.size + 1 + 1 ∧ w.heap.size ≤ p; omega) (fun a ha => by cases ha; have := hp2.1; show p2 ≠ w.heap.size + 1 + 1 ∧ w.heap.size ≤ p2; omega) HS.out hb5 (by omega) HK.out.1 HK.out.2.1 HK.out.2.2.1 (by omega) (by omega) (fun y hy => (List.mem_append.1 hy).elim (HK.out.2.2.2 y) (fun e => by rw [List.mem_singleton.1 e]; exact hnm))
      rw [hln3, hln4] at hfin
      have FIN := five_box (c0 := .int .i64 t.kind) (c1 := .int .i64 t.num) (c2 := .string t.text) (c3 := (.slice (some ⟨p, 0, none⟩) (t.items.length + 1) cap)) (c4 := (.slice (some ⟨p2, 0, none⟩) (t.names.length + 1) cap2)) (RW2.far (p := ⟨w1.heap.size, 4, none⟩) (by show _ ≠ w1.heap.size; omega) (.slice (some ⟨p2, 0, none⟩) (t.names.length + 1) cap2))
      have z0 := BW2.c0
      have z1 := BW2.c1
      have z2 := BW2.c2
      have z3 := BW2.c3
      have z4 := BW2.c4
      have zf4 := BW2.free 4
      have r0 := RW2.c0
      have r1 := RW2.c1
      have r2 := RW2.c2
      have r3 := RW2.c3
      have r4 := RW2.c4
      have rf0 := RW2.free 0
      have rf1 := RW2.free 1
      have rf2 := RW2.free 2
      have rf3 := RW2.free 3
      have rf4 := RW2.free 4
      have HF := hid (And.intro hfin FIN)
      clear T5 hb5 hfin FIN hp2 hln3 hln4 hT2 hgr2 hlow2 BW2 RW2 bC hb2 hzc HTC HP1
      go_wp2_with fail
      (try simp only [Exit.inBlock, Exit.then])
      refine bodyPost_ret (results_cell_row rfl _ _ (w.heap.size + 1 + 1) 29 _ (0, 0) _ rfl HF.out.2 Tryz.underlying29 rfl (by kernel_rfl)) rfl ?_
      have e1 : withT t i nm x = .mk t.kind t.num t.text (t.items ++ [x]) (t.names ++ [nm]) := by unfold withT; rw [if_neg (by omega), if_pos H7.out]; cases t; rfl
      refine ⟨_, rfl, ?_, HF.out.1.2⟩
      rw [e1]
      exact HF.out.1.1
    · have hk7 : (t.kind == 7) = false := beq_false_of_ne h7
      go_wp2_with (at_builtin; go_must (refine wpList_append_top rfl _ _ rfl HTB.out.1 rfl (w1.heap.size + 1) rfl x HTB.out.2.2.1 HTB.out.2.1 hl ?_))
      intro p cap W hT hgr
      have hAlo : ∀ a, A = some a → w.heap.size + 3 ≤ a.block ∧ a.block < w1.heap.size := fun a ha => HFA.out.1 a ha
      have hlow : ∀ b, (b < w.heap.size + 3 ∨ b = w1.heap.size) → W.heap[b]? = ((w1.alloc (.cells #[.int .i64 t.kind, .int .i64 t.num, .string t.text, .slice A t.items.length c, .slice A' t.names.length c'] 29)).alloc (.cells #[.int .i64 x.kind, .int .i64 x.num, .string x.text, .slice B0 x.items.length d0, .slice B0' x.names.length d0'] 29)).heap[b]? := fun b hb => hgr.kp b (by have := HBB.out.1; omega) (fun a ha => by have := hAlo a ha; omega)
      have BW : Box W w1.heap.size (.int .i64 t.kind) (.int .i64 t.num) (.string t.text) (.slice A t.items.length c) (.slice A' t.names.length c') := (hlow _ (.inr rfl)).trans HTB.out.2.2.2
      have RW : Box W (w.heap.size + 2) (.int .i64 0) (.int .i64 0) (.string ⟨#[]⟩) (.slice none 0 0) (.slice none 0 0) := (hlow _ (.inl (by omega))).trans ((HBB.out.2.block _ (by omega)).trans HR.out)
      have VW := (hlow w.heap.size (.inl (by omega))).trans ((HBB.out.2.block _ (by omega)).trans HV.out.x)
      have hbw : Below w.heap.size w W := ⟨hgr.os.trans (HBB.out.2.os.trans HB.out.os), hgr.tp.trans (HBB.out.2.tape.trans HB.out.tape), hgr.ou.trans (HBB.out.2.output.trans HB.out.output), by have := hgr.sz; have := HBB.out.1; have := HB.out.size; omega, fun b hb => (hlow b (.inl (by omega))).trans ((HBB.out.2.block b (by omega)).trans (HB.out.block b hb))⟩
      have hzW : w1.heap.size + 2 ≤ W.heap.size := by have := hgr.sz; have := HBB.out.1; omega
      have z0 := BW.c0
      have z1 := BW.c1
      have z2 := BW.c2
      have z3 := BW.c3
      have z4 := BW.c4
      have zf3 := BW.free 3
      have q0 := Box.c0 VW
      have r0 := RW.c0
      have r1 := RW.c1
      have r2 := RW.c2
      have r3 := RW.c3
      have r4 := RW.c4
      have rf0 := RW.free 0
      have rf1 := RW.free 1
      have rf2 := RW.free 2
      have rf3 := RW.free 3
      have rf4 := RW.free 4
      have hp1 : w.heap.size + 3 ≤ p ∧ p ≠ w1.heap.size := by
        rcases hgr.pw with e | e
        · have h1 : w.heap.size + 3 ≤ p ∧ p < w1.heap.size := hAlo _ e
          omega
        · have := HBB.out.1
          omega
      have T4 := hT.keep (w' := (W.setCell ⟨w1.heap.size, 3, none⟩ (.slice (some ⟨p, 0, none⟩) (t.items.length + 1) cap))) (by simp) (fun b hb => heap_setCell_other _ ⟨w1.heap.size, 3, none⟩ b _ (by have := hb.1; show b ≠ w1.heap.size; omega)) (fun a ha => heap_setCell_other _ ⟨w1.heap.size, 3, none⟩ _ _ (by cases ha; exact hp1.2)) (fun a ha => heap_setCell_other _ ⟨w1.heap.size, 3, none⟩ _ _ (by have := (HFA.out.2 a ha).2; show a.block ≠ w1.heap.size; omega))
      have hb4 : Below w.heap.size w (W.setCell ⟨w1.heap.size, 3, none⟩ (.slice (some ⟨p, 0, none⟩) (t.items.length + 1) cap)) := hbw.setCell (by show w.heap.size ≤ w1.heap.size; omega) _
      have hln3 : (t.items ++ [x]).length = t.items.length + 1 := by simp
      have hfin := with_fin (k := t.kind) (i := t.num) (s := t.text) T4 (r := w.heap.size + 1 + 1) (fun b hb => hb.2.2.2) (fun a ha => by cases ha; have := hp1.1; show p ≠ w.heap.size + 1 + 1 ∧ w.heap.size ≤ p; omega) (fun a ha => by have := (HFA.out.2 a ha).1; omega) HS.out hb4 (by omega) HK.out.1 HK.out.2.1 HK.out.2.2.1 (by omega) (by omega) HK.out.2.2.2
      rw [hln3] at hfin
      have FIN := five_box (c0 := .int .i64 t.kind) (c1 := .int .i64 t.num) (c2 := .string t.text) (c3 := (.slice (some ⟨p, 0, none⟩) (t.items.length + 1) cap)) (c4 := .slice A' t.names.length c') (RW.far (p := ⟨w1.heap.size, 3, none⟩) (by show _ ≠ w1.heap.size; omega) (.slice (some ⟨p, 0, none⟩) (t.items.length + 1) cap))
      have HF := hid (And.intro hfin FIN)
      clear T4 hb4 hfin FIN hp1 hln3 hT hgr hlow BW RW VW hbw
      clear HX HLX HLX1 HTB HTOP HTOP2 HBX HZX
      go_wp2_with fail
      (try simp only [Exit.inBlock, Exit.then])
      refine bodyPost_ret (results_cell_row rfl _ _ (w.heap.size + 1 + 1) 29 _ (0, 0) _ rfl HF.out.2 Tryz.underlying29 rfl (by kernel_rfl)) rfl ?_
      have e1 : withT t i nm x = .mk t.kind t.num t.text (t.items ++ [x]) t.names := by unfold withT; rw [if_neg (by omega), if_neg h7]; cases t; rfl
      refine ⟨_, rfl, ?_, HF.out.1.2⟩
      rw [e1]
      exact HF.out.1.1
theorem cut_row (xs : List Value) (j m : Nat) (n : Nat) (hn : xs.length = n * 5) (hj : j < n) (k : Nat) (hk : k < 5) : (xs.take (j * 5) ++ xs.drop ((j + 1) * 5))[m * 5 + k]? = if m < j then xs[m * 5 + k]? else xs[(m + 1) * 5 + k]? := by
  have hlt : (xs.take (j * 5)).length = j * 5 := by rw [List.length_take]; omega
  split
  · rw [List.getElem?_append_left (by omega), List.getElem?_take_of_lt (by omega)]
  · rw [List.getElem?_append_right (by omega), hlt, List.getElem?_drop]
    congr 1
    omega
theorem TopV.cut {w W : World} {S : Nat → Prop} {A A' A2 : Option Addr} {c c' c2 : Nat} {l : List VT} {ns : List ByteArray} {xs : List Value} (h : TopV w S A c A' c' l ns xs) {j : Nat} (hj : j < l.length) (hs : w.heap.size ≤ W.heap.size)
    (hrow : W.ownsRow 0 29 5 (.slice A2 (l.eraseIdx j).length c2) (l.eraseIdx j).length (xs.take (j * 5) ++ xs.drop ((j + 1) * 5))) (h2 : ∀ a, A2 = some a → w.heap.size ≤ a.block) (hk : ∀ b, b < w.heap.size → W.heap[b]? = w.heap[b]?) :
    TopV W S A2 c2 A' c' (l.eraseIdx j) ns (xs.take (j * 5) ++ xs.drop ((j + 1) * 5)) := by
  have hxl := h.ri.1
  refine ⟨row_keep h.rn fun a ha => hk _ (h.nb a ha).2, hrow, fun a ha => ⟨fun hb => by have := h.lt _ hb; have := h2 a ha; omega, row_lt hrow a ha⟩, fun a ha => ⟨(h.nb a ha).1, by have := (h.nb a ha).2; omega⟩, fun a a' ha ha' => by have := h2 a ha; have := (h.nb a' ha').2; omega, fun b hb => by have := h.lt b hb; omega, fun m hm => ?_⟩
  have hlen : (l.eraseIdx j).length = l.length - 1 := by rw [List.length_eraseIdx_of_lt hj]
  rw [hlen] at hm
  have hkS : ∀ b, S b → W.heap[b]? = w.heap[b]? := fun b hb => hk b (h.lt b hb)
  have g0 := cut_row xs j m l.length hxl hj 0 (by omega)
  have g1 := cut_row xs j m l.length hxl hj 1 (by omega)
  have g2 := cut_row xs j m l.length hxl hj 2 (by omega)
  have g3 := cut_row xs j m l.length hxl hj 3 (by omega)
  have g4 := cut_row xs j m l.length hxl hj 4 (by omega)
  simp only [Nat.add_zero] at g0
  by_cases hmj : m < j
  · rw [if_pos hmj] at g0 g1 g2 g3 g4
    obtain ⟨d0, d1, d2, d3, d4, e0, e1, e2, e3, e4, e5⟩ := h.it m (by omega)
    refine ⟨d0, d1, d2, d3, d4, g0.trans e0, g1.trans e1, g2.trans e2, g3.trans e3, g4.trans e4, ?_⟩
    rw [List.getElem_eraseIdx_of_lt (by rw [hlen]; omega) hmj]
    exact e5.keep hkS
  · rw [if_neg hmj] at g0 g1 g2 g3 g4
    obtain ⟨d0, d1, d2, d3, d4, e0, e1, e2, e3, e4, e5⟩ := h.it (m + 1) (by omega)
    refine ⟨d0, d1, d2, d3, d4, g0.trans e0, g1.trans e1, g2.trans e2, g3.trans e3, g4.trans e4, ?_⟩
    rw [List.getElem_eraseIdx_of_ge (by rw [hlen]; omega) (by omega)]
    exact e5.keep hkS
theorem TopV.cutn {w W : World} {S : Nat → Prop} {A A' A2 : Option Addr} {c c' c2 : Nat} {l : List VT} {ns : List ByteArray} {xs : List Value} (h : TopV w S A c A' c' l ns xs) {j : Nat} (hs : w.heap.size ≤ W.heap.size)
    (hrow : W.ownsRow 0 9 1 (.slice A2 (ns.eraseIdx j).length c2) (ns.eraseIdx j).length ((ns.eraseIdx j).map Value.string)) (h2 : ∀ a, A2 = some a → w.heap.size ≤ a.block) (hk : ∀ b, b < w.heap.size → W.heap[b]? = w.heap[b]?) :
    TopV W S A c A2 c2 l (ns.eraseIdx j) xs := by
  refine ⟨hrow, row_keep h.ri fun a ha => hk _ (h.na a ha).2, fun a ha => ⟨(h.na a ha).1, by have := (h.na a ha).2; omega⟩, fun a ha => ⟨fun hb => by have := h.lt _ hb; have := h2 a ha; omega, row_lt hrow a ha⟩, fun a a' ha ha' => by have := (h.na a ha).2; have := h2 a' ha'; omega, fun b hb => by have := h.lt b hb; omega, fun m hm => ?_⟩
  obtain ⟨d0, d1, d2, d3, d4, e0, e1, e2, e3, e4, e5⟩ := h.it m hm
  exact ⟨d0, d1, d2, d3, d4, e0, e1, e2, e3, e4, e5.keep fun b hb => hk b (h.lt b hb)⟩
theorem names_cut (ns : List ByteArray) (j : Nat) (hj : j < ns.length) : (ns.map Value.string).take j ++ (ns.map Value.string).drop (j + 1) = (ns.eraseIdx j).map Value.string := by
  rw [List.eraseIdx_eq_take_drop_succ, List.map_append, List.map_take, List.map_drop]
def LowR (B : Nat) (w w' : World) : Prop := ∀ b, b < B → w'.heap[b]? = w.heap[b]?
theorem LowR.refl (B : Nat) (w : World) : LowR B w w := fun _ _ => rfl
theorem LowR.trans (B : Nat) (a b c : World) (x : LowR B a b) (y : LowR B b c) : LowR B a c := fun i hi => (y i hi).trans (x i hi)
instance (B : Nat) (w : World) : Inhabited (LaterR (LowR B) w) := ⟨⟨w, LowR.refl B w⟩⟩
theorem TopV.one {w : World} {S : Nat → Prop} {A A' : Option Addr} {c c' : Nat} {l : List VT} {ns : List ByteArray} {xs : List Value} (h : TopV w S A c A' c' l ns xs) : ∀ u ∈ xs, u.oneCell' = true := by
  intro u hu
  obtain ⟨i, hi, rfl⟩ := List.mem_iff_getElem.1 hu
  have hxl := h.ri.1
  obtain ⟨d0, d1, d2, d3, d4, e0, e1, e2, e3, e4, e5⟩ := h.it (i / 5) (by omega)
  obtain ⟨A2, k2, A3, k3, hag, -⟩ := e5.shape
  injection hag with hag; injection hag with hag
  injection hag with z0 hag; injection hag with z1 hag; injection hag with z2 hag; injection hag with z3 hag; injection hag with z4 hag
  subst z0 z1 z2 z3 z4
  have hm : i = i / 5 * 5 ∨ i = i / 5 * 5 + 1 ∨ i = i / 5 * 5 + 2 ∨ i = i / 5 * 5 + 3 ∨ i = i / 5 * 5 + 4 := by omega
  have key : ∀ m v, i = m → xs[m]? = some v → xs[i] = v := fun m v e h => by
    subst e
    rw [List.getElem?_eq_getElem hi] at h
    exact Option.some.inj h
  rcases hm with e | e | e | e | e
  · rw [key _ _ e e0]; rfl
  · rw [key _ _ e e1]; rfl
  · rw [key _ _ e e2]; rfl
  · rw [key _ _ e e3]; rfl
  · rw [key _ _ e e4]; rfl
end Go.Proofs.YtnamdlljdgllmaaGreat

/- A change at one path leaves what lies at another: plain. -/
namespace Go.Proofs.YtnamdlljdgllmaaGreat
set_option linter.unusedVariables false
set_option linter.unusedSimpArgs false
/-! ### steps as numbers -/
/-! ### what lies at one step -/
theorem nmI_shift (s : ByteArray) : ∀ (l : List ByteArray) (k : Nat), nmI k l s = if nmI 0 l s < 0 then -1 else nmI 0 l s + k
  | [], k => by unfold nmI; simp
  | a :: r, k => by
    unfold nmI
    by_cases h : a = s
    · rw [if_pos h, if_pos h]; simp
    · rw [if_neg h, if_neg h]
      have h1 := nmI_shift s r (k + 1)
      have h2 := nmI_shift s r 1
      have h3 := (nmI_lt (s := s) (l := r) (k := 0)).1
      rw [h1]
      show _ = if nmI (0 + 1) r s < 0 then (-1 : Int) else nmI (0 + 1) r s + k
      rw [show 0 + 1 = 1 from rfl, h2]
      split <;> split <;> omega
theorem setT_kind (t : VT) (j : Nat) (u : VT) : (setT t j u).kind = t.kind := by cases t; rfl
theorem setT_items (t : VT) (j : Nat) (u : VT) : (setT t j u).items = t.items.set j u := by cases t; rfl
theorem remT_kind (t : VT) (j : Nat) : (remT t j).kind = t.kind := by cases t; rfl
theorem add_kind (t : VT) (s : ByteArray) (y : VT) : (addI (addN t s) y).kind = t.kind := by cases t; rfl
theorem addI_kind (t : VT) (y : VT) : (addI t y).kind = t.kind := by cases t; rfl
/-! ### what may be stays so -/
theorem mayT_iff (t : VT) : mayT t = true ↔ fitsP t.kind t.num t.text t.items.length t.names = true ∧ ∀ x ∈ t.items, mayT x = true := by
  rw [mayT_mk2, Bool.and_eq_true]
  refine and_congr_right fun _ => ⟨fun h x hx => mayL_mem h hx, fun h => mayL_all fun j hj => h _ (List.getElem_mem hj)⟩
theorem mem_set {l : List VT} {j : Nat} {u x : VT} (h : x ∈ l.set j u) : x ∈ l ∨ x = u := List.mem_or_eq_of_mem_set h
theorem may_set {t u : VT} (j : Nat) (h : mayT t = true) (hu : mayT u = true) : mayT (setT t j u) = true := by
  obtain ⟨h1, h2⟩ := (mayT_iff t).1 h
  refine (mayT_iff _).2 ?_
  cases t with
  | mk k i x l ns =>
    refine ⟨?_, fun y hy => ?_⟩
    · show fitsP k i x (l.set j u).length ns = true
      rw [List.length_set]; exact h1
    · rcases mem_set hy with hy | rfl
      · exact h2 y hy
      · exact hu
theorem fits_doc {k i : Int} {x : ByteArray} {n : Nat} {ns : List ByteArray} (hk : k = 7) : fitsP k i x n ns = true ↔ i = 0 ∧ x.toList = [] ∧ ns.length = n ∧ distinctN ns = true := by
  subst hk
  unfold fitsP
  simp only [Bool.and_eq_true, decide_eq_true_eq, beq_iff_eq]
  simp
  constructor
  · rintro ⟨⟨⟨a, b⟩, c⟩, d⟩; exact ⟨a, b, c, d⟩
  · rintro ⟨a, b, c, d⟩; exact ⟨⟨⟨a, b⟩, c⟩, d⟩
theorem fits_arr {k i : Int} {x : ByteArray} {n : Nat} {ns : List ByteArray} (hk : k = 6) : fitsP k i x n ns = true ↔ i = 0 ∧ x.toList = [] ∧ ns.length = 0 := by
  subst hk
  unfold fitsP
  simp only [Bool.and_eq_true, decide_eq_true_eq, beq_iff_eq]
  simp
  constructor
  · rintro ⟨⟨a, b⟩, c⟩; exact ⟨a, b, c⟩
  · rintro ⟨a, b, c⟩; exact ⟨⟨a, b⟩, c⟩
theorem may_rem {t : VT} {j : Nat} (hk : t.kind = 7) (h : mayT t = true) (hj : j < t.items.length) : mayT (remT t j) = true := by
  obtain ⟨h1, h2⟩ := (mayT_iff t).1 h
  refine (mayT_iff _).2 ?_
  cases t with
  | mk k i x l ns =>
    obtain ⟨a, b, c, d⟩ := (fits_doc hk).1 h1
    replace c : ns.length = l.length := c
    replace hj : j < l.length := hj
    obtain ⟨d1, d2⟩ := nodup_ext.1 d
    refine ⟨(fits_doc hk).2 ⟨a, b, ?_, nodup_ext.2 ⟨fun s hs => d1 s (List.mem_of_mem_eraseIdx hs), d2.sublist (List.eraseIdx_sublist _ _)⟩⟩, fun y hy => h2 y (List.mem_of_mem_eraseIdx hy)⟩
    show (ns.eraseIdx j).length = (l.eraseIdx j).length
    rw [List.length_eraseIdx, List.length_eraseIdx, c]
theorem nmI_none {s : ByteArray} : ∀ {l : List ByteArray}, nmI 0 l s < 0 → s ∉ l
  | [], _ => by simp
  | a :: r, h => by
    unfold nmI at h
    by_cases ha : a = s
    · rw [if_pos ha] at h; omega
    · rw [if_neg ha, nmI_shift] at h
      have : nmI 0 r s < 0 := by split at h <;> omega
      intro hm
      rcases List.mem_cons.1 hm with e | e
      · exact ha e.symm
      · exact nmI_none this e
theorem may_add {t y : VT} {s : ByteArray} (hk : t.kind = 7) (h : mayT t = true) (hy : mayT y = true) (hs : nameB s.data.toList = true) (hp : placeT t s < 0) : mayT (addI (addN t s) y) = true := by
  obtain ⟨h1, h2⟩ := (mayT_iff t).1 h
  rw [placeT_doc hk] at hp
  refine (mayT_iff _).2 ?_
  cases t with
  | mk k i x l ns =>
    obtain ⟨a, b, c, d⟩ := (fits_doc hk).1 h1
    replace c : ns.length = l.length := c
    obtain ⟨d1, d2⟩ := nodup_ext.1 d
    have hno : s ∉ ns := nmI_none hp
    refine ⟨(fits_doc hk).2 ⟨a, b, ?_, nodup_ext.2 ⟨fun z hz => ?_, ?_⟩⟩, fun z hz => ?_⟩
    · show (ns ++ [s]).length = (l ++ [y]).length
      simp [c]
    · rcases List.mem_append.1 hz with hz | hz
      · exact d1 z hz
      · rw [List.mem_singleton.1 hz]; exact hs
    · show (ns ++ [s]).Nodup
      rw [List.nodup_append]
      refine ⟨d2, by simp, ?_⟩
      intro a1 ha1 b1 hb1 e
      rw [List.mem_singleton.1 hb1] at e
      subst e
      exact hno ha1
    · rcases List.mem_append.1 hz with hz | hz
      · exact h2 z hz
      · rw [List.mem_singleton.1 hz]; exact hy
theorem may_push {t y : VT} (hk : t.kind = 6) (h : mayT t = true) (hy : mayT y = true) : mayT (addI t y) = true := by
  obtain ⟨h1, h2⟩ := (mayT_iff t).1 h
  refine (mayT_iff _).2 ?_
  cases t with
  | mk k i x l ns =>
    obtain ⟨a, b, c⟩ := (fits_arr hk).1 h1
    refine ⟨(fits_arr hk).2 ⟨a, b, c⟩, fun z hz => ?_⟩
    rcases List.mem_append.1 hz with hz | hz
    · exact h2 z hz
    · rw [List.mem_singleton.1 hz]; exact hy
theorem may_front {x : VT} (n : Nat) (hk : x.kind = 6) (h : mayT x = true) : mayT (frontT x n) = true := by
  obtain ⟨h1, h2⟩ := (mayT_iff x).1 h
  refine (mayT_iff _).2 ?_
  cases x with
  | mk k i s l ns =>
    obtain ⟨a, b, c⟩ := (fits_arr hk).1 h1
    exact ⟨(fits_arr hk).2 ⟨a, b, c⟩, fun z hz => h2 z (List.mem_of_mem_take hz)⟩
theorem may_one {s : ByteArray} {x : VT} (hs : nameB s.data.toList = true) (hx : mayT x = true) : mayT (oneT s x) = true := by
  refine (mayT_iff _).2 ⟨(fits_doc rfl).2 ⟨rfl, toList_nil.2 rfl, rfl, nodup_ext.2 ⟨fun z hz => ?_, ?_⟩⟩, fun z hz => ?_⟩
  · have hz' : z ∈ [s] := hz
    rw [List.mem_singleton.1 hz']; exact hs
  · show [s].Nodup
    simp
  · have hz' : z ∈ [x] := hz
    rw [List.mem_singleton.1 hz']; exact hx
theorem may_nest {x : VT} (hx : mayT x = true) : ∀ {r : List ByteArray}, (∀ s ∈ r, nameB s.data.toList = true) → mayT (nestT r x) = true
  | [], _ => hx
  | s :: r, h => may_one (h s (by simp)) (may_nest hx fun z hz => h z (by simp [hz]))
theorem may_null : mayT nullT = true := by kernel_rfl
/-! ### what stays -/
/-! ### what may be -/
def NamesOk (p : List ByteArray) : Prop := ∀ z ∈ p, nameB z.data.toList = true
theorem goT_may {fin : VT → List ByteArray → Int × VT} (hfin : ∀ t s r, mayT t = true → (placeT t s < 0 ∨ r = []) → NamesOk (s :: r) → mayT (fin t (s :: r)).2 = true ∧ (fin t (s :: r)).2.kind = t.kind) :
    ∀ (p : List ByteArray) (t : VT), mayT t = true → NamesOk p → mayT (goT fin t p).2 = true ∧ (goT fin t p).2.kind = t.kind
  | [], t, hm, _ => by unfold goT; exact ⟨hm, rfl⟩
  | s :: r, t, hm, hk => by
    by_cases he : placeT t s < 0 ∨ r = []
    · rw [goT_end he]; exact hfin _ _ _ hm he hk
    · have h0 : 0 ≤ placeT t s := Int.not_lt.1 fun k => he (.inl k)
      have hr : r ≠ [] := fun k => he (.inr k)
      have hj := placeT_lt (may_nl hm) h0
      rw [goT_on h0 hr hj]
      exact ⟨may_set _ hm (goT_may hfin r _ (may_item hm hj) fun z hz => hk z (by simp [hz])).1, setT_kind _ _ _⟩
theorem drop_may (t : VT) (s : ByteArray) (r : List ByteArray) (hm : mayT t = true) (he : placeT t s < 0 ∨ r = []) (hk : NamesOk (s :: r)) : mayT (dropFin t (s :: r)).2 = true ∧ (dropFin t (s :: r)).2.kind = t.kind := by
  rw [dropFin_cons]
  show mayT (if _ then _ else _) = true ∧ VT.kind (if _ then _ else _) = _
  by_cases hn : placeT t s < 0
  · rw [if_pos hn]; exact ⟨hm, rfl⟩
  · rw [if_neg hn]
    have h0 : 0 ≤ placeT t s := Int.not_lt.1 hn
    by_cases h7 : t.kind = 7
    · rw [if_pos h7]; exact ⟨may_rem h7 hm (placeT_lt (may_nl hm) h0), remT_kind _ _⟩
    · rw [if_neg h7]; exact ⟨may_set _ hm may_null, setT_kind _ _ _⟩
theorem may_cutV {x : VT} (n : Int) (h : mayT x = true) : mayT (cutV x n) = true := by
  unfold cutV
  split
  · rename_i hk; exact may_front _ hk.1 h
  · exact h
theorem cut_may (n : Int) (t : VT) (s : ByteArray) (r : List ByteArray) (hm : mayT t = true) (he : placeT t s < 0 ∨ r = []) (hk : NamesOk (s :: r)) : mayT (cutFin n t (s :: r)).2 = true ∧ (cutFin n t (s :: r)).2.kind = t.kind := by
  rw [cutFin_cons]
  split
  · exact ⟨hm, rfl⟩
  · show mayT (if _ then _ else _) = true ∧ VT.kind (if _ then _ else _) = _
    by_cases hn : placeT t s < 0
    · rw [if_pos hn]; exact ⟨hm, rfl⟩
    · rw [if_neg hn]
      have h0 : 0 ≤ placeT t s := Int.not_lt.1 hn
      have hj := placeT_lt (may_nl hm) h0
      rw [List.getElem?_eq_getElem hj]
      exact ⟨may_set _ hm (may_cutV n (may_item hm hj)), setT_kind _ _ _⟩
theorem set_may (x : VT) (hx : mayT x = true) (t : VT) (s : ByteArray) (r : List ByteArray) (hm : mayT t = true) (he : placeT t s < 0 ∨ r = []) (hk : NamesOk (s :: r)) : mayT (setFin x t (s :: r)).2 = true ∧ (setFin x t (s :: r)).2.kind = t.kind := by
  rw [setFin_cons]
  by_cases hn : placeT t s < 0
  · rw [if_neg (by omega)]
    by_cases h7 : t.kind = 7
    · rw [if_pos h7]
      exact ⟨may_add h7 hm (may_nest hx fun z hz => hk z (by simp [hz])) (hk s (by simp)) hn, add_kind _ _ _⟩
    · rw [if_neg h7]
      split
      · rename_i h6
        exact ⟨may_push h6.1 hm hx, addI_kind _ _⟩
      · exact ⟨hm, rfl⟩
  · have h0 : 0 ≤ placeT t s := Int.not_lt.1 hn
    rw [if_pos h0]
    exact ⟨may_set _ hm hx, setT_kind _ _ _⟩
/-! ### the codes -/
theorem goT_code {fin : VT → List ByteArray → Int × VT} {c : Int → Prop} (h0 : c 0) (hfin : ∀ t s r, c (fin t (s :: r)).1) : ∀ (p : List ByteArray) (t : VT), c (goT fin t p).1
  | [], t => by unfold goT; exact h0
  | s :: r, t => by
    unfold goT
    split
    · exact hfin _ _ _
    · split
      · exact h0
      · exact goT_code h0 hfin r _
theorem drop_code (t : VT) (s : ByteArray) (r : List ByteArray) : (dropFin t (s :: r)).1 = 0 := rfl
theorem cut_code {n : Int} (hn : 0 ≤ n) (t : VT) (s : ByteArray) (r : List ByteArray) : (cutFin n t (s :: r)).1 = 0 := by
  rw [cutFin_cons, if_neg (by omega)]
theorem set_code (x t : VT) (s : ByteArray) (r : List ByteArray) : (setFin x t (s :: r)).1 = 0 ∨ (setFin x t (s :: r)).1 = 40 := by
  rw [setFin_cons]
  split
  · exact .inl rfl
  · split
    · exact .inl rfl
    · split
      · exact .inl rfl
      · exact .inr rfl
/-! ### how deep -/
theorem depthL_all {N : Nat} : ∀ {l : List VT}, (∀ x ∈ l, depthT x ≤ N) → depthL l ≤ N
  | [], _ => by unfold depthL; omega
  | x :: l, h => by
    unfold depthL
    have h1 := h x (by simp)
    have h2 := depthL_all (N := N) (l := l) fun y hy => h y (by simp [hy])
    omega
theorem depth_of {t : VT} {N : Nat} (h : ∀ x ∈ t.items, depthT x ≤ N) : depthT t ≤ N + 1 := by
  cases t with
  | mk k i s l ns =>
    rw [depthT_mk]
    have := depthL_all (l := l) h
    omega
theorem depth_item {t x : VT} (h : x ∈ t.items) : depthT x + 1 ≤ depthT t := by
  cases t with
  | mk k i s l ns =>
    rw [depthT_mk]
    have := depthL_le (l := l) h
    omega
theorem depth_pos (t : VT) : 1 ≤ depthT t := by
  cases t with
  | mk k i s l ns => rw [depthT_mk]; omega
theorem depth_set {t u : VT} {j K : Nat} (h : depthT u ≤ depthT t - 1 + K) : depthT (setT t j u) ≤ depthT t + K := by
  have h0 := depth_pos t
  have := depth_of (t := setT t j u) (N := depthT t - 1 + K) fun x hx => by
    rw [setT_items] at hx
    rcases mem_set hx with hx | rfl
    · have := depth_item hx; omega
    · exact h
  omega
theorem goT_depth {fin : VT → List ByteArray → Int × VT} {K L : Nat} (hfin : ∀ t s r, r.length ≤ L → depthT (fin t (s :: r)).2 ≤ depthT t + K) : ∀ (p : List ByteArray) (t : VT), p.length ≤ L + 1 → depthT (goT fin t p).2 ≤ depthT t + K
  | [], t, _ => by unfold goT; exact Nat.le_add_right _ _
  | s :: r, t, hl => by
    rw [List.length_cons] at hl
    unfold goT
    split
    · exact hfin _ _ _ (by omega)
    · split
      · exact Nat.le_add_right _ _
      · rename_i y hy
        have hm : y ∈ t.items := List.mem_of_getElem? hy
        have h1 := goT_depth hfin r y (by omega)
        have h2 := depth_item hm
        exact depth_set (by omega)
theorem depth_null : depthT nullT = 1 := by kernel_rfl
theorem drop_depth (t : VT) (s : ByteArray) (r : List ByteArray) : depthT (dropFin t (s :: r)).2 ≤ depthT t + 1 := by
  rw [dropFin_cons]
  show depthT (if _ then _ else _) ≤ _
  split
  · omega
  · split
    · have h0 := depth_pos t
      have := depth_of (t := remT t (placeT t s).toNat) (N := depthT t - 1) fun x hx => by
        cases t with
        | mk k i z l ns =>
          have := depth_item (t := .mk k i z l ns) (List.mem_of_mem_eraseIdx hx)
          omega
      omega
    · refine depth_set ?_
      rw [depth_null]
      omega
theorem depth_cutV (x : VT) (n : Int) : depthT (cutV x n) ≤ depthT x := by
  unfold cutV
  split
  · have h0 := depth_pos x
    have := depth_of (t := frontT x n.toNat) (N := depthT x - 1) fun y hy => by
      cases x with
      | mk k i z l ns =>
        have := depth_item (t := .mk k i z l ns) (List.mem_of_mem_take hy)
        omega
    omega
  · omega
theorem cut_depth (n : Int) (t : VT) (s : ByteArray) (r : List ByteArray) : depthT (cutFin n t (s :: r)).2 ≤ depthT t + 1 := by
  rw [cutFin_cons]
  split
  · exact Nat.le_add_right _ _
  · show depthT (if _ then _ else _) ≤ _
    split
    · omega
    · split
      · omega
      · rename_i y hy
        have h1 := depth_cutV y n
        have h2 := depth_item (List.mem_of_getElem? hy)
        exact depth_set (by omega)
theorem depth_one (s : ByteArray) (x : VT) : depthT (oneT s x) ≤ depthT x + 1 := depth_of fun y hy => by
  have hy' : y ∈ [x] := hy
  rw [List.mem_singleton.1 hy']; omega
theorem depth_nest (x : VT) : ∀ r : List ByteArray, depthT (nestT r x) ≤ depthT x + r.length
  | [] => Nat.le_refl _
  | s :: r => by
    have h1 := depth_one s (nestT r x)
    have h2 := depth_nest x r
    show depthT (oneT s (nestT r x)) ≤ _
    rw [List.length_cons]
    omega
theorem depth_add {t u : VT} {K : Nat} (hi : t.items = t.items) (h : depthT u ≤ depthT t - 1 + K) : depthT (addI t u) ≤ depthT t + K := by
  have h0 := depth_pos t
  have := depth_of (t := addI t u) (N := depthT t - 1 + K) fun x hx => by
    cases t with
    | mk k i z l ns =>
      rcases List.mem_append.1 hx with hx | hx
      · have := depth_item (t := .mk k i z l ns) hx; omega
      · rw [List.mem_singleton.1 hx]; exact h
  omega
theorem depth_addN (t : VT) (s : ByteArray) : depthT (addN t s) = depthT t := by
  cases t with
  | mk k i z l ns => show depthT (.mk k i z l (ns ++ [s])) = _; rw [depthT_mk, depthT_mk]
theorem set_depth (x : VT) (L : Nat) (t : VT) (s : ByteArray) (r : List ByteArray) (hr : r.length ≤ L) : depthT (setFin x t (s :: r)).2 ≤ depthT t + (depthT x + L) := by
  rw [setFin_cons]
  split
  · exact depth_set (by omega)
  · split
    · have h1 := depth_nest x r
      have := depth_add (t := addN t s) (u := nestT r x) (K := depthT x + L) rfl (by omega)
      rw [depth_addN] at this
      exact this
    · split
      · exact depth_add rfl (by omega)
      · exact Nat.le_add_right _ _
end Go.Proofs.YtnamdlljdgllmaaGreat
