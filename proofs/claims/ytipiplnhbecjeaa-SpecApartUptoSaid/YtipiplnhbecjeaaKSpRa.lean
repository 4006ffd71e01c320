/- The program's reading of a path's code. -/
import Derived.Test.YtipiplnhbecjeaaKSpX
import Derived.Test.YtipiplnhbecjeaaKCodX
import Derived.Test.YtipiplnhbecjeaaKFive
import Derived.Test.YtipiplnhbecjeaaKOpen
import Derived.Laws.OwnMore
import Derived.Maps.AppendAt
namespace Go.Proofs.Ytipiplnhbecjeaa
set_option linter.unusedVariables false
set_option linter.unusedSimpArgs false
open Go.RowKit
set_option maxRecDepth 100000
/-- The first names of a path's code, and what is left. -/
def rdK (st : Option (List UInt8)) : Nat → List ByteArray × Option (List UInt8)
  | 0 => ([], st)
  | k + 1 => ((rdK st k).1 ++ [⟨(rdText 32 (rdK st k).2).1.toArray⟩], (rdText 32 (rdK st k).2).2)
theorem rdK_len (st : Option (List UInt8)) : ∀ k, (rdK st k).1.length = k
  | 0 => rfl
  | k + 1 => by simp [rdK, rdK_len st k]
def rdPathO (st : Option (List UInt8)) : List ByteArray × Option (List UInt8) := rdK (rdCount 8 st).2 (rdCount 8 st).1
set_option maxHeartbeats 8000000 in
theorem readpath_any (g : Nat) (st : Option (List UInt8)) (w : World) (hs : SrcL w g st) :
    Calls Try.prog 89 #[.pointer (some ⟨g, 0, none⟩)] w fun e w' => ∃ A c, e = .returned (.slice A (rdPathO st).1.length c) ∧ w'.ownsRow w.heap.size 9 1 (.slice A (rdPathO st).1.length c) (rdPathO st).1.length ((rdPathO st).1.map Value.string) ∧ SrcL w' g (rdPathO st).2 ∧ Only w w' g := by
  obtain ⟨i0, hi, hz0, hz1, hz2⟩ := info_parts Try.infoStr
  have h8 : (rdCount 8 st).1 ≤ 8 := rdCount_le 8 st (by omega)
  have HC := Lib.hid (scount_any g st 8 w hs (by omega))
  have HG := Lib.hid hs.lt
  obtain ⟨n, hn⟩ : ∃ n, n = (rdCount 8 st).1 := ⟨_, rfl⟩
  have HN := Lib.hid hn
  rw [← hn] at h8 HC
  clear hs hn
  go_enter Try.func89, Try.ntmps89
  go_wp2_with fail
  refine HC.out.mono ?_
  rintro e w1 ⟨rfl, hs1, ho1⟩
  obtain ⟨s1, hs1'⟩ : ∃ s1, s1 = (rdCount 8 st).2 := ⟨_, rfl⟩
  rw [← hs1'] at hs1
  have HS1 := Lib.hid hs1'
  have h0 : Hid (SrcL w1 g (rdK s1 0).2 ∧ Only w w1 g) := Lib.hid ⟨hs1, ho1⟩
  clear hs1 ho1 hs1' HC
  go_wp2_with fail
  go_loopw [3, 6] (fun v i wr => ∃ (k : Nat) (A : Option Addr) (c : Nat), i = .int .i64 k ∧ k ≤ n ∧ v = .slice A k c ∧ Hid (SrcL wr g (rdK s1 k).2 ∧ Only w wr g) ∧ Hid (wr.ownsRow w.heap.size 9 1 (.slice A k c) k ((rdK s1 k).1.map Value.string))) (fun _ i _ => n - (intOf i).toNat)
  case atStart => exact ⟨0, none, 0, rfl, by omega, rfl, h0, Lib.hid (World.ownsRow_nil _ _ _ _)⟩
  case round =>
    obtain ⟨k, A, c, rfl, hk, rfl, HH, HR⟩ := hrel
    by_cases hlt : k < n
    · have d1 : decide ((k : Int) < (n : Int)) = true := decide_eq_true (by omega)
      have HT := Lib.hid (stext_any g (rdK s1 k).2 32 wr HH.out.1 (by omega))
      go_wp2_with fail
      refine HT.out.mono ?_
      rintro e w5 ⟨rfl, hs5, ho5⟩
      obtain ⟨sx, hsx⟩ : ∃ sx : ByteArray, sx = ⟨(rdText 32 (rdK s1 k).2).1.toArray⟩ := ⟨_, rfl⟩
      rw [← hsx]
      have hw5 : Only w w5 g := HH.out.2.trans ho5
      have hlo : ∀ q, (Value.slice A k c).ownBlock = some q → w.heap.size ≤ q ∧ q < wr.heap.size := fun q hq => World.ownsRow.lt HR.out q hq
      have hg5 := HG.out
      have hrow : ∀ X : Obj, (w5.alloc X).ownsRow w.heap.size 9 1 (.slice A k c) k ((rdK s1 k).1.map Value.string) := fun X => ownsRow_keep HR.out fun q hq => by
        have := hlo q hq
        exact (Below.heap_alloc w5 _ _ (by have := ho5.size; omega)).trans (ho5.block q this.2 (by rintro ⟨⟩; omega))
      have HX5 : Hid (SrcL w5 g (rdK s1 (k + 1)).2 ∧ Only w w5 g ∧ ∀ q, (Value.slice A k c).ownBlock = some q → w.heap.size ≤ q) := Lib.hid ⟨hs5, hw5, fun q hq => (hlo q hq).1⟩
      have HSX := Lib.hid hsx
      have HROW := Lib.hid hrow
      have hsz5 := hw5.size
      have hkn : k ≤ 8 := by omega
      clear hs5 ho5 hw5 hlo hsx HT hrow
      go_wp2_with (at_builtin; refine wpList_append_own _ rfl _ _ 22 rfl w.heap.size 9 i0 (.string ⟨#[]⟩) 1 16 Try.underlying22 hi hz0 hz1 hz2 rfl (by decide) _ k _ rfl (HROW.out _) ⟨w5.heap.size, 0, none⟩ 1 1 [.string sx] rfl rfl (cell_one_new _ _ _) (by simp [Value.oneCell']) (by unfold maxLen; omega) (by omega) (by simp; omega) ?_; intro v6 w6 hown6 hg6 hnil6; obtain ⟨A6, c6, rfl⟩ := own_shape hown6; have HX6 : Hid (SrcL w6 g (rdK s1 (k + 1)).2 ∧ Only w w6 g) := Lib.hid ⟨HX5.out.1.of ((hg6.block g (by simp; omega) (fun e => by have := HX5.out.2.2 g e.symm; omega)).trans (Below.heap_alloc w5 _ g (by omega))), ⟨hg6.os.trans HX5.out.2.1.os, hg6.tape.trans HX5.out.2.1.tape, hg6.output.trans HX5.out.2.1.output, Nat.le_trans hsz5 (Nat.le_trans (by simp) hg6.size), fun q hq hne => (hg6.block q (by simp; omega) (fun e => by have := HX5.out.2.2 q e.symm; omega)).trans ((Below.heap_alloc w5 _ q (by omega)).trans (HX5.out.2.1.block q hq hne))⟩⟩; have HR6 := Lib.hid hown6; clear hown6 hg6 hnil6)
      try go_wp2_with fail
      go_roundw
      case rel => exact ⟨k + 1, A6, c6, by go_num, by omega, rfl, HX6, Lib.hid (by have h9 := HR6.out; rw [HSX.out] at h9; unfold rdK; rw [List.map_append]; exact h9)⟩
      case measure => simp [intOf]; omega
    · have hke : k = n := by omega
      have d1 : decide ((k : Int) < (n : Int)) = false := decide_eq_false (by omega)
      have HE : Hid (rdPathO st = rdK s1 k) := Lib.hid (by unfold rdPathO; rw [← HS1.out, ← HN.out, hke])
      clear hke
      go_wp2_with fail
      go_ret
      rw [HE.out, rdK_len]
      exact ⟨A, c, rfl, HR.out, HH.out.1, HH.out.2⟩
end Go.Proofs.Ytipiplnhbecjeaa

/- The program's reading of an operator's code. -/
namespace Go.Proofs.Ytipiplnhbecjeaa
set_option linter.unusedVariables false
set_option linter.unusedSimpArgs false
open Go.RowKit
set_option maxRecDepth 100000
theorem rdK_size (st : Option (List UInt8)) : ∀ k, ∀ x ∈ (rdK st k).1, x.size ≤ 140737488351232
  | 0, x, hx => by simp [rdK] at hx
  | k + 1, x, hx => by
    simp only [rdK, List.mem_append, List.mem_singleton] at hx
    rcases hx with hx | rfl
    · exact rdK_size st k x hx
    · have := rdText_le 32 (rdK st k).2 (by omega)
      show (rdText 32 (rdK st k).2).1.toArray.size ≤ _
      simp only [List.size_toArray]
      have h2 : (rdText 32 (rdK st k).2).1.length ≤ 32 := this
      omega
theorem rdPathO_len (st : Option (List UInt8)) : (rdPathO st).1.length ≤ 8 := by
  unfold rdPathO
  rw [rdK_len]
  exact rdCount_le 8 st (by omega)
def noneV : VT := .mk 0 0 ⟨#[]⟩ [] []
def rdOp (st : Option (List UInt8)) : OpT × Option (List UInt8) :=
  if (rdByte st).1 = 2 then (⟨2, (rdPathO (rdByte st).2).1, noneV, []⟩, (rdPathO (rdByte st).2).2)
  else if (rdByte st).1 = 6 then (⟨6, (rdPathO (rdByte st).2).1, noneV, (rdPathO (rdPathO (rdByte st).2).2).1⟩, (rdPathO (rdPathO (rdByte st).2).2).2)
  else (⟨(rdByte st).1, (rdPathO (rdByte st).2).1, (readO (rdPathO (rdByte st).2).2).1, []⟩, (readO (rdPathO (rdByte st).2).2).2)
theorem rng_k {k : Int} (h0 : 0 ≤ k) (h : k < 256) : Rng k := by unfold Rng; omega
/-- An operator in a box. -/
def OBox (w : World) (p : Nat) (c0 c1 c2 c3 c4 c5 c6 c7 : Value) : Prop := w.heap[p]? = some (.cells #[c0, c1, c2, c3, c4, c5, c6, c7] 27 (0, 0))
def eight (w : World) (p : Nat) (c0 c1 c2 c3 c4 c5 c6 c7 : Value) : World := (((((((w.setCell ⟨p, 0, none⟩ c0).setCell ⟨p, 1, none⟩ c1).setCell ⟨p, 2, none⟩ c2).setCell ⟨p, 3, none⟩ c3).setCell ⟨p, 4, none⟩ c4).setCell ⟨p, 5, none⟩ c5).setCell ⟨p, 6, none⟩ c6).setCell ⟨p, 7, none⟩ c7
section
variable {w w' : World} {p : Nat} {c0 c1 c2 c3 c4 c5 c6 c7 : Value}
theorem OBox.g0 (h : OBox w p c0 c1 c2 c3 c4 c5 c6 c7) : w.cell? ⟨p, 0, none⟩ = some c0 := Go.Joins.cell_of_block h 0
theorem OBox.g1 (h : OBox w p c0 c1 c2 c3 c4 c5 c6 c7) : w.cell? ⟨p, 1, none⟩ = some c1 := Go.Joins.cell_of_block h 1
theorem OBox.g2 (h : OBox w p c0 c1 c2 c3 c4 c5 c6 c7) : w.cell? ⟨p, 2, none⟩ = some c2 := Go.Joins.cell_of_block h 2
theorem OBox.g3 (h : OBox w p c0 c1 c2 c3 c4 c5 c6 c7) : w.cell? ⟨p, 3, none⟩ = some c3 := Go.Joins.cell_of_block h 3
theorem OBox.g4 (h : OBox w p c0 c1 c2 c3 c4 c5 c6 c7) : w.cell? ⟨p, 4, none⟩ = some c4 := Go.Joins.cell_of_block h 4
theorem OBox.g5 (h : OBox w p c0 c1 c2 c3 c4 c5 c6 c7) : w.cell? ⟨p, 5, none⟩ = some c5 := Go.Joins.cell_of_block h 5
theorem OBox.g6 (h : OBox w p c0 c1 c2 c3 c4 c5 c6 c7) : w.cell? ⟨p, 6, none⟩ = some c6 := Go.Joins.cell_of_block h 6
theorem OBox.g7 (h : OBox w p c0 c1 c2 c3 c4 c5 c6 c7) : w.cell? ⟨p, 7, none⟩ = some c7 := Go.Joins.cell_of_block h 7
theorem OBox.set0 (h : OBox w p c0 c1 c2 c3 c4 c5 c6 c7) (u : Value) : OBox (w.setCell ⟨p, 0, none⟩ u) p u c1 c2 c3 c4 c5 c6 c7 := Go.Joins.block_setCell (i := 0) h u
theorem OBox.set1 (h : OBox w p c0 c1 c2 c3 c4 c5 c6 c7) (u : Value) : OBox (w.setCell ⟨p, 1, none⟩ u) p c0 u c2 c3 c4 c5 c6 c7 := Go.Joins.block_setCell (i := 1) h u
theorem OBox.set2 (h : OBox w p c0 c1 c2 c3 c4 c5 c6 c7) (u : Value) : OBox (w.setCell ⟨p, 2, none⟩ u) p c0 c1 u c3 c4 c5 c6 c7 := Go.Joins.block_setCell (i := 2) h u
theorem OBox.set3 (h : OBox w p c0 c1 c2 c3 c4 c5 c6 c7) (u : Value) : OBox (w.setCell ⟨p, 3, none⟩ u) p c0 c1 c2 u c4 c5 c6 c7 := Go.Joins.block_setCell (i := 3) h u
theorem OBox.set4 (h : OBox w p c0 c1 c2 c3 c4 c5 c6 c7) (u : Value) : OBox (w.setCell ⟨p, 4, none⟩ u) p c0 c1 c2 c3 u c5 c6 c7 := Go.Joins.block_setCell (i := 4) h u
theorem OBox.set5 (h : OBox w p c0 c1 c2 c3 c4 c5 c6 c7) (u : Value) : OBox (w.setCell ⟨p, 5, none⟩ u) p c0 c1 c2 c3 c4 u c6 c7 := Go.Joins.block_setCell (i := 5) h u
theorem OBox.set6 (h : OBox w p c0 c1 c2 c3 c4 c5 c6 c7) (u : Value) : OBox (w.setCell ⟨p, 6, none⟩ u) p c0 c1 c2 c3 c4 c5 u c7 := Go.Joins.block_setCell (i := 6) h u
theorem OBox.set7 (h : OBox w p c0 c1 c2 c3 c4 c5 c6 c7) (u : Value) : OBox (w.setCell ⟨p, 7, none⟩ u) p c0 c1 c2 c3 c4 c5 c6 u := Go.Joins.block_setCell (i := 7) h u
theorem OBox.free (h : OBox w p c0 c1 c2 c3 c4 c5 c6 c7) (i : Nat) : w.frozen? ⟨p, i, none⟩ = false := Go.Joins.unfrozen_of_block h i
theorem OBox.lt (h : OBox w p c0 c1 c2 c3 c4 c5 c6 c7) : p < w.heap.size := (Array.getElem?_eq_some_iff.1 h).1
theorem OBox.new (w : World) (c0 c1 c2 c3 c4 c5 c6 c7 : Value) : OBox (w.alloc (.cells #[c0, c1, c2, c3, c4, c5, c6, c7] 27)) w.heap.size c0 c1 c2 c3 c4 c5 c6 c7 := heap_alloc_new w _
theorem OBox.alloc (h : OBox w p c0 c1 c2 c3 c4 c5 c6 c7) (o : Obj) : OBox (w.alloc o) p c0 c1 c2 c3 c4 c5 c6 c7 := (Below.heap_alloc w o p h.lt).trans h
theorem OBox.only {g : Nat} (h : OBox w p c0 c1 c2 c3 c4 c5 c6 c7) (ho : Only w w' g) (hne : p ≠ g) : OBox w' p c0 c1 c2 c3 c4 c5 c6 c7 := (ho.block p h.lt (by rintro ⟨⟩; exact hne rfl)).trans h
theorem OBox.other (h : OBox w p c0 c1 c2 c3 c4 c5 c6 c7) (D i : Nat) (u : Value) (hne : p ≠ D) : OBox (w.setCell ⟨D, i, none⟩ u) p c0 c1 c2 c3 c4 c5 c6 c7 := (heap_setCell_other _ ⟨D, i, none⟩ p _ hne).trans h
theorem eight_box {d0 d1 d2 d3 d4 d5 d6 d7 : Value} (h : OBox w p c0 c1 c2 c3 c4 c5 c6 c7) : OBox (eight w p d0 d1 d2 d3 d4 d5 d6 d7) p d0 d1 d2 d3 d4 d5 d6 d7 := (((((((h.set0 d0).set1 d1).set2 d2).set3 d3).set4 d4).set5 d5).set6 d6).set7 d7
theorem eight_other (b : Nat) (h : b ≠ p) : (eight w p c0 c1 c2 c3 c4 c5 c6 c7).heap[b]? = w.heap[b]? := by
  unfold eight
  rw [heap_setCell_other _ ⟨p, _, none⟩ b _ h, heap_setCell_other _ ⟨p, _, none⟩ b _ h, heap_setCell_other _ ⟨p, _, none⟩ b _ h, heap_setCell_other _ ⟨p, _, none⟩ b _ h, heap_setCell_other _ ⟨p, _, none⟩ b _ h, heap_setCell_other _ ⟨p, _, none⟩ b _ h, heap_setCell_other _ ⟨p, _, none⟩ b _ h, heap_setCell_other _ ⟨p, _, none⟩ b _ h]
theorem eight_size : (eight w p c0 c1 c2 c3 c4 c5 c6 c7).heap.size = w.heap.size := by simp [eight]
theorem eight_rest : (eight w p c0 c1 c2 c3 c4 c5 c6 c7).os = w.os ∧ (eight w p c0 c1 c2 c3 c4 c5 c6 c7).tape = w.tape ∧ (eight w p c0 c1 c2 c3 c4 c5 c6 c7).output = w.output := by
  have h : ∀ (w : World) (a : Addr) (u : Value), (w.setCell a u).os = w.os ∧ (w.setCell a u).tape = w.tape ∧ (w.setCell a u).output = w.output := fun _ _ _ => ⟨rfl, rfl, rfl⟩
  unfold eight
  refine ⟨?_, ?_, ?_⟩
  · rw [(h _ _ _).1, (h _ _ _).1, (h _ _ _).1, (h _ _ _).1, (h _ _ _).1, (h _ _ _).1, (h _ _ _).1, (h _ _ _).1]
  · rw [(h _ _ _).2.1, (h _ _ _).2.1, (h _ _ _).2.1, (h _ _ _).2.1, (h _ _ _).2.1, (h _ _ _).2.1, (h _ _ _).2.1, (h _ _ _).2.1]
  · rw [(h _ _ _).2.2, (h _ _ _).2.2, (h _ _ _).2.2, (h _ _ _).2.2, (h _ _ _).2.2, (h _ _ _).2.2, (h _ _ _).2.2, (h _ _ _).2.2]
end
theorem results_cell_o {fn : Func} {p : Tmp} (h : fn.results = #[.cell p 27]) (tmps : Array Value) (w : World) (g : Nat) (t : TypeId) (cs : Array Value) (fr : Nat × Nat)
    (hp : tmps.getD p undef = .pointer (some ⟨g, 0, none⟩)) (hg : w.heap[g]? = some (.cells cs t fr)) (hi : (Try.prog.info? 27).map (·.size) = some cs.size) :
    (results fn tmps).run Try.prog w = .ok (.agg cs) w := by
  have hp' : tmps[p]?.getD undef = .pointer (some ⟨g, 0, none⟩) := by simpa using hp
  have e := run_loadVar_row w g t 27 cs fr _ hg Try.underlying27 rfl hi
  simp [results, h, hp', asAddr, Sem.run_bind, Result.andThen, e]
def ReadOpR (g : Nat) (st : Option (List UInt8)) (w : World) (e : Ending) (w' : World) : Prop :=
  ∃ cs : Array Value, e = .returned (.agg cs) ∧ OpL w' (NewB w.heap.size w') (rdOp st).1 cs ∧ SrcL w' g (rdOp st).2 ∧ Only w w' g
theorem op_end {w W : World} {g : Nat} {st : Option (List UInt8)} {S : Nat → Prop} {c0 c1 c2 c3 c4 c5 c6 c7 : Value} (hs : SrcL W g (rdOp st).2) (ho : Only w W g) (hg : g < w.heap.size) (h : OpL W S (rdOp st).1 #[c0, c1, c2, c3, c4, c5, c6, c7]) (hS : ∀ b, S b → w.heap.size + 1 ≤ b ∧ b < W.heap.size) :
    ReadOpR g st w (.returned (.agg #[c0, c1, c2, c3, c4, c5, c6, c7])) (eight W w.heap.size c0 c1 c2 c3 c4 c5 c6 c7) := by
  have hz : (eight W w.heap.size c0 c1 c2 c3 c4 c5 c6 c7).heap.size = W.heap.size := eight_size
  refine ⟨_, rfl, (h.keep fun b hb => eight_other b (by have := hS b hb; omega)).imp fun b hb => ?_, hs.of (eight_other g (by omega)), ?_⟩
  · have := hS b hb
    exact ⟨by omega, by rw [hz]; omega⟩
  · exact ⟨eight_rest.1.trans ho.os, eight_rest.2.1.trans ho.tape, eight_rest.2.2.trans ho.output, by rw [hz]; exact ho.size, fun b hb hne => (eight_other b (by omega)).trans (ho.block b hb hne)⟩
theorem strs_own {w : World} {B : Nat} {A : Option Addr} {c : Nat} {l : List ByteArray} (h : w.ownsRow B 9 1 (.slice A l.length c) l.length (l.map Value.string)) (hs : ∀ s ∈ l, s.size ≤ 140737488351232) : l.length ≤ c ∧ StrsAt w (fun b => B ≤ b ∧ b < w.heap.size) A l := by
  obtain ⟨A', c', e, h1, h2⟩ := OwnS.opens (v := .slice A l.length c) h hs
  injection e with e1 e2 e3
  subst e1 e3
  exact ⟨h1, h2⟩
set_option maxHeartbeats 8000000 in
theorem readop_any (g : Nat) (st : Option (List UInt8)) (w : World) (hs : SrcL w g st) : Calls Try.prog 74 #[.pointer (some ⟨g, 0, none⟩)] w (ReadOpR g st w) := by
  have hgl := hs.lt
  have HC := Lib.hid (sbyte_any g st _ (hs.alloc (.cells #[.int .i64 0, .slice none 0 0, .int .i64 0, .int .i64 0, .string ⟨#[]⟩, .slice none 0 0, .slice none 0 0, .slice none 0 0] 27)))
  have hr0 : OBox (w.alloc (.cells #[.int .i64 0, .slice none 0 0, .int .i64 0, .int .i64 0, .string ⟨#[]⟩, .slice none 0 0, .slice none 0 0, .slice none 0 0] 27)) w.heap.size _ _ _ _ _ _ _ _ := OBox.new w _ _ _ _ _ _ _ _
  have ho0 : Only w (w.alloc (.cells #[.int .i64 0, .slice none 0 0, .int .i64 0, .int .i64 0, .string ⟨#[]⟩, .slice none 0 0, .slice none 0 0, .slice none 0 0] 27)) g := ⟨rfl, rfl, rfl, by simp, fun b hb _ => Below.heap_alloc w _ b hb⟩
  have HR0 := Lib.hid hr0
  have HO0 := Lib.hid ho0
  clear hs hr0 ho0
  go_enter Try.func74, Try.ntmps74
  go_wp2_with fail
  refine HC.out.mono ?_
  rintro e w1 ⟨rfl, hs1, ho1⟩
  obtain ⟨n, hn⟩ : ∃ n, n = (rdByte st).1 := ⟨_, rfl⟩
  obtain ⟨s1, hs1'⟩ : ∃ s1, s1 = (rdByte st).2 := ⟨_, rfl⟩
  rw [← hs1'] at hs1
  rw [← hn]
  have hn256 : n < 256 := by rw [hn]; exact rdByte_lt st
  have hr1 := HR0.out.only ho1 (by omega)
  have hl1 := hr1.lt
  obtain ⟨X, hX⟩ : ∃ X : Obj, X = .cells #[.int .i64 n, .slice none 0 0, .int .i64 0, .int .i64 0, .string ⟨#[]⟩, .slice none 0 0, .slice none 0 0, .slice none 0 0] 27 := ⟨_, rfl⟩
  have hq2 : OBox (w1.alloc X) w1.heap.size (.int .i64 n) (.slice none 0 0) (.int .i64 0) (.int .i64 0) (.string ⟨#[]⟩) (.slice none 0 0) (.slice none 0 0) (.slice none 0 0) := by rw [hX]; exact OBox.new w1 _ _ _ _ _ _ _ _
  have HN := Lib.hid hn
  have HS1 := Lib.hid hs1'
  have HO2 := Lib.hid ((HO0.out.trans ho1).trans (show Only w1 (w1.alloc X) g from ⟨rfl, rfl, rfl, by simp, fun b hb _ => Below.heap_alloc w1 _ b hb⟩))
  have HP := Lib.hid (readpath_any g s1 (w1.alloc X) (hs1.alloc X))
  have HR2 := Lib.hid (hr1.alloc X)
  have HQ2 := Lib.hid hq2
  have hz2 : (w1.alloc X).heap.size = w1.heap.size + 1 := by simp
  have HZ2 := Lib.hid hz2
  rw [hX] at HP
  rw [hX] at HO2 HR2 HQ2 HZ2
  clear hs1 ho1 hn hs1' HC hX HR0 HO0 hr1 hq2 hz2
  go_wp2_with fail
  refine HP.out.mono ?_
  rintro e w3 ⟨A, c, rfl, hrow3, hs3, ho3⟩
  obtain ⟨hc3, hst3⟩ := strs_own hrow3 (by unfold rdPathO; exact rdK_size _ _)
  have hp8 := rdPathO_len s1
  obtain ⟨P, hP⟩ : ∃ P, P = (rdPathO s1).1 := ⟨_, rfl⟩
  obtain ⟨s2, hs2'⟩ : ∃ s, s = (rdPathO s1).2 := ⟨_, rfl⟩
  rw [← hP] at hc3 hst3 hp8 ⊢
  rw [← hs2'] at hs3
  have hr3 := HR2.out.only ho3 (by omega)
  have hq3 := HQ2.out.only ho3 (by omega)
  have ho4 := HO2.out.trans ho3
  have hz3 : w1.heap.size + 1 ≤ w3.heap.size := by have := ho3.size; have := HZ2.out; omega
  have hst4 := hst3.imp (S' := fun b => w1.heap.size + 1 ≤ b ∧ b < w3.heap.size) fun b hb => by rw [HZ2.out] at hb; exact hb
  obtain ⟨w4, hw4⟩ : ∃ W, W = w3.setCell ⟨w1.heap.size, 1, none⟩ (.slice A P.length c) := ⟨_, rfl⟩
  have k4 : ∀ b, b ≠ w1.heap.size → w4.heap[b]? = w3.heap[b]? := fun b hb => by rw [hw4]; exact heap_setCell_other _ ⟨w1.heap.size, 1, none⟩ b _ hb
  have z4 : w4.heap.size = w3.heap.size := by rw [hw4]; simp
  have hq4 := hq3.set1 (.slice A P.length c)
  rw [← hw4] at hq4
  have hr4 := hr3.other w1.heap.size 1 (.slice A P.length c) (by omega)
  rw [← hw4] at hr4
  have hs4 : SrcL w4 g s2 := hs3.of (k4 g (by omega))
  have ho5 : Only w w4 g := ⟨by rw [hw4]; exact ho4.os, by rw [hw4]; exact ho4.tape, by rw [hw4]; exact ho4.output, by rw [z4]; exact ho4.size, fun b hb hne => (k4 b (by omega)).trans (ho4.block b hb hne)⟩
  have hst5 : StrsAt w4 (fun b => w1.heap.size + 1 ≤ b ∧ b < w4.heap.size) A P := (hst4.keep fun b hb => k4 b (by omega)).imp fun b hb => by rw [z4]; exact hb
  have HQ4 := Lib.hid hq4
  have HR4 := Lib.hid hr4
  have HS4 := Lib.hid hs4
  have HO5 := Lib.hid ho5
  have HST := Lib.hid hst5
  have HPP := Lib.hid (And.intro hP hs2')
  have HC3 := Lib.hid hc3
  have HZ4 := Lib.hid (show w1.heap.size + 1 ≤ w4.heap.size by omega)
  have HL := Lib.hid (And.intro hl1 hp8)
  have HN256 := Lib.hid hn256
  have HP6 := Lib.hid (readpath_any g s2 w4 hs4)
  have HV6 := Lib.hid (cread_any g s2 w4 hs4)
  have q3f := fun i => hq3.free i
  have q30 := hq3.g0
  have q31 := hq3.g1
  have q32 := hq3.g2
  have q33 := hq3.g3
  have q34 := hq3.g4
  have q35 := hq3.g5
  have q36 := hq3.g6
  have q37 := hq3.g7
  have r3f := fun i => hr3.free i
  clear hrow3 hs3 ho3 hc3 hst3 hP hs2' hr3 hq3 ho4 hst4 k4 z4 hq4 hr4 hs4 ho5 hst5 HP HO2 HR2 HQ2 HZ2 hz3 hp8 hn256
  by_cases h2 : n = 2
  · have H2 := Lib.hid h2
    have d2 : ((n : Int) == 2) = true := beq_iff_eq.2 (by omega)
    subst hw4
    clear HP6 HV6 h2
    have hq4 := HQ4.out
    have hr4 := HR4.out
    have z4f := fun i => hq4.free i
    have r4f := fun i => hr4.free i
    have z0 := hq4.g0
    have z1 := hq4.g1
    have z2 := hq4.g2
    have z3 := hq4.g3
    have z4 := hq4.g4
    have z5 := hq4.g5
    have z6 := hq4.g6
    have z7 := hq4.g7
    have y0 := hr4.g0
    have y1 := hr4.g1
    have y2 := hr4.g2
    have y3 := hr4.g3
    have y4 := hr4.g4
    have y5 := hr4.g5
    have y6 := hr4.g6
    have y7 := hr4.g7
    clear hq4 hr4
    go_wp2_with fail
    refine bodyPost_ret (results_cell_o rfl _ _ w.heap.size 27 _ (0, 0) rfl (eight_box HR4.out) (by kernel_rfl)) rfl ?_
    have h2 := H2.out
    subst h2
    have e0 : rdOp st = (⟨2, P, noneV, []⟩, s2) := by
      unfold rdOp
      rw [if_pos HN.out.symm, ← HS1.out, ← HPP.out.1, ← HPP.out.2]
    have hl := HL.out
    refine op_end (S := fun b => w1.heap.size + 1 ≤ b ∧ b < (w3.setCell ⟨w1.heap.size, 1, none⟩ (.slice A P.length c)).heap.size) (by rw [e0]; exact HS4.out) HO5.out hgl ?_ (fun b hb => ⟨by omega, hb.2⟩)
    rw [e0]
    exact ⟨A, c, _, _, _, _, _, none, 0, rfl, leaf_lv _ _ _ _ _ (by unfold Rng; omega) (by unfold Rng; omega) (by decide), HST.out, strs_nil _ _ _, HC3.out, Nat.le_refl _, rng_k (k := 2) (by decide) (by decide), by show P.length ≤ _; omega, by simp⟩
  · have d2 : ((n : Int) == 2) = false := beq_eq_false_iff_ne.2 (by omega)
    have hg4 : g < w4.heap.size := HS4.out.lt
    by_cases h6 : n = 6
    · have d6 : ((n : Int) == 6) = true := beq_iff_eq.2 (by omega)
      have H6 := Lib.hid h6
      rw [hw4] at HP6
      clear HV6 h6 h2
      go_wp2_with fail
      refine HP6.out.mono ?_
      rintro e w5 ⟨A5, c5, rfl, hrow5, hs5, ho5⟩
      rw [← hw4] at hrow5 ho5
      obtain ⟨hc5, hst5⟩ := strs_own hrow5 (by unfold rdPathO; exact rdK_size _ _)
      have hp5 := rdPathO_len s2
      obtain ⟨T, hT⟩ : ∃ P, P = (rdPathO s2).1 := ⟨_, rfl⟩
      obtain ⟨s3, hs3'⟩ : ∃ s, s = (rdPathO s2).2 := ⟨_, rfl⟩
      rw [← hT] at hc5 hst5 hp5 ⊢
      rw [← hs3'] at hs5
      have hz4 := HZ4.out
      have hl := HL.out
      have hz5 := ho5.size
      have hq5 := HQ4.out.only ho5 (by omega)
      have hr5 := HR4.out.only ho5 (by omega)
      obtain ⟨w6, hw6⟩ : ∃ W, W = w5.setCell ⟨w1.heap.size, 7, none⟩ (.slice A5 T.length c5) := ⟨_, rfl⟩
      have k6 : ∀ b, b ≠ w1.heap.size → w6.heap[b]? = w5.heap[b]? := fun b hb => by rw [hw6]; exact heap_setCell_other _ ⟨w1.heap.size, 7, none⟩ b _ hb
      have z6 : w6.heap.size = w5.heap.size := by rw [hw6]; simp
      have hq6 := hq5.set7 (.slice A5 T.length c5)
      rw [← hw6] at hq6
      have hr6 := hr5.other w1.heap.size 7 (.slice A5 T.length c5) (by omega)
      rw [← hw6] at hr6
      have hs6 : SrcL w6 g s3 := hs5.of (k6 g (by omega))
      have ho6 : Only w w6 g := by
        have h := HO5.out.trans ho5
        exact ⟨by rw [hw6]; exact h.os, by rw [hw6]; exact h.tape, by rw [hw6]; exact h.output, by rw [z6]; exact h.size, fun b hb hne => (k6 b (by omega)).trans (h.block b hb hne)⟩
      have hst6 : StrsAt w6 (fun b => w1.heap.size + 1 ≤ b ∧ b < w6.heap.size) A5 T := (hst5.keep fun b hb => k6 b (by omega)).imp fun b hb => ⟨by omega, by rw [z6]; exact hb.2⟩
      have hsp6 : StrsAt w6 (fun b => w1.heap.size + 1 ≤ b ∧ b < w6.heap.size) A P := (HST.out.keep fun b hb => (k6 b (by have := hb.1; omega)).trans (ho5.block b hb.2 (by rintro ⟨⟩; have := hb.1; omega))).imp fun b hb => ⟨hb.1, by have := hb.2; omega⟩
      have HQ6 := Lib.hid hq6
      have HR6 := Lib.hid hr6
      have HX6 := Lib.hid (And.intro hs6 (And.intro ho6 (And.intro hst6 (And.intro hsp6 (And.intro hc5 (And.intro hp5 (And.intro hT hs3')))))))
      have q5f := fun i => hq5.free i
      have u7 := hq5.g7
      clear hrow5 hs5 ho5 hc5 hst5 hp5 hT hs3' hq5 hr5 k6 z6 hs6 ho6 hst6 hsp6 HP6 HQ4 HR4 HS4 HO5 HST hw4
      clear q3f q30 q31 q32 q33 q34 q35 q36 q37 r3f
      subst hw6
      have z4f := fun i => hq6.free i
      have r4f := fun i => hr6.free i
      have z0 := hq6.g0
      have z1 := hq6.g1
      have z2 := hq6.g2
      have z3 := hq6.g3
      have z4 := hq6.g4
      have z5 := hq6.g5
      have z6 := hq6.g6
      have z7 := hq6.g7
      have y0 := hr6.g0
      have y1 := hr6.g1
      have y2 := hr6.g2
      have y3 := hr6.g3
      have y4 := hr6.g4
      have y5 := hr6.g5
      have y6 := hr6.g6
      have y7 := hr6.g7
      clear hq6 hr6
      go_wp2_with fail
      refine bodyPost_ret (results_cell_o rfl _ _ w.heap.size 27 _ (0, 0) rfl (eight_box HR6.out) (by kernel_rfl)) rfl ?_
      have h6 := H6.out
      subst h6
      obtain ⟨hs6, ho6, hst6, hsp6, hc5, hp5, hT, hs3'⟩ := HX6.out
      have e0 : rdOp st = (⟨6, P, noneV, T⟩, s3) := by
        unfold rdOp
        rw [if_neg (by rw [← HN.out]; omega), if_pos HN.out.symm, ← HS1.out, ← HPP.out.1, ← HPP.out.2, ← hT, ← hs3']
      refine op_end (S := fun b => w1.heap.size + 1 ≤ b ∧ b < (w5.setCell ⟨w1.heap.size, 7, none⟩ (.slice A5 T.length c5)).heap.size) (by rw [e0]; exact hs6) ho6 hgl ?_ (fun b hb => ⟨by omega, hb.2⟩)
      rw [e0]
      exact ⟨A, c, _, _, _, _, _, A5, c5, rfl, leaf_lv _ _ _ _ _ (by unfold Rng; omega) (by unfold Rng; omega) (by decide), hsp6, hst6, HC3.out, hc5, rng_k (k := 6) (by decide) (by decide), by show P.length ≤ _; omega, by show T.length ≤ _; omega⟩
    · have d6 : ((n : Int) == 6) = false := beq_eq_false_iff_ne.2 (by omega)
      have H6 := Lib.hid (And.intro h2 h6)
      rw [hw4] at HV6
      clear HP6 h6 h2
      go_wp2_with fail
      refine HV6.out.mono ?_
      rintro e w5 ⟨v, rfl, hs5, ho5, hv5⟩
      rw [← hw4] at ho5 hv5
      obtain ⟨VA, vc, VA', vc', rfl, -⟩ := hv5.shape
      obtain ⟨t, ht⟩ : ∃ t, t = (readO s2).1 := ⟨_, rfl⟩
      obtain ⟨s3, hs3'⟩ : ∃ s, s = (readO s2).2 := ⟨_, rfl⟩
      rw [← ht] at hv5 ⊢
      rw [← hs3'] at hs5
      have hz4 := HZ4.out
      have hl := HL.out
      have hz5 := ho5.size
      have hq5 := HQ4.out.only ho5 (by omega)
      have hr5 := HR4.out.only ho5 (by omega)
      obtain ⟨w6, hw6⟩ : ∃ W, W = five w5 w1.heap.size 2 (.int .i64 t.kind) (.int .i64 t.num) (.string t.text) (.slice VA t.items.length vc) (.slice VA' t.names.length vc') := ⟨_, rfl⟩
      have k6 : ∀ b, b ≠ w1.heap.size → w6.heap[b]? = w5.heap[b]? := fun b hb => by rw [hw6]; exact five_other _ _ _ _ _ _ _ _ b hb
      have z6 : w6.heap.size = w5.heap.size := by rw [hw6]; exact five_size _ _ _ _ _ _ _ _
      have hq6 : OBox (five w5 w1.heap.size 2 (.int .i64 t.kind) (.int .i64 t.num) (.string t.text) (.slice VA t.items.length vc) (.slice VA' t.names.length vc')) w1.heap.size _ _ _ _ _ _ _ _ := ((((hq5.set2 (.int .i64 t.kind)).set3 (.int .i64 t.num)).set4 (.string t.text)).set5 (.slice VA t.items.length vc)).set6 (.slice VA' t.names.length vc')
      have hr6 : OBox w6 w.heap.size _ _ _ _ _ _ _ _ := (k6 w.heap.size (by omega)).trans hr5
      rw [← hw6] at hq6
      have hs6 : SrcL w6 g s3 := hs5.of (k6 g (by omega))
      have ho6 : Only w w6 g := by
        have h := HO5.out.trans ho5
        have r := five_rest w5 w1.heap.size 2 (.int .i64 t.kind) (.int .i64 t.num) (.string t.text) (.slice VA t.items.length vc) (.slice VA' t.names.length vc')
        rw [← hw6] at r
        exact ⟨r.1.trans h.os, r.2.1.trans h.tape, r.2.2.trans h.output, by rw [z6]; exact h.size, fun b hb hne => (k6 b (by omega)).trans (h.block b hb hne)⟩
      have hv6 : LV w6 (fun b => w1.heap.size + 1 ≤ b ∧ b < w6.heap.size) t _ := (hv5.keep fun b hb => k6 b (by have := hb.1; omega)).imp fun b hb => ⟨by have := hb.1; omega, by rw [z6]; exact hb.2⟩
      have hsp6 : StrsAt w6 (fun b => w1.heap.size + 1 ≤ b ∧ b < w6.heap.size) A P := (HST.out.keep fun b hb => (k6 b (by have := hb.1; omega)).trans (ho5.block b hb.2 (by rintro ⟨⟩; have := hb.1; omega))).imp fun b hb => ⟨hb.1, by have := hb.2; omega⟩
      have HQ6 := Lib.hid hq6
      have HR6 := Lib.hid hr6
      have HX6 := Lib.hid (And.intro hs6 (And.intro ho6 (And.intro hv6 (And.intro hsp6 (And.intro ht hs3')))))
      have q5f := fun i => hq5.free i
      have u2 := hq5.g2
      have u3 := hq5.g3
      have u4 := hq5.g4
      have u5 := hq5.g5
      have u6 := hq5.g6
      clear hs5 ho5 hv5 ht hs3' hq5 hr5 k6 z6 hs6 ho6 hv6 hsp6 HV6 HQ4 HR4 HS4 HO5 HST hw4
      clear q3f q30 q31 q32 q33 q34 q35 q36 q37 r3f
      subst hw6
      have z4f := fun i => hq6.free i
      have r4f := fun i => hr6.free i
      have z0 := hq6.g0
      have z1 := hq6.g1
      have z2 := hq6.g2
      have z3 := hq6.g3
      have z4 := hq6.g4
      have z5 := hq6.g5
      have z6 := hq6.g6
      have z7 := hq6.g7
      have y0 := hr6.g0
      have y1 := hr6.g1
      have y2 := hr6.g2
      have y3 := hr6.g3
      have y4 := hr6.g4
      have y5 := hr6.g5
      have y6 := hr6.g6
      have y7 := hr6.g7
      clear hq6 hr6
      simp only [five] at z4f r4f z0 z1 z2 z3 z4 z5 z6 z7 y0 y1 y2 y3 y4 y5 y6 y7
      go_wp2_with fail
      refine bodyPost_ret (results_cell_o rfl _ _ w.heap.size 27 _ (0, 0) rfl (eight_box HR6.out) (by kernel_rfl)) rfl ?_
      obtain ⟨h2, h6⟩ := H6.out
      obtain ⟨hs6, ho6, hv6, hsp6, ht, hs3'⟩ := HX6.out
      have e0 : rdOp st = (⟨n, P, t, []⟩, s3) := by
        unfold rdOp
        rw [if_neg (by rw [← HN.out]; omega), if_neg (by rw [← HN.out]; omega), ← HN.out, ← HS1.out, ← HPP.out.1, ← HPP.out.2, ← ht, ← hs3']
      refine op_end (S := fun b => w1.heap.size + 1 ≤ b ∧ b < (five w5 w1.heap.size 2 (.int .i64 t.kind) (.int .i64 t.num) (.string t.text) (.slice VA t.items.length vc) (.slice VA' t.names.length vc')).heap.size) (by rw [e0]; exact hs6) ho6 hgl ?_ (fun b hb => ⟨by omega, hb.2⟩)
      rw [e0]
      have hn := HN256.out
      exact ⟨A, c, _, _, _, _, _, none, 0, rfl, hv6, hsp6, strs_nil _ _ _, HC3.out, Nat.le_refl _, rng_k (k := (n : Int)) (by omega) (by omega), by show P.length ≤ _; omega, by simp⟩
end Go.Proofs.Ytipiplnhbecjeaa

/- Rows of operators of the call's own, while they are read. -/
namespace Go.Proofs.Ytipiplnhbecjeaa
set_option linter.unusedVariables false
set_option linter.unusedSimpArgs false
open Go.RowKit
set_option maxRecDepth 100000
theorem Try.infoAOp : (Try.prog.info? 27).map (fun i => (i.zero, i.size, i.bytes)) = some (some (.agg #[.int .i64 0, .slice none 0 0, .int .i64 0, .int .i64 0, .string ⟨#[]⟩, .slice none 0 0, .slice none 0 0, .slice none 0 0]), 8, 136) := by kernel_rfl
/-- Operators in their cells, eight each. -/
def OpsC (w : World) (S : Nat → Prop) : List OpT → List Value → Prop
  | [], xs => xs = []
  | o :: l, xs => ∃ c r, xs = c ++ r ∧ OpL w S o c.toArray ∧ OpsC w S l r
section
variable {w w' : World} {S S' : Nat → Prop}
theorem OpL.lenL {o : OpT} {cs : List Value} (h : OpL w S o cs.toArray) : cs.length = 8 := by
  have := h.size
  simpa using this
theorem OpL.oneL {o : OpT} {cs : List Value} (h : OpL w S o cs.toArray) : ∀ u ∈ cs, u.oneCell' = true := by
  obtain ⟨PA, pc, a, b, c, d, e, TA, tc, h1, h2, -⟩ := h
  obtain ⟨A, n, A', n', hs, -⟩ := h2.shape
  simp only [Value.agg.injEq, Array.mk.injEq, List.cons.injEq, and_true] at hs
  obtain ⟨rfl, rfl, rfl, rfl, rfl⟩ := hs
  simp only [Array.mk.injEq] at h1
  subst h1
  intro u hu
  simp only [List.mem_cons, List.not_mem_nil, or_false] at hu
  rcases hu with rfl | rfl | rfl | rfl | rfl | rfl | rfl | rfl <;> rfl
theorem OpsC.len : ∀ {l : List OpT} {xs : List Value}, OpsC w S l xs → xs.length = l.length * 8
  | [], xs, h => by have h : xs = [] := h; rw [h]; rfl
  | o :: l, xs, h => by
    obtain ⟨c, r, rfl, h1, h2⟩ := h
    rw [List.length_append, h1.lenL, OpsC.len h2, List.length_cons]; omega
theorem OpsC.keep (hk : ∀ b, S b → w'.heap[b]? = w.heap[b]?) : ∀ {l : List OpT} {xs : List Value}, OpsC w S l xs → OpsC w' S l xs
  | [], _, h => h
  | _ :: _, _, h => by obtain ⟨c, r, h0, h1, h2⟩ := h; exact ⟨c, r, h0, h1.keep hk, OpsC.keep hk h2⟩
theorem OpsC.imp (hS : ∀ b, S b → S' b) : ∀ {l : List OpT} {xs : List Value}, OpsC w S l xs → OpsC w S' l xs
  | [], _, h => h
  | _ :: _, _, h => by obtain ⟨c, r, h0, h1, h2⟩ := h; exact ⟨c, r, h0, h1.imp hS, OpsC.imp hS h2⟩
theorem OpsC.push {o : OpT} {cs : List Value} (ho : OpL w S o cs.toArray) : ∀ {l : List OpT} {xs : List Value}, OpsC w S l xs → OpsC w S (l ++ [o]) (xs ++ cs)
  | [], xs, h => by have h : xs = [] := h; subst h; exact ⟨cs, [], by simp, ho, rfl⟩
  | p :: l, xs, h => by
    obtain ⟨c, r, rfl, h1, h2⟩ := h
    exact ⟨c, r ++ cs, by rw [List.append_assoc], h1, OpsC.push ho h2⟩
theorem OpsC.at : ∀ {l : List OpT} {xs : List Value}, OpsC w S l xs → ∀ i (hi : i < l.length), ∃ cs : List Value, OpL w S l[i] cs.toArray ∧ ∀ j, j < 8 → xs[i * 8 + j]? = cs[j]?
  | [], _, _, i, hi => absurd hi (by simp)
  | o :: l, xs, h, i, hi => by
    obtain ⟨c, r, rfl, h1, h2⟩ := h
    cases i with
    | zero =>
      refine ⟨c, h1, fun j hj => ?_⟩
      rw [List.getElem?_append_left (by rw [h1.lenL]; omega)]
      congr 1; omega
    | succ i =>
      obtain ⟨cs, h3, h4⟩ := OpsC.at h2 i (by simpa using hi)
      refine ⟨cs, h3, fun j hj => ?_⟩
      rw [List.getElem?_append_right (by rw [h1.lenL]; omega), h1.lenL, ← h4 j hj]
      congr 1; omega
/-- A row of the call's own reads as operators in memory. -/
theorem OpsC.rows {B : Nat} {A : Option Addr} {c n : Nat} {l : List OpT} {xs : List Value} (h : OpsC w S l xs) (ho : w.ownsRow B 27 8 (.slice A n c) n xs) (hn : n = l.length) (hS : ∀ b, S b → S' b) (hrow : ∀ p, (Value.slice A n c).ownBlock = some p → S' p) : OpsL w S' A l := fun hp => by
  subst hn
  rcases ho.2 with ⟨-, h0⟩ | ⟨g, cap, cur, e, hB, hh, hr⟩
  · omega
  · injection e with e1 e2 e3
    subst e1 e3
    refine ⟨g, 0, rfl, hrow g rfl, fun i hi => ?_⟩
    obtain ⟨cs, h4, h5⟩ := h.at i hi
    refine ⟨cs.toArray, fun j v hv => ?_, h4.imp hS⟩
    have hv' : cs[j]? = some v := by simpa using hv
    have hj : j < 8 := by have := (List.getElem?_eq_some_iff.1 hv').1; have := h4.lenL; omega
    have h6 := ho.cells (g := g) rfl (i * 8 + j) v (by rw [h5 j hj]; exact hv')
    rw [add_at, Nat.zero_add] at h6
    rw [Nat.zero_add]
    exact h6
end
/-- The row of operators that is read: its cells, and where their parts lie. -/
def OpsRow (w0 : World) (w : World) (A : Option Addr) (c : Nat) (l : List OpT) : Prop :=
  ∃ xs, ∃ S : Nat → Prop, w.ownsRow w0.heap.size 27 8 (.slice A l.length c) l.length xs ∧ OpsC w S l xs ∧ ∀ b, S b → w0.heap.size ≤ b ∧ b < w.heap.size ∧ ∀ p, (Value.slice A l.length c).ownBlock = some p → b ≠ p
theorem OpsRow.nil (w0 w : World) : OpsRow w0 w none 0 [] := ⟨[], fun _ => False, World.ownsRow_nil _ _ _ _, rfl, fun _ h => h.elim⟩
theorem OpsRow.only {w0 w w' : World} {A : Option Addr} {c g : Nat} {l : List OpT} (h : OpsRow w0 w A c l) (ho : Only w w' g) (hg : g < w0.heap.size) : OpsRow w0 w' A c l := by
  obtain ⟨xs, S, h1, h2, h3⟩ := h
  refine ⟨xs, S, ⟨h1.1, h1.2.imp id ?_⟩, h2.keep fun b hb => ho.block b (h3 b hb).2.1 (by rintro ⟨⟩; have := (h3 _ hb).1; omega), fun b hb => ⟨(h3 b hb).1, Nat.lt_of_lt_of_le (h3 b hb).2.1 ho.size, (h3 b hb).2.2⟩⟩
  rintro ⟨q, cap, cur, e, hB, hh, hr⟩
  exact ⟨q, cap, cur, e, hB, (ho.block q (Array.getElem?_eq_some_iff.1 hh).1 (by rintro ⟨⟩; omega)).trans hh, hr⟩
theorem OpsRow.rows {w0 w : World} {A : Option Addr} {c : Nat} {l : List OpT} (h : OpsRow w0 w A c l) : OpsL w (NewB w0.heap.size w) A l := by
  obtain ⟨xs, S, h1, h2, h3⟩ := h
  exact h2.rows h1 rfl (fun b hb => ⟨(h3 b hb).1, (h3 b hb).2.1⟩) (fun p hp => World.ownsRow.lt h1 p hp)
theorem OpsRow.cap {w0 w : World} {A : Option Addr} {c : Nat} {l : List OpT} (h : OpsRow w0 w A c l) : l.length ≤ c := by
  obtain ⟨xs, S, h1, -⟩ := h
  rcases h1.2 with ⟨e, h0⟩ | ⟨g, cap, cur, e, -, -, hc, -⟩
  · omega
  · injection e with _ _ e; omega
/-- One more lies in the row, behind an append. -/
theorem OpsRow.push {w0 w W : World} {p cap n c : Nat} {A : Option Addr} {xs cs : List Value} {S S2 : Nat → Prop} {o : OpT} {l : List OpT} (hn : n = l.length)
    (hb : w.grownBy W (Value.slice A n c).ownBlock) (hw : WhereRow w (.slice A n c) (.slice (some ⟨p, 0, none⟩) (n + 1) cap)) (hown : W.ownsRow w0.heap.size 27 8 (.slice (some ⟨p, 0, none⟩) (n + 1) cap) (n + 1) (xs ++ cs)) (hl : OpsC w S l xs) (hone : OpL w S2 o cs.toArray)
    (hS : ∀ b, S b → w0.heap.size ≤ b ∧ b < w.heap.size ∧ ∀ p, (Value.slice A n c).ownBlock = some p → b ≠ p) (hS2 : ∀ b, S2 b → w0.heap.size ≤ b ∧ b < w.heap.size ∧ ∀ p, (Value.slice A n c).ownBlock = some p → b ≠ p) :
    OpsRow w0 W (some ⟨p, 0, none⟩) cap (l ++ [o]) := by
  subst hn
  have hlen : (l ++ [o]).length = l.length + 1 := by simp
  have hk : ∀ b, b < w.heap.size → (∀ p, (Value.slice A l.length c).ownBlock = some p → b ≠ p) → W.heap[b]? = w.heap[b]? := fun b h1 h3 => hb.block b h1 (fun e => h3 b e.symm rfl)
  refine ⟨xs ++ cs, fun b => S b ∨ S2 b, by rw [hlen]; exact hown, OpsC.push ((hone.keep fun b hb' => hk b (hS2 b hb').2.1 (hS2 b hb').2.2).imp fun b h => .inr h) ((OpsC.keep (fun b hb' => hk b (hS b hb').2.1 (hS b hb').2.2) hl).imp fun b h => .inl h), ?_⟩
  intro b hb'
  have hc : w0.heap.size ≤ b ∧ b < w.heap.size ∧ ∀ p, (Value.slice A l.length c).ownBlock = some p → b ≠ p := hb'.elim (hS b) (hS2 b)
  refine ⟨hc.1, Nat.lt_of_lt_of_le hc.2.1 hb.size, fun q hq => ?_⟩
  have hq : p = q := by simpa [Value.ownBlock] using hq
  subst hq
  rcases hw with hw | ⟨q, hq, e⟩
  · exact hc.2.2 p hw.symm
  · injection e with e
    have e : p = q := e
    omega
/-- The first operators of a code, and what is left. -/
def rdOpsK (st : Option (List UInt8)) : Nat → List OpT × Option (List UInt8)
  | 0 => ([], st)
  | k + 1 => ((rdOpsK st k).1 ++ [(rdOp (rdOpsK st k).2).1], (rdOp (rdOpsK st k).2).2)
theorem rdOpsK_len (st : Option (List UInt8)) : ∀ k, (rdOpsK st k).1.length = k
  | 0 => rfl
  | k + 1 => by simp [rdOpsK, rdOpsK_len st k]
def rdOpsO (st : Option (List UInt8)) : List OpT × Option (List UInt8) := rdOpsK (rdCount 16 st).2 (rdCount 16 st).1
theorem OpsRow.alloc {w0 w : World} {A : Option Addr} {c : Nat} {l : List OpT} (h : OpsRow w0 w A c l) (o : Obj) : OpsRow w0 (w.alloc o) A c l := by
  obtain ⟨xs, S, h1, h2, h3⟩ := h
  have hk : ∀ b, b < w.heap.size → (w.alloc o).heap[b]? = w.heap[b]? := fun b hb => Below.heap_alloc w o b hb
  refine ⟨xs, S, ⟨h1.1, h1.2.imp id ?_⟩, h2.keep fun b hb => hk b (h3 b hb).2.1, fun b hb => ⟨(h3 b hb).1, by have := (h3 b hb).2.1; simp; omega, (h3 b hb).2.2⟩⟩
  rintro ⟨q, cap, cur, e, hB, hh, hr⟩
  exact ⟨q, cap, cur, e, hB, (hk q (Array.getElem?_eq_some_iff.1 hh).1).trans hh, hr⟩
theorem OpsRow.own {w0 w : World} {A : Option Addr} {c : Nat} {l : List OpT} (h : OpsRow w0 w A c l) : ∀ p, (Value.slice A l.length c).ownBlock = some p → w0.heap.size ≤ p ∧ p < w.heap.size := by
  obtain ⟨xs, S, h1, -⟩ := h
  exact fun p hp => World.ownsRow.lt h1 p hp
theorem row_pos {w : World} {B n k : Nat} {t : TypeId} {v : Value} {xs : List Value} (h : w.ownsRow B t k v n xs) (hn : 0 < n) : ∃ p cap, v = .slice (some ⟨p, 0, none⟩) n cap := by
  rcases h.2 with ⟨-, h0⟩ | ⟨g, cap, cur, h1, -⟩
  · omega
  · exact ⟨g, cap, h1⟩
theorem eight_new (w : World) (cs : List Value) (t : TypeId) : ∀ j u, cs[j]? = some u → (w.alloc (.cells cs.toArray t)).cell? ((⟨w.heap.size, 0, none⟩ : Addr).add j) = some u := fun j u h => by
  rw [add_at, Nat.zero_add]
  exact (Go.Joins.cell_of_block (heap_alloc_new w _) j).trans (by simpa using h)
end Go.Proofs.Ytipiplnhbecjeaa

/- The program's reading of operators' codes. -/
namespace Go.Proofs.Ytipiplnhbecjeaa
set_option linter.unusedVariables false
set_option linter.unusedSimpArgs false
open Go.RowKit
set_option maxRecDepth 100000
def ReadOpsR (g : Nat) (st : Option (List UInt8)) (w : World) (e : Ending) (w' : World) : Prop :=
  ∃ A c, e = .returned (.slice A (rdOpsO st).1.length c) ∧ OpsRow w w' A c (rdOpsO st).1 ∧ SrcL w' g (rdOpsO st).2 ∧ Only w w' g
/-- Behind the append of one operator. -/
theorem ops_next {w wr w5 w7 : World} {g k c c7 p : Nat} {A : Option Addr} {s1 : Option (List UInt8)} {cs xs : List Value} {S : Nat → Prop} {v7 : Value} (hg : g < w.heap.size) (hw : Only w wr g) (hr : OpsRow w wr A c (rdOpsK s1 k).1) (ho5 : Only wr w5 g) (hs5 : SrcL w5 g (rdOp (rdOpsK s1 k).2).2) (hop : OpL w5 (NewB wr.heap.size w5) (rdOp (rdOpsK s1 k).2).1 cs.toArray)
    (hl : OpsC (w5.alloc (.cells cs.toArray 27)) S (rdOpsK s1 k).1 xs) (hS : ∀ b, S b → w.heap.size ≤ b ∧ b < (w5.alloc (.cells cs.toArray 27)).heap.size ∧ ∀ p, (Value.slice A k c).ownBlock = some p → b ≠ p)
    (hv : v7 = .slice (some ⟨p, 0, none⟩) (k + 1) c7) (hown : w7.ownsRow w.heap.size 27 8 v7 (k + 1) (xs ++ cs)) (hb : (w5.alloc (.cells cs.toArray 27)).grownBy w7 (Value.slice A k c).ownBlock) (hat : v7.ownBlock = (Value.slice A k c).ownBlock ∨ v7.ownBlock = some (w5.alloc (.cells cs.toArray 27)).heap.size) :
    OpsRow w w7 (some ⟨p, 0, none⟩) c7 (rdOpsK s1 (k + 1)).1 ∧ SrcL w7 g (rdOpsK s1 (k + 1)).2 ∧ Only w w7 g := by
  have hlen : (rdOpsK s1 k).1.length = k := rdOpsK_len s1 k
  have hpo : ∀ p, (Value.slice A k c).ownBlock = some p → w.heap.size ≤ p ∧ p < wr.heap.size := by
    have h := hr.own
    rw [hlen] at h
    exact h
  have hz5 := ho5.size
  have hzw := hw.size
  have hz6 : (w5.alloc (.cells cs.toArray 27)).heap.size = w5.heap.size + 1 := by simp
  have k6 : ∀ b, b < w5.heap.size → (w5.alloc (.cells cs.toArray 27)).heap[b]? = w5.heap[b]? := fun b hb => Below.heap_alloc w5 _ b hb
  have k7 : ∀ b, b < w5.heap.size → (∀ p, (Value.slice A k c).ownBlock = some p → b ≠ p) → w7.heap[b]? = w5.heap[b]? := fun b hb' hn => (hb.block b (by omega) (fun e => hn b e.symm rfl)).trans (k6 b hb')
  subst hv
  refine ⟨?_, ?_, ?_⟩
  · refine OpsRow.push (S2 := NewB wr.heap.size w5) hlen.symm hb ?_ hown hl (hop.keep fun b hb' => k6 b hb'.2) hS ?_
    · exact hat.imp id fun h => ⟨_, Nat.le_refl _, h⟩
    · intro b hb'
      have h1 : wr.heap.size ≤ b := hb'.1
      have h2 : b < w5.heap.size := hb'.2
      exact ⟨by omega, by omega, fun q hq e => by have := (hpo q hq).2; omega⟩
  · exact hs5.of (k7 g (by omega) fun q hq e => by have := (hpo q hq).1; omega)
  · refine ⟨hb.os.trans ((ho5.os).trans hw.os), hb.tape.trans ((ho5.tape).trans hw.tape), hb.output.trans ((ho5.output).trans hw.output), by have := hb.size; omega, fun b hb' hne => ?_⟩
    exact (k7 b (by omega) fun q hq e => by have := (hpo q hq).1; omega).trans ((ho5.block b (by omega) hne).trans (hw.block b hb' hne))
set_option maxHeartbeats 8000000 in
theorem readops_any (g : Nat) (st : Option (List UInt8)) (w : World) (hs : SrcL w g st) : Calls Try.prog 52 #[.pointer (some ⟨g, 0, none⟩)] w (ReadOpsR g st w) := by
  obtain ⟨i0, hi, hz0, hz1, hz2⟩ := info_parts Try.infoAOp
  have h16 : (rdCount 16 st).1 ≤ 16 := rdCount_le 16 st (by omega)
  have HC := Lib.hid (scount_any g st 16 w hs (by omega))
  have HG := Lib.hid hs.lt
  obtain ⟨n, hn⟩ : ∃ n, n = (rdCount 16 st).1 := ⟨_, rfl⟩
  have HN := Lib.hid hn
  rw [← hn] at h16 HC
  clear hs hn
  go_enter Try.func52, Try.ntmps52
  go_wp2_with fail
  refine HC.out.mono ?_
  rintro e w1 ⟨rfl, hs1, ho1⟩
  obtain ⟨s1, hs1'⟩ : ∃ s1, s1 = (rdCount 16 st).2 := ⟨_, rfl⟩
  rw [← hs1'] at hs1
  have HS1 := Lib.hid hs1'
  have h0 : Hid (SrcL w1 g (rdOpsK s1 0).2 ∧ Only w w1 g) := Lib.hid ⟨hs1, ho1⟩
  clear hs1 ho1 hs1' HC
  go_wp2_with fail
  go_loopw [3, 6] (fun v i wr => ∃ (k : Nat) (A : Option Addr) (c : Nat), i = .int .i64 k ∧ k ≤ n ∧ v = .slice A k c ∧ Hid (SrcL wr g (rdOpsK s1 k).2 ∧ Only w wr g) ∧ Hid (OpsRow w wr A c (rdOpsK s1 k).1)) (fun _ i _ => n - (intOf i).toNat)
  case atStart => exact ⟨0, none, 0, rfl, by omega, rfl, h0, Lib.hid (OpsRow.nil _ _)⟩
  case round =>
    obtain ⟨k, A, c, rfl, hk, rfl, HH, HR⟩ := hrel
    by_cases hlt : k < n
    · have d1 : decide ((k : Int) < (n : Int)) = true := decide_eq_true (by omega)
      have HT := Lib.hid (readop_any g (rdOpsK s1 k).2 wr HH.out.1)
      have hk16 : k < 16 := by omega
      go_wp2_with fail
      refine HT.out.mono ?_
      rintro e w5 ⟨cs, rfl, hop, hs5, ho5⟩
      obtain ⟨PA, pc, a0, b0, c0, d0, e0, TA, tc, rfl, hlv, -⟩ := id hop
      obtain ⟨VA, vc, VA', vc', hvs, -⟩ := hlv.shape
      simp only [Value.agg.injEq, Array.mk.injEq, List.cons.injEq, and_true] at hvs
      obtain ⟨rfl, rfl, rfl, rfl, rfl⟩ := hvs
      have h1c := hop.oneL
      have hrow := (HR.out.only ho5 HG.out).alloc (.cells (List.toArray [.int .i64 (rdOp (rdOpsK s1 k).2).1.kind, .slice PA (rdOp (rdOpsK s1 k).2).1.path.length pc, .int .i64 (rdOp (rdOpsK s1 k).2).1.val.kind, .int .i64 (rdOp (rdOpsK s1 k).2).1.val.num, .string (rdOp (rdOpsK s1 k).2).1.val.text, .slice VA (rdOp (rdOpsK s1 k).2).1.val.items.length vc, .slice VA' (rdOp (rdOpsK s1 k).2).1.val.names.length vc', .slice TA (rdOp (rdOpsK s1 k).2).1.to.length tc]) 27)
      obtain ⟨xs, S, r1, r2, r3⟩ := hrow
      rw [rdOpsK_len] at r1 r3
      have HX := Lib.hid (fun (w7 : World) (v7 : Value) (p c7 : Nat) (e7 : v7 = .slice (some ⟨p, 0, none⟩) (k + 1) c7) => ops_next (w7 := w7) (v7 := v7) (p := p) (c7 := c7) HG.out HH.out.2 HR.out ho5 hs5 hop r2 r3 e7)
      have HR1 := Lib.hid r1
      have H1C := Lib.hid h1c
      have hz5 : w.heap.size ≤ w5.heap.size := by have := ho5.size; have := HH.out.2.size; omega
      obtain ⟨o, hob⟩ : ∃ o, o = (rdOp (rdOpsK s1 k).2).1 := ⟨_, rfl⟩
      rw [← hob] at HX HR1 H1C ⊢
      clear hs5 ho5 hop hlv h1c r1 r2 r3 HT hob
      go_wp2_with (at_builtin; refine wpList_append_own_at _ rfl _ _ 33 rfl w.heap.size 27 i0 _ 8 136 Try.underlying33 hi hz0 hz1 hz2 rfl (by decide) _ k _ rfl HR1.out ⟨w5.heap.size, 0, none⟩ 1 1 _ rfl rfl (eight_new w5 _ _) H1C.out (by unfold maxLen; omega) (by omega) (by simp; omega) ?_; intro v7 w7 hown7 hg7 hnil7 hat7; obtain ⟨p, c7, rfl⟩ := row_pos hown7 (by omega); have HX7 := Lib.hid (HX.out w7 _ p c7 rfl hown7 hg7 hat7); clear hown7 hg7 hnil7 hat7)
      try go_wp2_with fail
      go_roundw
      case rel => exact ⟨k + 1, some ⟨p, 0, none⟩, c7, by go_num, by omega, rfl, Lib.hid ⟨HX7.out.2.1, HX7.out.2.2⟩, Lib.hid HX7.out.1⟩
      case measure => simp [intOf]; omega
    · have hke : k = n := by omega
      have d1 : decide ((k : Int) < (n : Int)) = false := decide_eq_false (by omega)
      have HE : Hid (rdOpsO st = rdOpsK s1 k) := Lib.hid (by unfold rdOpsO; rw [← HS1.out, ← HN.out, hke])
      clear hke
      go_wp2_with fail
      go_ret
      unfold ReadOpsR
      rw [HE.out, rdOpsK_len]
      exact ⟨A, c, rfl, HR.out, HH.out.1, HH.out.2⟩
end Go.Proofs.Ytipiplnhbecjeaa
