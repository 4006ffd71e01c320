/- The program's reading of a path's code. -/
import Derived.Test.YtnamdlljdgllmaaGreatKPathJ
import Derived.Test.YtnamdlljdgllmaaGreatKLook
import Derived.Test.YtnamdlljdgllmaaGreatKRefM
import Derived.Test.YtnamdlljdgllmaaGreatKValM
import Derived.Test.YtnamdlljdgllmaaGreatKCodV
import Derived.Test.YtnamdlljdgllmaaGreatKRegR
import Derived.Test.YtnamdlljdgllmaaGreatKFive
import Derived.Laws.OwnMore
namespace Go.Proofs.YtnamdlljdgllmaaGreat
open Lib (hid)
set_option linter.unusedVariables false
set_option linter.unusedSimpArgs false
open Go.RowKit
set_option maxRecDepth 100000
def rdK (st : Option (List UInt8)) : Nat → List ByteArray × Option (List UInt8)
  | 0 => ([], st)
  | k + 1 => ((rdK st k).1 ++ [⟨(rdText 32 (rdK st k).2).1.toArray⟩], (rdText 32 (rdK st k).2).2)
theorem rdK_len (st : Option (List UInt8)) : ∀ k, (rdK st k).1.length = k
  | 0 => rfl
  | k + 1 => by simp [rdK, rdK_len st k]
def rdPathO (st : Option (List UInt8)) : List ByteArray × Option (List UInt8) := rdK (rdCount 8 st).2 (rdCount 8 st).1
set_option maxHeartbeats 8000000 in
theorem readpath_any (g : Nat) (st : Option (List UInt8)) (w : World) (hs : SrcL w g st) :
    Calls Tryz.prog 108 #[.pointer (some ⟨g, 0, none⟩)] w fun e w' => ∃ A c, e = .returned (.slice A (rdPathO st).1.length c) ∧ w'.ownsRow w.heap.size 9 1 (.slice A (rdPathO st).1.length c) (rdPathO st).1.length ((rdPathO st).1.map Value.string) ∧ SrcL w' g (rdPathO st).2 ∧ Only w w' g := by
  obtain ⟨i0, hi, hz0, hz1, hz2⟩ := info_parts Tryz.infoStr
  have h8 : (rdCount 8 st).1 ≤ 8 := rdCount_le 8 st (by omega)
  have HC := hid (scount_any g st 8 w hs (by omega))
  have HG := hid hs.lt
  obtain ⟨n, hn⟩ : ∃ n, n = (rdCount 8 st).1 := ⟨_, rfl⟩
  have HN := hid hn
  rw [← hn] at h8 HC
  clear hs hn
  go_enter Tryz.func108, Tryz.ntmps108
  go_wp2_with fail
  refine HC.out.mono ?_
  rintro e w1 ⟨rfl, hs1, ho1⟩
  obtain ⟨s1, hs1'⟩ : ∃ s1, s1 = (rdCount 8 st).2 := ⟨_, rfl⟩
  rw [← hs1'] at hs1
  have HS1 := hid hs1'
  have h0 : Hid (SrcL w1 g (rdK s1 0).2 ∧ Only w w1 g) := hid ⟨hs1, ho1⟩
  clear hs1 ho1 hs1' HC
  go_wp2_with fail
  go_loopw [3, 6] (fun v i wr => ∃ (k : Nat) (A : Option Addr) (c : Nat), i = .int .i64 k ∧ k ≤ n ∧ v = .slice A k c ∧ Hid (SrcL wr g (rdK s1 k).2 ∧ Only w wr g) ∧ Hid (wr.ownsRow w.heap.size 9 1 (.slice A k c) k ((rdK s1 k).1.map Value.string))) (fun _ i _ => n - (intOf i).toNat)
  case atStart => exact ⟨0, none, 0, rfl, by omega, rfl, h0, hid (World.ownsRow_nil _ _ _ _)⟩
  case round =>
    obtain ⟨k, A, c, rfl, hk, rfl, HH, HR⟩ := hrel
    by_cases hlt : k < n
    · have d1 : decide ((k : Int) < (n : Int)) = true := decide_eq_true (by omega)
      have HT := hid (stext_any g (rdK s1 k).2 32 wr HH.out.1 (by omega))
      go_wp2_with fail
      refine HT.out.mono ?_
      rintro e w5 ⟨rfl, hs5, ho5⟩
      obtain ⟨sx, hsx⟩ : ∃ sx : ByteArray, sx = ⟨(rdText 32 (rdK s1 k).2).1.toArray⟩ := ⟨_, rfl⟩
      rw [← hsx]
      have hw5 : Only w w5 g := HH.out.2.trans ho5
      have hlo : ∀ q, (Value.slice A k c).ownBlock = some q → w.heap.size ≤ q ∧ q < wr.heap.size := fun q hq => World.ownsRow.lt HR.out q hq
      have hg5 := HG.out
      have hrow : ∀ X : Obj, (w5.alloc X).ownsRow w.heap.size 9 1 (.slice A k c) k ((rdK s1 k).1.map Value.string) := fun X => ownsRow_keep HR.out fun q hq => by
        have := hlo q hq
        exact (Below.heap_alloc w5 _ _ (by have := ho5.size; omega)).trans (ho5.block q this.2 (by rintro ⟨⟩; omega))
      have HX5 : Hid (SrcL w5 g (rdK s1 (k + 1)).2 ∧ Only w w5 g ∧ ∀ q, (Value.slice A k c).ownBlock = some q → w.heap.size ≤ q) := hid ⟨hs5, hw5, fun q hq => (hlo q hq).1⟩
      have HSX := hid hsx
      have HROW := hid hrow
      have hsz5 := hw5.size
      have hkn : k ≤ 8 := by omega
      clear hs5 ho5 hw5 hlo hsx HT hrow
      go_wp2_with (at_builtin; refine wpList_append_own _ rfl _ _ 23 rfl w.heap.size 9 i0 (.string ⟨#[]⟩) 1 16 Tryz.underlying23 hi hz0 hz1 hz2 rfl (by decide) _ k _ rfl (HROW.out _) ⟨w5.heap.size, 0, none⟩ 1 1 [.string sx] rfl rfl (cell_one_new _ _ _) (by simp [Value.oneCell']) (by unfold maxLen; omega) (by omega) (by simp; omega) ?_; intro v6 w6 hown6 hg6 hnil6; obtain ⟨A6, c6, rfl⟩ := own_shape hown6; have HX6 : Hid (SrcL w6 g (rdK s1 (k + 1)).2 ∧ Only w w6 g) := hid ⟨HX5.out.1.of ((hg6.block g (by simp; omega) (fun e => by have := HX5.out.2.2 g e.symm; omega)).trans (Below.heap_alloc w5 _ g (by omega))), ⟨hg6.os.trans HX5.out.2.1.os, hg6.tape.trans HX5.out.2.1.tape, hg6.output.trans HX5.out.2.1.output, Nat.le_trans hsz5 (Nat.le_trans (by simp) hg6.size), fun q hq hne => (hg6.block q (by simp; omega) (fun e => by have := HX5.out.2.2 q e.symm; omega)).trans ((Below.heap_alloc w5 _ q (by omega)).trans (HX5.out.2.1.block q hq hne))⟩⟩; have HR6 := hid hown6; clear hown6 hg6 hnil6)
      try go_wp2_with fail
      go_roundw
      case rel => exact ⟨k + 1, A6, c6, by go_num, by omega, rfl, HX6, hid (by have h9 := HR6.out; rw [HSX.out] at h9; unfold rdK; rw [List.map_append]; exact h9)⟩
      case measure => simp [intOf]; omega
    · have hke : k = n := by omega
      have d1 : decide ((k : Int) < (n : Int)) = false := decide_eq_false (by omega)
      have HE : Hid (rdPathO st = rdK s1 k) := hid (by unfold rdPathO; rw [← HS1.out, ← HN.out, hke])
      clear hke
      go_wp2_with fail
      go_ret
      rw [HE.out, rdK_len]
      exact ⟨A, c, rfl, HR.out, HH.out.1, HH.out.2⟩
theorem rdK_size (st : Option (List UInt8)) : ∀ k, ∀ x ∈ (rdK st k).1, x.size ≤ 140737488351232
  | 0, x, hx => by simp [rdK] at hx
  | k + 1, x, hx => by
    simp only [rdK, List.mem_append, List.mem_singleton] at hx
    rcases hx with hx | rfl
    · exact rdK_size st k x hx
    · have := rdText_le 32 (rdK st k).2 (by omega)
      show (rdText 32 (rdK st k).2).1.toArray.size ≤ _
      simp only [List.size_toArray]
      have h2 : (rdText 32 (rdK st k).2).1.length ≤ 32 := this
      omega
theorem rdPathO_len (st : Option (List UInt8)) : (rdPathO st).1.length ≤ 8 := by
  unfold rdPathO
  rw [rdK_len]
  exact rdCount_le 8 st (by omega)
def noneV : VT := .mk 0 0 ⟨#[]⟩ [] []
theorem rng_k {k : Int} (h0 : 0 ≤ k) (h : k < 256) : Rng k := by unfold Rng; omega
theorem strs_own {w : World} {B : Nat} {A : Option Addr} {c : Nat} {l : List ByteArray} (h : w.ownsRow B 9 1 (.slice A l.length c) l.length (l.map Value.string)) (hs : ∀ s ∈ l, s.size ≤ 140737488351232) : l.length ≤ c ∧ StrsAt w (fun b => B ≤ b ∧ b < w.heap.size) A l := by
  obtain ⟨A', c', e, h1, h2⟩ := OwnS.opens (v := .slice A l.length c) h hs
  injection e with e1 e2 e3
  subst e1 e3
  exact ⟨h1, h2⟩
theorem rdByte_nn : rdByte none = (0, none) := rfl
theorem rdPath_nn : (rdPathO none).2 = none := by
  unfold rdPathO
  have h : rdCount 8 none = (0, none) := by unfold rdCount; split <;> rfl
  rw [h]; rfl
structure DelT where
  kind : Int
  path : List ByteArray
  val : VT
  num : Int
def mayD (d : DelT) : Bool := mayP d.path && (if d.kind = 1 then decide (checkT d.val = 0) && decide (d.num = 0) else if d.kind = 2 then noneT d.val && decide (d.num = 0) else if d.kind = 3 then noneT d.val && (decide (0 ≤ d.num) && decide (d.num ≤ 999)) else false)
def checkD (l : List DelT) : Int := if 64 < l.length then 3 else if l.all mayD then 0 else 1
def pathsD (l : List DelT) : List (List ByteArray) := l.map (·.path)
def freeD (l : List DelT) : Bool := !confL [] (pathsD l)
def touchD (l : List DelT) (p : List ByteArray) : Bool := l.any fun d => meetP d.path p
theorem mayD_path {d : DelT} (h : mayD d = true) : mayP d.path = true := by
  unfold mayD at h
  rw [Bool.and_eq_true] at h
  exact h.1
def DelL (w : World) (S : Nat → Prop) (d : DelT) (cs : Array Value) : Prop :=
  ∃ (PA : Option Addr) (pc : Nat) (VA : Option Addr) (vc : Nat) (VA' : Option Addr) (vc' : Nat), cs = #[.int .i64 d.kind, .slice PA d.path.length pc, .int .i64 d.val.kind, .int .i64 d.val.num, .string d.val.text, .slice VA d.val.items.length vc, .slice VA' d.val.names.length vc', .int .i64 d.num] ∧
    LV w S d.val (.agg #[.int .i64 d.val.kind, .int .i64 d.val.num, .string d.val.text, .slice VA d.val.items.length vc, .slice VA' d.val.names.length vc']) ∧ StrsAt w S PA d.path ∧ d.path.length ≤ pc ∧ (PA = none → pc = 0) ∧ Rng d.kind ∧ Rng d.num ∧ d.path.length ≤ 8796093021952
theorem DelL.keep {w w' : World} {S : Nat → Prop} {d : DelT} {cs : Array Value} (h : DelL w S d cs) (hk : ∀ b, S b → w'.heap[b]? = w.heap[b]?) : DelL w' S d cs := by
  obtain ⟨PA, pc, VA, vc, VA', vc', h1, h2, h3, h4⟩ := h
  exact ⟨PA, pc, VA, vc, VA', vc', h1, h2.keep hk, h3.keep hk, h4⟩
theorem DelL.imp {w : World} {S S' : Nat → Prop} {d : DelT} {cs : Array Value} (h : DelL w S d cs) (hS : ∀ b, S b → S' b) : DelL w S' d cs := by
  obtain ⟨PA, pc, VA, vc, VA', vc', h1, h2, h3, h4⟩ := h
  exact ⟨PA, pc, VA, vc, VA', vc', h1, h2.imp hS, h3.imp hS, h4⟩
theorem DelL.below {w w' : World} {S : Nat → Prop} {d : DelT} {cs : Array Value} {B : Nat} (h : DelL w S d cs) (hS : ∀ b, S b → b < B) (hb : Below B w w') : DelL w' S d cs := h.keep fun b hb' => hb.block b (hS b hb')
theorem DelL.size {w : World} {S : Nat → Prop} {d : DelT} {cs : Array Value} (h : DelL w S d cs) : cs.size = 8 := by
  obtain ⟨PA, pc, VA, vc, VA', vc', rfl, -⟩ := h
  rfl
def DelsL (w : World) (S : Nat → Prop) (A : Option Addr) (l : List DelT) : Prop :=
  0 < l.length → ∃ b off, A = some ⟨b, off, none⟩ ∧ S b ∧ ∀ i (h : i < l.length), ∃ cs : Array Value, (∀ j v, cs[j]? = some v → w.cell? ⟨b, off + i * 8 + j, none⟩ = some v) ∧ DelL w S l[i] cs
theorem DelsL.keep {w w' : World} {S : Nat → Prop} {A : Option Addr} {l : List DelT} (h : DelsL w S A l) (hk : ∀ b, S b → w'.heap[b]? = w.heap[b]?) : DelsL w' S A l := fun hp => by
  obtain ⟨b, off, hA, hb, hc⟩ := h hp
  refine ⟨b, off, hA, hb, fun i hi => ?_⟩
  obtain ⟨cs, h1, h2⟩ := hc i hi
  exact ⟨cs, fun j v hv => (World.cell?_of_block (a := ⟨b, off + i * 8 + j, none⟩) (hk b hb)).trans (h1 j v hv), h2.keep hk⟩
theorem DelsL.imp {w : World} {S S' : Nat → Prop} {A : Option Addr} {l : List DelT} (h : DelsL w S A l) (hS : ∀ b, S b → S' b) : DelsL w S' A l := fun hp => by
  obtain ⟨b, off, hA, hb, hc⟩ := h hp
  refine ⟨b, off, hA, hS b hb, fun i hi => ?_⟩
  obtain ⟨cs, h1, h2⟩ := hc i hi
  exact ⟨cs, h1, h2.imp hS⟩
theorem DelsL.below {w w' : World} {S : Nat → Prop} {A : Option Addr} {l : List DelT} {B : Nat} (h : DelsL w S A l) (hS : ∀ b, S b → b < B) (hb : Below B w w') : DelsL w' S A l := h.keep fun b hb' => hb.block b (hS b hb')
theorem DelsL.cells {w : World} {S : Nat → Prop} {A : Option Addr} {l : List DelT} (h : DelsL w S A l) (k : Nat) (hk : k < l.length) :
    ∃ b off PA pc VA vc VA' vc', A = some ⟨b, off, none⟩ ∧ S b ∧ DelL w S l[k] #[.int .i64 l[k].kind, .slice PA l[k].path.length pc, .int .i64 l[k].val.kind, .int .i64 l[k].val.num, .string l[k].val.text, .slice VA l[k].val.items.length vc, .slice VA' l[k].val.names.length vc', .int .i64 l[k].num] ∧
      w.cell? ⟨b, off + k * 8, none⟩ = some (.int .i64 l[k].kind) ∧ w.cell? ⟨b, off + k * 8 + 1, none⟩ = some (.slice PA l[k].path.length pc) ∧ w.cell? ⟨b, off + k * 8 + 2, none⟩ = some (.int .i64 l[k].val.kind) ∧ w.cell? ⟨b, off + k * 8 + 3, none⟩ = some (.int .i64 l[k].val.num) ∧ w.cell? ⟨b, off + k * 8 + 4, none⟩ = some (.string l[k].val.text) ∧
      w.cell? ⟨b, off + k * 8 + 5, none⟩ = some (.slice VA l[k].val.items.length vc) ∧ w.cell? ⟨b, off + k * 8 + 6, none⟩ = some (.slice VA' l[k].val.names.length vc') ∧ w.cell? ⟨b, off + k * 8 + 7, none⟩ = some (.int .i64 l[k].num) := by
  obtain ⟨b, off, hA, hb, hc⟩ := h (by omega)
  obtain ⟨cs, h1, h2⟩ := hc k hk
  obtain ⟨PA, pc, VA, vc, VA', vc', e, -⟩ := id h2
  subst e
  exact ⟨b, off, PA, pc, VA, vc, VA', vc', hA, hb, h2, h1 0 _ rfl, h1 1 _ rfl, h1 2 _ rfl, h1 3 _ rfl, h1 4 _ rfl, h1 5 _ rfl, h1 6 _ rfl, h1 7 _ rfl⟩
def SmallD (l : List DelT) : Prop := ∀ d ∈ l, depthT d.val ≤ 4611686018427387903
def DBox (w : World) (p : Nat) (c0 c1 c2 c3 c4 c5 c6 c7 : Value) : Prop := w.heap[p]? = some (.cells #[c0, c1, c2, c3, c4, c5, c6, c7] 31 (0, 0))
def eightD (w : World) (p : Nat) (c0 c1 c2 c3 c4 c5 c6 c7 : Value) : World := (((((((w.setCell ⟨p, 0, none⟩ c0).setCell ⟨p, 1, none⟩ c1).setCell ⟨p, 2, none⟩ c2).setCell ⟨p, 3, none⟩ c3).setCell ⟨p, 4, none⟩ c4).setCell ⟨p, 5, none⟩ c5).setCell ⟨p, 6, none⟩ c6).setCell ⟨p, 7, none⟩ c7
section
variable {w w' : World} {p : Nat} {c0 c1 c2 c3 c4 c5 c6 c7 : Value}
theorem DBox.g0 (h : DBox w p c0 c1 c2 c3 c4 c5 c6 c7) : w.cell? ⟨p, 0, none⟩ = some c0 := Go.Joins.cell_of_block h 0
theorem DBox.g1 (h : DBox w p c0 c1 c2 c3 c4 c5 c6 c7) : w.cell? ⟨p, 1, none⟩ = some c1 := Go.Joins.cell_of_block h 1
theorem DBox.g2 (h : DBox w p c0 c1 c2 c3 c4 c5 c6 c7) : w.cell? ⟨p, 2, none⟩ = some c2 := Go.Joins.cell_of_block h 2
theorem DBox.g3 (h : DBox w p c0 c1 c2 c3 c4 c5 c6 c7) : w.cell? ⟨p, 3, none⟩ = some c3 := Go.Joins.cell_of_block h 3
theorem DBox.g4 (h : DBox w p c0 c1 c2 c3 c4 c5 c6 c7) : w.cell? ⟨p, 4, none⟩ = some c4 := Go.Joins.cell_of_block h 4
theorem DBox.g5 (h : DBox w p c0 c1 c2 c3 c4 c5 c6 c7) : w.cell? ⟨p, 5, none⟩ = some c5 := Go.Joins.cell_of_block h 5
theorem DBox.g6 (h : DBox w p c0 c1 c2 c3 c4 c5 c6 c7) : w.cell? ⟨p, 6, none⟩ = some c6 := Go.Joins.cell_of_block h 6
theorem DBox.g7 (h : DBox w p c0 c1 c2 c3 c4 c5 c6 c7) : w.cell? ⟨p, 7, none⟩ = some c7 := Go.Joins.cell_of_block h 7
theorem DBox.set0 (h : DBox w p c0 c1 c2 c3 c4 c5 c6 c7) (u : Value) : DBox (w.setCell ⟨p, 0, none⟩ u) p u c1 c2 c3 c4 c5 c6 c7 := Go.Joins.block_setCell (i := 0) h u
theorem DBox.set1 (h : DBox w p c0 c1 c2 c3 c4 c5 c6 c7) (u : Value) : DBox (w.setCell ⟨p, 1, none⟩ u) p c0 u c2 c3 c4 c5 c6 c7 := Go.Joins.block_setCell (i := 1) h u
theorem DBox.set2 (h : DBox w p c0 c1 c2 c3 c4 c5 c6 c7) (u : Value) : DBox (w.setCell ⟨p, 2, none⟩ u) p c0 c1 u c3 c4 c5 c6 c7 := Go.Joins.block_setCell (i := 2) h u
theorem DBox.set3 (h : DBox w p c0 c1 c2 c3 c4 c5 c6 c7) (u : Value) : DBox (w.setCell ⟨p, 3, none⟩ u) p c0 c1 c2 u c4 c5 c6 c7 := Go.Joins.block_setCell (i := 3) h u
theorem DBox.set4 (h : DBox w p c0 c1 c2 c3 c4 c5 c6 c7) (u : Value) : DBox (w.setCell ⟨p, 4, none⟩ u) p c0 c1 c2 c3 u c5 c6 c7 := Go.Joins.block_setCell (i := 4) h u
theorem DBox.set5 (h : DBox w p c0 c1 c2 c3 c4 c5 c6 c7) (u : Value) : DBox (w.setCell ⟨p, 5, none⟩ u) p c0 c1 c2 c3 c4 u c6 c7 := Go.Joins.block_setCell (i := 5) h u
theorem DBox.set6 (h : DBox w p c0 c1 c2 c3 c4 c5 c6 c7) (u : Value) : DBox (w.setCell ⟨p, 6, none⟩ u) p c0 c1 c2 c3 c4 c5 u c7 := Go.Joins.block_setCell (i := 6) h u
theorem DBox.set7 (h : DBox w p c0 c1 c2 c3 c4 c5 c6 c7) (u : Value) : DBox (w.setCell ⟨p, 7, none⟩ u) p c0 c1 c2 c3 c4 c5 c6 u := Go.Joins.block_setCell (i := 7) h u
theorem DBox.free (h : DBox w p c0 c1 c2 c3 c4 c5 c6 c7) (i : Nat) : w.frozen? ⟨p, i, none⟩ = false := Go.Joins.unfrozen_of_block h i
theorem DBox.lt (h : DBox w p c0 c1 c2 c3 c4 c5 c6 c7) : p < w.heap.size := (Array.getElem?_eq_some_iff.1 h).1
theorem DBox.new (w : World) (c0 c1 c2 c3 c4 c5 c6 c7 : Value) : DBox (w.alloc (.cells #[c0, c1, c2, c3, c4, c5, c6, c7] 31)) w.heap.size c0 c1 c2 c3 c4 c5 c6 c7 := heap_alloc_new w _
theorem DBox.alloc (h : DBox w p c0 c1 c2 c3 c4 c5 c6 c7) (o : Obj) : DBox (w.alloc o) p c0 c1 c2 c3 c4 c5 c6 c7 := (Below.heap_alloc w o p h.lt).trans h
theorem DBox.only {g : Nat} (h : DBox w p c0 c1 c2 c3 c4 c5 c6 c7) (ho : Only w w' g) (hne : p ≠ g) : DBox w' p c0 c1 c2 c3 c4 c5 c6 c7 := (ho.block p h.lt (by rintro ⟨⟩; exact hne rfl)).trans h
theorem DBox.other (h : DBox w p c0 c1 c2 c3 c4 c5 c6 c7) (D i : Nat) (u : Value) (hne : p ≠ D) : DBox (w.setCell ⟨D, i, none⟩ u) p c0 c1 c2 c3 c4 c5 c6 c7 := (heap_setCell_other _ ⟨D, i, none⟩ p _ hne).trans h
theorem eightD_box {d0 d1 d2 d3 d4 d5 d6 d7 : Value} (h : DBox w p c0 c1 c2 c3 c4 c5 c6 c7) : DBox (eightD w p d0 d1 d2 d3 d4 d5 d6 d7) p d0 d1 d2 d3 d4 d5 d6 d7 := (((((((h.set0 d0).set1 d1).set2 d2).set3 d3).set4 d4).set5 d5).set6 d6).set7 d7
theorem eightD_other (b : Nat) (h : b ≠ p) : (eightD w p c0 c1 c2 c3 c4 c5 c6 c7).heap[b]? = w.heap[b]? := by
  unfold eightD
  rw [heap_setCell_other _ ⟨p, _, none⟩ b _ h, heap_setCell_other _ ⟨p, _, none⟩ b _ h, heap_setCell_other _ ⟨p, _, none⟩ b _ h, heap_setCell_other _ ⟨p, _, none⟩ b _ h, heap_setCell_other _ ⟨p, _, none⟩ b _ h, heap_setCell_other _ ⟨p, _, none⟩ b _ h, heap_setCell_other _ ⟨p, _, none⟩ b _ h, heap_setCell_other _ ⟨p, _, none⟩ b _ h]
theorem eightD_size : (eightD w p c0 c1 c2 c3 c4 c5 c6 c7).heap.size = w.heap.size := by simp [eightD]
theorem eightD_rest : (eightD w p c0 c1 c2 c3 c4 c5 c6 c7).os = w.os ∧ (eightD w p c0 c1 c2 c3 c4 c5 c6 c7).tape = w.tape ∧ (eightD w p c0 c1 c2 c3 c4 c5 c6 c7).output = w.output := by
  have h : ∀ (w : World) (a : Addr) (u : Value), (w.setCell a u).os = w.os ∧ (w.setCell a u).tape = w.tape ∧ (w.setCell a u).output = w.output := fun _ _ _ => ⟨rfl, rfl, rfl⟩
  unfold eightD
  refine ⟨?_, ?_, ?_⟩
  · rw [(h _ _ _).1, (h _ _ _).1, (h _ _ _).1, (h _ _ _).1, (h _ _ _).1, (h _ _ _).1, (h _ _ _).1, (h _ _ _).1]
  · rw [(h _ _ _).2.1, (h _ _ _).2.1, (h _ _ _).2.1, (h _ _ _).2.1, (h _ _ _).2.1, (h _ _ _).2.1, (h _ _ _).2.1, (h _ _ _).2.1]
  · rw [(h _ _ _).2.2, (h _ _ _).2.2, (h _ _ _).2.2, (h _ _ _).2.2, (h _ _ _).2.2, (h _ _ _).2.2, (h _ _ _).2.2, (h _ _ _).2.2]
end
theorem LV.shape_len {w : World} {S : Nat → Prop} {t : VT} {v : Value} (h : LV w S t v) : t.items.length ≤ 1759218604390 := by
  cases t with
  | mk k i s l ns =>
    unfold LV at h
    obtain ⟨A, c, A', c', -, -, -, -, h, -⟩ := h
    exact h
theorem equal_any' (A B : Option Addr) (c d : Nat) (a b : List ByteArray) (w : World) (S T : Nat → Prop) (h : StrsAt w S A a) (k : StrsAt w T B b) (hS : ∀ b, S b → b < w.heap.size) (hT : ∀ b, T b → b < w.heap.size) (hn : a.length ≤ 140737488351232) (hm : b.length ≤ 140737488351232) :
    Calls Tryz.prog 54 #[.slice A a.length c, .slice B b.length d] w fun e w' => e = .returned (.bool (decide (a = b))) ∧ Below w.heap.size w w' := by
  by_cases hl : a.length = b.length
  · exact equal_any A B c d b.length a b w S T h k hS hT hn hl rfl
  · have d1 : ((a.length : Int) != (b.length : Int)) = true := bne_iff_ne.2 (by omega)
    have HN : Hid (decide (a = b) = false) := hid (decide_eq_false fun e => hl (by rw [e]))
    clear hl h k hS hT
    go_enter Tryz.func54, Tryz.ntmps54
    go_wp2_with fail
    go_ret
    exact ⟨by rw [HN.out]; rfl, Below.refl _ _⟩
def AlikeN (n : Nat) : Prop := ∀ (S : Nat → Prop) (a b : VT) (va vb : Value) (w : World), depthT a ≤ n → (∀ b, S b → b < w.heap.size) → LV w S a va → LV w S b vb →
  Calls Tryz.prog 55 #[va, vb] w fun e w' => (∃ r : Bool, e = .returned (.bool r) ∧ (r = true ↔ a = b)) ∧ Below w.heap.size w w'
theorem below_two (w : World) (x y : Obj) : Below w.heap.size w ((w.alloc x).alloc y) := ((Below.refl _ _).alloc (Nat.le_refl _) _).alloc (by simp) _
set_option maxHeartbeats 4000000 in
theorem eqV_any {n : Nat} (H : AlikeN n) (S : Nat → Prop) (A : Option Addr) (c : Nat) (xs : List VT) (B : Option Addr) (d : Nat) (ys : List VT) (w : World) (hS : ∀ b, S b → b < w.heap.size) (ha : LVA w S A xs) (hb : LVA w S B ys) (hda : ∀ t ∈ xs, depthT t ≤ n) (hla : xs.length ≤ 1759218604390) (hlb : ys.length ≤ 1759218604390) :
    Calls Tryz.prog 89 #[.slice A xs.length c, .slice B ys.length d, .func (.func 55) #[] #[]] w fun e w' => (∃ r : Bool, e = .returned (.bool r) ∧ (r = true ↔ xs = ys)) ∧ Below w.heap.size w w' := by
  have HH := hid H
  have HS := hid hS
  have HA := hid ha
  have HBB := hid hb
  have HDA := hid hda
  clear H hS ha hb hda
  by_cases hl : xs.length = ys.length
  · have HL := hid hl
    obtain ⟨m, hm⟩ : ∃ m, m = xs.length := ⟨_, rfl⟩
    have HMA := hid hm
    have HMB : Hid (m = ys.length) := hid (by omega)
    rw [← hl, ← hm]
    have hm9 : m ≤ 1759218604390 := by omega
    have d0 : ((m : Int) != (m : Int)) = false := by simp
    clear hl hm hla hlb
    go_enter Tryz.func89, Tryz.ntmps89
    go_wp2_with fail
    clear d0
    go_loopw [17] (fun i wr => ∃ j : Nat, i = .int .i64 j ∧ j ≤ m ∧ Hid (∀ k (h : k < xs.length) (h' : k < ys.length), k < j → xs[k] = ys[k]) ∧ Hid (Below w.heap.size w wr)) (fun i _ => m - (intOf i).toNat)
    case atStart => exact ⟨0, rfl, Nat.zero_le _, hid (fun k _ _ h => absurd h (Nat.not_lt_zero _)), hid (Below.refl _ _)⟩
    case round =>
      obtain ⟨j, rfl, hj, HE, HB⟩ := hrel
      by_cases hlt : j < m
      · have hla : j < xs.length := by have := HMA.out; omega
        have hlb : j < ys.length := by have := HMB.out; omega
        have d1 : decide ((j : Int) < (m : Int)) = true := decide_eq_true (by omega)
        obtain ⟨p, o, A2, e2, A3, e3, rfl, hp, h0, h1, h2, h3, h4, hx⟩ := item_at HS.out HA.out HB.out j hla
        obtain ⟨p', o', B2, f2, B3, f3, rfl, hp', g0, g1, g2, g3, g4, hy⟩ := item_at HS.out HBB.out HB.out j hlb
        have hp2 : p < wr.heap.size := Nat.lt_of_lt_of_le hp HB.out.size
        have hp2' : p' < wr.heap.size := Nat.lt_of_lt_of_le hp' HB.out.size
        have HC := hid (fun (W : World) (hW : Below wr.heap.size wr W) => HH.out S xs[j] ys[j] _ _ W (HDA.out _ (List.getElem_mem hla)) (fun b hb => Nat.lt_of_lt_of_le (HS.out b hb) (Nat.le_trans HB.out.size hW.size)) (hx.keep fun b hb => hW.block b (Nat.lt_of_lt_of_le (HS.out b hb) HB.out.size)) (hy.keep fun b hb => hW.block b (Nat.lt_of_lt_of_le (HS.out b hb) HB.out.size)))
        have hbx : Below wr.heap.size wr (wr.alloc (.cells #[.int .i64 xs[j].kind, .int .i64 xs[j].num, .string xs[j].text, .slice A2 xs[j].items.length e2, .slice A3 xs[j].names.length e3] 29)) := below_box _
        have g0 := (hbx.cell (p := ⟨p', o' + j * 5, none⟩) hp2').trans g0
        have g1 := (hbx.cell (p := ⟨p', o' + j * 5 + 1, none⟩) hp2').trans g1
        have g2 := (hbx.cell (p := ⟨p', o' + j * 5 + 2, none⟩) hp2').trans g2
        have g3 := (hbx.cell (p := ⟨p', o' + j * 5 + 3, none⟩) hp2').trans g3
        have g4 := (hbx.cell (p := ⟨p', o' + j * 5 + 4, none⟩) hp2').trans g4
        have HC2 := hid (HC.out _ (below_two wr (.cells #[.int .i64 xs[j].kind, .int .i64 xs[j].num, .string xs[j].text, .slice A2 xs[j].items.length e2, .slice A3 xs[j].names.length e3] 29) (.cells #[.int .i64 ys[j].kind, .int .i64 ys[j].num, .string ys[j].text, .slice B2 ys[j].items.length f2, .slice B3 ys[j].names.length f3] 29)))
        have HB2 := hid (HB.out.trans ((below_two wr (.cells #[.int .i64 xs[j].kind, .int .i64 xs[j].num, .string xs[j].text, .slice A2 xs[j].items.length e2, .slice A3 xs[j].names.length e3] 29) (.cells #[.int .i64 ys[j].kind, .int .i64 ys[j].num, .string ys[j].text, .slice B2 ys[j].items.length f2, .slice B3 ys[j].names.length f3] 29)).mono HB.out.size))
        have hz2 : wr.heap.size ≤ ((wr.alloc (.cells #[.int .i64 xs[j].kind, .int .i64 xs[j].num, .string xs[j].text, .slice A2 xs[j].items.length e2, .slice A3 xs[j].names.length e3] 29)).alloc (.cells #[.int .i64 ys[j].kind, .int .i64 ys[j].num, .string ys[j].text, .slice B2 ys[j].items.length f2, .slice B3 ys[j].names.length f3] 29)).heap.size := (below_two wr _ _).size
        have HZ2 := hid hz2
        clear hx hy hp hp' HC hbx hz2
        go_wp2_with fail
        refine HC2.out.mono ?_
        rintro e w4 ⟨⟨r, rfl, hr⟩, hb⟩
        have HB4 := hid (HB2.out.trans (hb.mono HB2.out.size))
        have HRR := hid hr
        clear hb hr HC2 HB2 h0 h1 h2 h3 h4 g0 g1 g2 g3 g4 hp2 hp2' HZ2
        cases r
        · have HF : Hid ((false = true) ↔ xs = ys) := hid ⟨fun h => (by cases h), fun h => by
            have h1 := HRR.out.2 (by subst h; rfl)
            cases h1⟩
          go_wp2_with fail
          go_ret
          exact ⟨⟨_, rfl, HF.out⟩, HB4.out⟩
        · have HEQ := hid (HRR.out.1 rfl)
          go_wp2_with fail
          go_roundw
          case rel => exact ⟨j + 1, by go_num, by omega, hid (fun k h h' hkj => by
            by_cases e : k = j
            · subst e; exact HEQ.out
            · exact HE.out k h h' (by omega)), HB4⟩
          case measure => simp [intOf]; omega
      · have HF : Hid ((true = true) ↔ xs = ys) := hid ⟨fun _ => List.ext_getElem HL.out (fun k h h' => HE.out k h h' (by have := HMA.out; omega)), fun _ => rfl⟩
        have d1 : decide ((j : Int) < (m : Int)) = false := decide_eq_false (by omega)
        go_wp2_with fail
        go_ret
        exact ⟨.inr ⟨rfl, by have h := HF.out; simpa using h⟩, HB.out⟩
  · have d1 : ((xs.length : Int) != (ys.length : Int)) = true := bne_iff_ne.2 (by omega)
    have HN : Hid (xs ≠ ys) := hid fun e => hl (by rw [e])
    clear hl
    go_enter Tryz.func89, Tryz.ntmps89
    go_wp2_with fail
    go_ret
    exact ⟨⟨false, rfl, by have := HN.out; simpa using this⟩, Below.refl _ _⟩
set_option maxHeartbeats 8000000 in
theorem alike_any : ∀ n, AlikeN n := by
  intro n
  induction n with
  | zero => intro S a b va vb w hd; cases a; rw [depthT_mk] at hd; omega
  | succ n ih =>
    intro S a b va vb w hd hS ha hb
    obtain ⟨A, ca, A', ca', B, cb, B', cb', rfl, rfl, lens, a7, a6, b7, b6, v1, v2, hb0⟩ := two_vars hS ha hb
    have hLA := ha.shape_len
    have hLB := hb.shape_len
    obtain ⟨w2, hw2⟩ : ∃ W, W = ((w.alloc (.cells #[.int .i64 a.kind, .int .i64 a.num, .string a.text, .slice A a.items.length ca, .slice A' a.names.length ca'] 29)).alloc (.cells #[.int .i64 b.kind, .int .i64 b.num, .string b.text, .slice B b.items.length cb, .slice B' b.names.length cb'] 29)) := ⟨_, rfl⟩
    have hS2 : ∀ b, S b → b < w2.heap.size := fun b hb => by rw [hw2]; exact v1.s b hb
    have hba : Below w.heap.size w w2 := by rw [hw2]; exact hb0
    have HD : Hid (∀ t ∈ a.items, depthT t ≤ n) := hid fun t ht => by
      have hdp := depthL_le ht
      have hdt : depthT a = depthL a.items + 1 := by cases a; exact depthT_mk _ _ _ _ _
      omega
    have HES : Hid (∀ W, Below w2.heap.size w2 W → Calls Tryz.prog 54 #[.slice A' a.names.length ca', .slice B' b.names.length cb'] W fun e w' => e = .returned (.bool (decide (a.names = b.names))) ∧ Below W.heap.size W w') := hid fun W hW => equal_any' A' B' ca' cb' a.names b.names W S S (a6.keep fun b hb => (hW.block b (hS2 b hb)).trans (hba.block b (hS b hb))) (b6.keep fun b hb => (hW.block b (hS2 b hb)).trans (hba.block b (hS b hb))) (fun b hb => Nat.lt_of_lt_of_le (hS2 b hb) hW.size) (fun b hb => Nat.lt_of_lt_of_le (hS2 b hb) hW.size) (by omega) (by omega)
    have HEV : Hid (∀ W, Below w2.heap.size w2 W → Calls Tryz.prog 89 #[.slice A a.items.length ca, .slice B b.items.length cb, .func (.func 55) #[] #[]] W fun e w' => (∃ r : Bool, e = .returned (.bool r) ∧ (r = true ↔ a.items = b.items)) ∧ Below W.heap.size W w') := hid fun W hW => eqV_any ih S A ca a.items B cb b.items W (fun b hb => Nat.lt_of_lt_of_le (hS2 b hb) hW.size) (a7.keep fun b hb => (hW.block b (hS2 b hb)).trans (hba.block b (hS b hb))) (b7.keep fun b hb => (hW.block b (hS2 b hb)).trans (hba.block b (hS b hb))) HD.out hLA hLB
    have k0 := v1.x.c0
    have k1 := v1.x.c1
    have k2 := v1.x.c2
    have k3 := v1.x.c3
    have k4 := v1.x.c4
    have l0 := v2.x.c0
    have l1 := v2.x.c1
    have l2 := v2.x.c2
    have l3 := v2.x.c3
    have l4 := v2.x.c4
    have P1 : Hid (Vr w2 S w.heap.size a A ca A' ca') := hid (by rw [hw2]; exact v1)
    have P2 : Hid (Vr w2 S (w.heap.size + 1) b B cb B' cb') := hid (by rw [hw2]; exact v2)
    have HB0 := hid hba
    have HW2 := hid hw2
    clear ha hb lens a7 a6 b7 b6 v1 v2 hb0 hd hLA hLB hS2 hba hw2
    obtain ⟨b1, d1⟩ : ∃ b1, (a.kind == b.kind) = b1 := ⟨_, rfl⟩
    obtain ⟨b2, d2⟩ : ∃ b1, (a.num == b.num) = b1 := ⟨_, rfl⟩
    obtain ⟨b3, d3⟩ : ∃ b1, (a.text.toList == b.text.toList) = b1 := ⟨_, rfl⟩
    have HE : Hid ((b1 && b2 && b3) = true ↔ (a.kind = b.kind ∧ a.num = b.num ∧ a.text = b.text)) := hid (by
      rw [← d1, ← d2, ← d3, str_beq]
      simp only [Bool.and_eq_true, beq_iff_eq, decide_eq_true_eq, and_assoc])
    go_enter Tryz.func55, Tryz.ntmps55
    by_cases hall : (b1 && b2 && b3) = true
    · have HA := hid (HE.out.1 hall)
      simp only [Bool.and_eq_true] at hall
      obtain ⟨⟨rfl, rfl⟩, rfl⟩ := hall
      go_wp2_with fail
      rw [← HW2.out]
      refine (HES.out _ (Below.refl _ _)).mono ?_
      rintro e w3 ⟨rfl, hb3⟩
      have HB3 := hid hb3
      have HB03 := hid (HB0.out.trans (hb3.mono HB0.out.size))
      have P1 := hid (P1.out.call hb3)
      have P2 := hid (P2.out.call hb3)
      clear hb3 k0 k1 k2 k3 k4 l0 l1 l2 l3 l4 d1 d2 d3 HES
      have k3 := P1.out.x.c3
      have l3 := P2.out.x.c3
      by_cases hn : a.names = b.names
      · have en : decide (a.names = b.names) = true := decide_eq_true hn
        have HN := hid hn
        clear hn
        rw [en]
        clear en
        go_wp2_with fail
        refine (HEV.out _ HB3.out).mono ?_
        rintro e w4 ⟨⟨r, rfl, hr⟩, hb4⟩
        have HB4 := hid (HB03.out.trans (hb4.mono HB03.out.size))
        have HF : Hid (r = true ↔ a = b) := hid (hr.trans ⟨fun h => VT.same HA.out.1 HA.out.2.1 HA.out.2.2 h HN.out, fun h => by rw [h]⟩)
        clear hr hb4
        cases r
        all_goals
          go_wp2_with fail
          go_ret
          exact ⟨⟨_, rfl, by have := HF.out; simpa using this⟩, HB4.out⟩
      · have en : decide (a.names = b.names) = false := decide_eq_false hn
        have HF : Hid ((false = true) ↔ a = b) := hid ⟨fun h => (by cases h), fun h => absurd (by rw [h]) hn⟩
        clear hn
        rw [en]
        clear en
        go_wp2_with fail
        go_ret
        exact ⟨⟨_, rfl, HF.out⟩, HB03.out⟩
    · have HF : Hid ((false = true) ↔ a = b) := hid ⟨fun h => (by cases h), fun h => absurd (HE.out.2 (by rw [h]; exact ⟨rfl, rfl, rfl⟩)) hall⟩
      have HB0' := HB0
      rw [HW2.out] at HB0'
      clear HE
      cases b1 <;> cases b2 <;> cases b3
      all_goals first
        | (exfalso; exact hall rfl)
        | (clear hall
           go_wp2_with fail
           go_ret
           exact ⟨⟨_, rfl, HF.out⟩, HB0'.out⟩)
theorem DelT.same {a b : DelT} (h0 : a.kind = b.kind) (h1 : a.num = b.num) (h2 : a.path = b.path) (h3 : a.val = b.val) : a = b := by
  cases a; cases b; simp only at h0 h1 h2 h3; subst h0 h1 h2 h3; rfl
set_option maxHeartbeats 8000000 in
theorem dlsame1_any (S : Nat → Prop) (a b : DelT) (ca cb : Array Value) (w : World) (hS : ∀ b, S b → b < w.heap.size) (ha : DelL w S a ca) (hb : DelL w S b cb) :
    Calls Tryz.prog 53 #[.agg ca, .agg cb] w fun e w' => (∃ r : Bool, e = .returned (.bool r) ∧ (r = true ↔ a = b)) ∧ Below w.heap.size w w' := by
  obtain ⟨PA, pc, VA, vc, VA', vc', rfl, hva, hpa, hpca, -, -, -, hpla⟩ := ha
  obtain ⟨PB, pd, VB, vd, VB', vd', rfl, hvb, hpb, hpcb, -, -, -, hplb⟩ := hb
  obtain ⟨w2, hw2⟩ : ∃ W, W = (w.alloc (.cells #[.int .i64 a.kind, .slice PA a.path.length pc, .int .i64 a.val.kind, .int .i64 a.val.num, .string a.val.text, .slice VA a.val.items.length vc, .slice VA' a.val.names.length vc', .int .i64 a.num] 31)).alloc (.cells #[.int .i64 b.kind, .slice PB b.path.length pd, .int .i64 b.val.kind, .int .i64 b.val.num, .string b.val.text, .slice VB b.val.items.length vd, .slice VB' b.val.names.length vd', .int .i64 b.num] 31) := ⟨_, rfl⟩
  have hqa : DBox w2 w.heap.size (.int .i64 a.kind) (.slice PA a.path.length pc) (.int .i64 a.val.kind) (.int .i64 a.val.num) (.string a.val.text) (.slice VA a.val.items.length vc) (.slice VA' a.val.names.length vc') (.int .i64 a.num) := by rw [hw2]; exact (DBox.new w _ _ _ _ _ _ _ _).alloc _
  have hqb : DBox w2 (w.heap.size + 1) (.int .i64 b.kind) (.slice PB b.path.length pd) (.int .i64 b.val.kind) (.int .i64 b.val.num) (.string b.val.text) (.slice VB b.val.items.length vd) (.slice VB' b.val.names.length vd') (.int .i64 b.num) := by
    have h := DBox.new (w.alloc (.cells #[.int .i64 a.kind, .slice PA a.path.length pc, .int .i64 a.val.kind, .int .i64 a.val.num, .string a.val.text, .slice VA a.val.items.length vc, .slice VA' a.val.names.length vc', .int .i64 a.num] 31)) (.int .i64 b.kind) (.slice PB b.path.length pd) (.int .i64 b.val.kind) (.int .i64 b.val.num) (.string b.val.text) (.slice VB b.val.items.length vd) (.slice VB' b.val.names.length vd') (.int .i64 b.num)
    rw [show (w.alloc (.cells #[.int .i64 a.kind, .slice PA a.path.length pc, .int .i64 a.val.kind, .int .i64 a.val.num, .string a.val.text, .slice VA a.val.items.length vc, .slice VA' a.val.names.length vc', .int .i64 a.num] 31)).heap.size = w.heap.size + 1 by simp] at h
    rw [hw2]
    exact h
  have hba : Below w.heap.size w w2 := by rw [hw2]; exact below_two w _ _
  have hS2 : ∀ b, S b → b < w2.heap.size := fun b hb => Nat.lt_of_lt_of_le (hS b hb) hba.size
  have HES := hid (equal_any' PA PB pc pd a.path b.path w2 S S (hpa.keep fun b hb => hba.block b (hS b hb)) (hpb.keep fun b hb => hba.block b (hS b hb)) hS2 hS2 (by omega) (by omega))
  have HAL : Hid (∀ W, Below w2.heap.size w2 W → Calls Tryz.prog 55 #[.agg #[.int .i64 a.val.kind, .int .i64 a.val.num, .string a.val.text, .slice VA a.val.items.length vc, .slice VA' a.val.names.length vc'], .agg #[.int .i64 b.val.kind, .int .i64 b.val.num, .string b.val.text, .slice VB b.val.items.length vd, .slice VB' b.val.names.length vd']] W fun e w' => (∃ r : Bool, e = .returned (.bool r) ∧ (r = true ↔ a.val = b.val)) ∧ Below W.heap.size W w') := hid fun W hW => alike_any (depthT a.val) S a.val b.val _ _ W (Nat.le_refl _) (fun b hb => Nat.lt_of_lt_of_le (hS2 b hb) hW.size) (hva.keep fun b hb => (hW.block b (hS2 b hb)).trans (hba.block b (hS b hb))) (hvb.keep fun b hb => (hW.block b (hS2 b hb)).trans (hba.block b (hS b hb)))
  have y0 := hqa.g0
  have y1 := hqa.g1
  have y2 := hqa.g2
  have y3 := hqa.g3
  have y4 := hqa.g4
  have y5 := hqa.g5
  have y6 := hqa.g6
  have y7 := hqa.g7
  have z0 := hqb.g0
  have z1 := hqb.g1
  have z2 := hqb.g2
  have z3 := hqb.g3
  have z4 := hqb.g4
  have z5 := hqb.g5
  have z6 := hqb.g6
  have z7 := hqb.g7
  rw [hw2] at y0 y1 y2 y3 y4 y5 y6 y7 z0 z1 z2 z3 z4 z5 z6 z7
  have HQA := hid hqa
  have HQB := hid hqb
  have HB0 := hid hba
  have HW2 := hid hw2
  clear hva hpa hpca hpla hvb hpb hpcb hplb hS2 hqa hqb hba hS hw2
  obtain ⟨b1, d1⟩ : ∃ b1, (a.kind == b.kind) = b1 := ⟨_, rfl⟩
  obtain ⟨b2, d2⟩ : ∃ b1, (a.num == b.num) = b1 := ⟨_, rfl⟩
  have HE : Hid ((b1 && b2) = true ↔ (a.kind = b.kind ∧ a.num = b.num)) := hid (by
    rw [← d1, ← d2]
    simp only [Bool.and_eq_true, beq_iff_eq])
  go_enter Tryz.func53, Tryz.ntmps53
  by_cases hall : (b1 && b2) = true
  · have HA := hid (HE.out.1 hall)
    simp only [Bool.and_eq_true] at hall
    obtain ⟨rfl, rfl⟩ := hall
    go_wp2_with fail
    rw [← HW2.out]
    refine HES.out.mono ?_
    rintro e w3 ⟨rfl, hb3⟩
    have HB3 := hid hb3
    have HB03 := hid (HB0.out.trans (hb3.mono HB0.out.size))
    have hq3 : DBox w3 w.heap.size _ _ _ _ _ _ _ _ := (hb3.block _ HQA.out.lt).trans HQA.out
    have hr3 : DBox w3 (w.heap.size + 1) _ _ _ _ _ _ _ _ := (hb3.block _ HQB.out.lt).trans HQB.out
    clear hb3 y0 y1 y2 y3 y4 y5 y6 y7 z0 z1 z2 z3 z4 z5 z6 z7 d1 d2 HES
    have y2 := hq3.g2
    have z2 := hr3.g2
    have y3 := hq3.g3
    have z3 := hr3.g3
    have y4 := hq3.g4
    have z4 := hr3.g4
    have y5 := hq3.g5
    have z5 := hr3.g5
    have y6 := hq3.g6
    have z6 := hr3.g6
    clear hq3 hr3
    by_cases hn : a.path = b.path
    · have en : decide (a.path = b.path) = true := decide_eq_true hn
      have HN := hid hn
      clear hn
      rw [en]
      clear en
      go_wp2_with fail
      refine (HAL.out _ HB3.out).mono ?_
      rintro e w4 ⟨⟨r, rfl, hr⟩, hb4⟩
      have HB4 := hid (HB03.out.trans (hb4.mono HB03.out.size))
      have HF : Hid (r = true ↔ a = b) := hid (hr.trans ⟨fun h => DelT.same HA.out.1 HA.out.2 HN.out h, fun h => by rw [h]⟩)
      clear hr hb4
      cases r
      all_goals
        go_wp2_with fail
        go_ret
        exact ⟨⟨_, rfl, by have := HF.out; simpa using this⟩, HB4.out⟩
    · have en : decide (a.path = b.path) = false := decide_eq_false hn
      have HF : Hid ((false = true) ↔ a = b) := hid ⟨fun h => (by cases h), fun h => absurd (by rw [h]) hn⟩
      clear hn
      rw [en]
      clear en
      go_wp2_with fail
      go_ret
      exact ⟨⟨_, rfl, HF.out⟩, HB03.out⟩
  · have HF : Hid ((false = true) ↔ a = b) := hid ⟨fun h => (by cases h), fun h => absurd (HE.out.2 (by rw [h]; exact ⟨rfl, rfl⟩)) hall⟩
    have HB0' := HB0
    rw [HW2.out] at HB0'
    clear HE
    cases b1 <;> cases b2
    all_goals first
      | (exfalso; exact hall rfl)
      | (clear hall
         go_wp2_with fail
         go_ret
         exact ⟨⟨_, rfl, HF.out⟩, HB0'.out⟩)
set_option maxHeartbeats 8000000 in
theorem eqD_any (S : Nat → Prop) (A : Option Addr) (c : Nat) (xs : List DelT) (B : Option Addr) (d : Nat) (ys : List DelT) (w : World) (hS : ∀ b, S b → b < w.heap.size) (ha : DelsL w S A xs) (hb : DelsL w S B ys) (hla : xs.length ≤ 140737488351232) (hlb : ys.length ≤ 140737488351232) :
    Calls Tryz.prog 52 #[.slice A xs.length c, .slice B ys.length d, .func (.func 53) #[] #[]] w fun e w' => (∃ r : Bool, e = .returned (.bool r) ∧ (r = true ↔ xs = ys)) ∧ Below w.heap.size w w' := by
  have HS := hid hS
  have HA := hid ha
  have HBB := hid hb
  clear hS ha hb
  by_cases hl : xs.length = ys.length
  · have HL := hid hl
    obtain ⟨m, hm⟩ : ∃ m, m = xs.length := ⟨_, rfl⟩
    have HMA := hid hm
    have HMB : Hid (m = ys.length) := hid (by omega)
    rw [← hl, ← hm]
    have hm9 : m ≤ 140737488351232 := by omega
    have d0 : ((m : Int) != (m : Int)) = false := by simp
    clear hl hm hla hlb
    go_enter Tryz.func52, Tryz.ntmps52
    go_wp2_with fail
    clear d0
    go_loopw [17] (fun i wr => ∃ j : Nat, i = .int .i64 j ∧ j ≤ m ∧ Hid (∀ k (h : k < xs.length) (h' : k < ys.length), k < j → xs[k] = ys[k]) ∧ Hid (Below w.heap.size w wr)) (fun i _ => m - (intOf i).toNat)
    case atStart => exact ⟨0, rfl, Nat.zero_le _, hid (fun k _ _ h => absurd h (Nat.not_lt_zero _)), hid (Below.refl _ _)⟩
    case round =>
      obtain ⟨j, rfl, hj, HE, HB⟩ := hrel
      by_cases hlt : j < m
      · have hla : j < xs.length := by have := HMA.out; omega
        have hlb : j < ys.length := by have := HMB.out; omega
        have d1 : decide ((j : Int) < (m : Int)) = true := decide_eq_true (by omega)
        obtain ⟨p, o, PA, pc, VA, vc, VA', vc', rfl, hp, hx, h0, h1, h2, h3, h4, h5, h6, h7⟩ := (HA.out.below HS.out HB.out).cells j hla
        obtain ⟨p', o', PB, pd, VB, vd, VB', vd', rfl, hp', hy, g0, g1, g2, g3, g4, g5, g6, g7⟩ := (HBB.out.below HS.out HB.out).cells j hlb
        have hp2 : p < wr.heap.size := Nat.lt_of_lt_of_le (HS.out p hp) HB.out.size
        have hp2' : p' < wr.heap.size := Nat.lt_of_lt_of_le (HS.out p' hp') HB.out.size
        have hS2 : ∀ b, S b → b < wr.heap.size := fun b hb => Nat.lt_of_lt_of_le (HS.out b hb) HB.out.size
        have hbx : Below wr.heap.size wr (wr.alloc (.cells #[.int .i64 xs[j].kind, .slice PA xs[j].path.length pc, .int .i64 xs[j].val.kind, .int .i64 xs[j].val.num, .string xs[j].val.text, .slice VA xs[j].val.items.length vc, .slice VA' xs[j].val.names.length vc', .int .i64 xs[j].num] 31)) := below_box _
        have hbt := below_two wr (.cells #[.int .i64 xs[j].kind, .slice PA xs[j].path.length pc, .int .i64 xs[j].val.kind, .int .i64 xs[j].val.num, .string xs[j].val.text, .slice VA xs[j].val.items.length vc, .slice VA' xs[j].val.names.length vc', .int .i64 xs[j].num] 31) (.cells #[.int .i64 ys[j].kind, .slice PB ys[j].path.length pd, .int .i64 ys[j].val.kind, .int .i64 ys[j].val.num, .string ys[j].val.text, .slice VB ys[j].val.items.length vd, .slice VB' ys[j].val.names.length vd', .int .i64 ys[j].num] 31)
        have HC2 := hid (dlsame1_any S xs[j] ys[j] _ _ _ (fun b hb => Nat.lt_of_lt_of_le (hS2 b hb) hbt.size) (hx.below hS2 hbt) (hy.below hS2 hbt))
        have g0 := (hbx.cell (p := ⟨p', o' + j * 8, none⟩) hp2').trans g0
        have g1 := (hbx.cell (p := ⟨p', o' + j * 8 + 1, none⟩) hp2').trans g1
        have g2 := (hbx.cell (p := ⟨p', o' + j * 8 + 2, none⟩) hp2').trans g2
        have g3 := (hbx.cell (p := ⟨p', o' + j * 8 + 3, none⟩) hp2').trans g3
        have g4 := (hbx.cell (p := ⟨p', o' + j * 8 + 4, none⟩) hp2').trans g4
        have g5 := (hbx.cell (p := ⟨p', o' + j * 8 + 5, none⟩) hp2').trans g5
        have g6 := (hbx.cell (p := ⟨p', o' + j * 8 + 6, none⟩) hp2').trans g6
        have g7 := (hbx.cell (p := ⟨p', o' + j * 8 + 7, none⟩) hp2').trans g7
        have HB2 := hid (HB.out.trans (hbt.mono HB.out.size))
        clear hx hy hp hp' hbx hbt hS2
        go_wp2_with fail
        refine HC2.out.mono ?_
        rintro e w4 ⟨⟨r, rfl, hr⟩, hb⟩
        have HB4 := hid (HB2.out.trans (hb.mono HB2.out.size))
        have HRR := hid hr
        clear hb hr HC2 HB2 h0 h1 h2 h3 h4 h5 h6 h7 g0 g1 g2 g3 g4 g5 g6 g7 hp2 hp2'
        cases r
        · have HF : Hid ((false = true) ↔ xs = ys) := hid ⟨fun h => (by cases h), fun h => by
            have h1 := HRR.out.2 (by subst h; rfl)
            cases h1⟩
          go_wp2_with fail
          go_ret
          exact ⟨⟨_, rfl, HF.out⟩, HB4.out⟩
        · have HEQ := hid (HRR.out.1 rfl)
          go_wp2_with fail
          go_roundw
          case rel => exact ⟨j + 1, by go_num, by omega, hid (fun k h h' hkj => by
            by_cases e : k = j
            · subst e; exact HEQ.out
            · exact HE.out k h h' (by omega)), HB4⟩
          case measure => simp [intOf]; omega
      · have HF : Hid ((true = true) ↔ xs = ys) := hid ⟨fun _ => List.ext_getElem HL.out (fun k h h' => HE.out k h h' (by have := HMA.out; omega)), fun _ => rfl⟩
        have d1 : decide ((j : Int) < (m : Int)) = false := decide_eq_false (by omega)
        go_wp2_with fail
        go_ret
        exact ⟨.inr ⟨rfl, by have h := HF.out; simpa using h⟩, HB.out⟩
  · have d1 : ((xs.length : Int) != (ys.length : Int)) = true := bne_iff_ne.2 (by omega)
    have HN : Hid (xs ≠ ys) := hid fun e => hl (by rw [e])
    clear hl
    go_enter Tryz.func52, Tryz.ntmps52
    go_wp2_with fail
    go_ret
    exact ⟨⟨false, rfl, by have := HN.out; simpa using this⟩, Below.refl _ _⟩
theorem dlsame_any (S : Nat → Prop) (A : Option Addr) (c : Nat) (xs : List DelT) (B : Option Addr) (d : Nat) (ys : List DelT) (w : World) (hS : ∀ b, S b → b < w.heap.size) (ha : DelsL w S A xs) (hb : DelsL w S B ys) (hla : xs.length ≤ 140737488351232) (hlb : ys.length ≤ 140737488351232) :
    Calls Tryz.prog 20 #[.slice A xs.length c, .slice B ys.length d] w fun e w' => (∃ r : Bool, e = .returned (.bool r) ∧ (r = true ↔ xs = ys)) ∧ Below w.heap.size w w' := by
  have HC := hid (eqD_any S A c xs B d ys w hS ha hb hla hlb)
  clear ha hb hS
  go_enter Tryz.func20, Tryz.ntmps20
  go_wp2_with fail
  refine HC.out.mono ?_
  rintro e u ⟨⟨r, rfl, hr⟩, hb⟩
  have HR := hid hr
  have HB := hid hb
  clear hr hb HC
  go_wp2_with fail
  go_ret
  exact ⟨⟨r, rfl, HR.out⟩, HB.out⟩
theorem Tryz.infoDlt : (Tryz.prog.info? 31).map (fun i => (i.zero, i.size, i.bytes)) = some (some (.agg #[.int .i64 0, .slice none 0 0, .int .i64 0, .int .i64 0, .string ⟨#[]⟩, .slice none 0 0, .slice none 0 0, .int .i64 0]), 8, 120) := by kernel_rfl
def DelsC (w : World) (S : Nat → Prop) : List DelT → List Value → Prop
  | [], xs => xs = []
  | o :: l, xs => ∃ c r, xs = c ++ r ∧ DelL w S o c.toArray ∧ DelsC w S l r
section
variable {w w' : World} {S S' : Nat → Prop}
theorem DelL.lenL {o : DelT} {cs : List Value} (h : DelL w S o cs.toArray) : cs.length = 8 := by
  have := h.size
  simpa using this
theorem DelL.oneL {o : DelT} {cs : List Value} (h : DelL w S o cs.toArray) : ∀ u ∈ cs, u.oneCell' = true := by
  obtain ⟨PA, pc, VA, vc, VA', vc', h1, -⟩ := h
  simp only [Array.mk.injEq] at h1
  subst h1
  intro u hu
  simp only [List.mem_cons, List.not_mem_nil, or_false] at hu
  rcases hu with rfl | rfl | rfl | rfl | rfl | rfl | rfl | rfl <;> rfl
theorem DelsC.len : ∀ {l : List DelT} {xs : List Value}, DelsC w S l xs → xs.length = l.length * 8
  | [], xs, h => by have h : xs = [] := h; rw [h]; rfl
  | o :: l, xs, h => by
    obtain ⟨c, r, rfl, h1, h2⟩ := h
    rw [List.length_append, h1.lenL, DelsC.len h2, List.length_cons]; omega
theorem DelsC.keep (hk : ∀ b, S b → w'.heap[b]? = w.heap[b]?) : ∀ {l : List DelT} {xs : List Value}, DelsC w S l xs → DelsC w' S l xs
  | [], _, h => h
  | _ :: _, _, h => by obtain ⟨c, r, h0, h1, h2⟩ := h; exact ⟨c, r, h0, h1.keep hk, DelsC.keep hk h2⟩
theorem DelsC.imp (hS : ∀ b, S b → S' b) : ∀ {l : List DelT} {xs : List Value}, DelsC w S l xs → DelsC w S' l xs
  | [], _, h => h
  | _ :: _, _, h => by obtain ⟨c, r, h0, h1, h2⟩ := h; exact ⟨c, r, h0, h1.imp hS, DelsC.imp hS h2⟩
theorem DelsC.push {o : DelT} {cs : List Value} (ho : DelL w S o cs.toArray) : ∀ {l : List DelT} {xs : List Value}, DelsC w S l xs → DelsC w S (l ++ [o]) (xs ++ cs)
  | [], xs, h => by have h : xs = [] := h; subst h; exact ⟨cs, [], by simp, ho, rfl⟩
  | p :: l, xs, h => by
    obtain ⟨c, r, rfl, h1, h2⟩ := h
    exact ⟨c, r ++ cs, by rw [List.append_assoc], h1, DelsC.push ho h2⟩
theorem DelsC.at : ∀ {l : List DelT} {xs : List Value}, DelsC w S l xs → ∀ i (hi : i < l.length), ∃ cs : List Value, DelL w S l[i] cs.toArray ∧ ∀ j, j < 8 → xs[i * 8 + j]? = cs[j]?
  | [], _, _, i, hi => absurd hi (by simp)
  | o :: l, xs, h, i, hi => by
    obtain ⟨c, r, rfl, h1, h2⟩ := h
    cases i with
    | zero =>
      refine ⟨c, h1, fun j hj => ?_⟩
      rw [List.getElem?_append_left (by rw [h1.lenL]; omega)]
      congr 1; omega
    | succ i =>
      obtain ⟨cs, h3, h4⟩ := DelsC.at h2 i (by simpa using hi)
      refine ⟨cs, h3, fun j hj => ?_⟩
      rw [List.getElem?_append_right (by rw [h1.lenL]; omega), h1.lenL, ← h4 j hj]
      congr 1; omega
theorem DelsC.rows {B : Nat} {A : Option Addr} {c n : Nat} {l : List DelT} {xs : List Value} (h : DelsC w S l xs) (ho : w.ownsRow B 31 8 (.slice A n c) n xs) (hn : n = l.length) (hS : ∀ b, S b → S' b) (hrow : ∀ p, (Value.slice A n c).ownBlock = some p → S' p) : DelsL w S' A l := fun hp => by
  subst hn
  rcases ho.2 with ⟨-, h0⟩ | ⟨g, cap, cur, e, hB, hh, hr⟩
  · omega
  · injection e with e1 e2 e3
    subst e1 e3
    refine ⟨g, 0, rfl, hrow g rfl, fun i hi => ?_⟩
    obtain ⟨cs, h4, h5⟩ := h.at i hi
    refine ⟨cs.toArray, fun j v hv => ?_, h4.imp hS⟩
    have hv' : cs[j]? = some v := by simpa using hv
    have hj : j < 8 := by have := (List.getElem?_eq_some_iff.1 hv').1; have := h4.lenL; omega
    have h6 := ho.cells (g := g) rfl (i * 8 + j) v (by rw [h5 j hj]; exact hv')
    rw [add_at, Nat.zero_add] at h6
    rw [Nat.zero_add]
    exact h6
end
def DelsRow (w0 : World) (w : World) (A : Option Addr) (c : Nat) (l : List DelT) : Prop :=
  ∃ xs, ∃ S : Nat → Prop, w.ownsRow w0.heap.size 31 8 (.slice A l.length c) l.length xs ∧ DelsC w S l xs ∧ ∀ b, S b → w0.heap.size ≤ b ∧ b < w.heap.size ∧ ∀ p, (Value.slice A l.length c).ownBlock = some p → b ≠ p
theorem DelsRow.nil (w0 w : World) : DelsRow w0 w none 0 [] := ⟨[], fun _ => False, World.ownsRow_nil _ _ _ _, rfl, fun _ h => h.elim⟩
theorem DelsRow.only {w0 w w' : World} {A : Option Addr} {c g : Nat} {l : List DelT} (h : DelsRow w0 w A c l) (ho : Only w w' g) (hg : g < w0.heap.size) : DelsRow w0 w' A c l := by
  obtain ⟨xs, S, h1, h2, h3⟩ := h
  refine ⟨xs, S, ⟨h1.1, h1.2.imp id ?_⟩, h2.keep fun b hb => ho.block b (h3 b hb).2.1 (by rintro ⟨⟩; have := (h3 _ hb).1; omega), fun b hb => ⟨(h3 b hb).1, Nat.lt_of_lt_of_le (h3 b hb).2.1 ho.size, (h3 b hb).2.2⟩⟩
  rintro ⟨q, cap, cur, e, hB, hh, hr⟩
  exact ⟨q, cap, cur, e, hB, (ho.block q (Array.getElem?_eq_some_iff.1 hh).1 (by rintro ⟨⟩; omega)).trans hh, hr⟩
theorem DelsRow.rows {w0 w : World} {A : Option Addr} {c : Nat} {l : List DelT} (h : DelsRow w0 w A c l) : DelsL w (NewB w0.heap.size w) A l := by
  obtain ⟨xs, S, h1, h2, h3⟩ := h
  exact h2.rows h1 rfl (fun b hb => ⟨(h3 b hb).1, (h3 b hb).2.1⟩) (fun p hp => World.ownsRow.lt h1 p hp)
theorem DelsRow.cap {w0 w : World} {A : Option Addr} {c : Nat} {l : List DelT} (h : DelsRow w0 w A c l) : l.length ≤ c := by
  obtain ⟨xs, S, h1, -⟩ := h
  rcases h1.2 with ⟨e, h0⟩ | ⟨g, cap, cur, e, -, -, hc, -⟩
  · omega
  · injection e with _ _ e; omega
theorem DelsRow.push {w0 w W : World} {p cap n c : Nat} {A : Option Addr} {xs cs : List Value} {S S2 : Nat → Prop} {o : DelT} {l : List DelT} (hn : n = l.length)
    (hb : w.grownBy W (Value.slice A n c).ownBlock) (hw : WhereRow w (.slice A n c) (.slice (some ⟨p, 0, none⟩) (n + 1) cap)) (hown : W.ownsRow w0.heap.size 31 8 (.slice (some ⟨p, 0, none⟩) (n + 1) cap) (n + 1) (xs ++ cs)) (hl : DelsC w S l xs) (hone : DelL w S2 o cs.toArray)
    (hS : ∀ b, S b → w0.heap.size ≤ b ∧ b < w.heap.size ∧ ∀ p, (Value.slice A n c).ownBlock = some p → b ≠ p) (hS2 : ∀ b, S2 b → w0.heap.size ≤ b ∧ b < w.heap.size ∧ ∀ p, (Value.slice A n c).ownBlock = some p → b ≠ p) :
    DelsRow w0 W (some ⟨p, 0, none⟩) cap (l ++ [o]) := by
  subst hn
  have hlen : (l ++ [o]).length = l.length + 1 := by simp
  have hk : ∀ b, b < w.heap.size → (∀ p, (Value.slice A l.length c).ownBlock = some p → b ≠ p) → W.heap[b]? = w.heap[b]? := fun b h1 h3 => hb.block b h1 (fun e => h3 b e.symm rfl)
  refine ⟨xs ++ cs, fun b => S b ∨ S2 b, by rw [hlen]; exact hown, DelsC.push ((hone.keep fun b hb' => hk b (hS2 b hb').2.1 (hS2 b hb').2.2).imp fun b h => .inr h) ((DelsC.keep (fun b hb' => hk b (hS b hb').2.1 (hS b hb').2.2) hl).imp fun b h => .inl h), ?_⟩
  intro b hb'
  have hc : w0.heap.size ≤ b ∧ b < w.heap.size ∧ ∀ p, (Value.slice A l.length c).ownBlock = some p → b ≠ p := hb'.elim (hS b) (hS2 b)
  refine ⟨hc.1, Nat.lt_of_lt_of_le hc.2.1 hb.size, fun q hq => ?_⟩
  have hq : p = q := by simpa [Value.ownBlock] using hq
  subst hq
  rcases hw with hw | ⟨q, hq, e⟩
  · exact hc.2.2 p hw.symm
  · injection e with e
    have e : p = q := e
    omega
theorem DelsRow.alloc {w0 w : World} {A : Option Addr} {c : Nat} {l : List DelT} (h : DelsRow w0 w A c l) (o : Obj) : DelsRow w0 (w.alloc o) A c l := by
  obtain ⟨xs, S, h1, h2, h3⟩ := h
  have hk : ∀ b, b < w.heap.size → (w.alloc o).heap[b]? = w.heap[b]? := fun b hb => Below.heap_alloc w o b hb
  refine ⟨xs, S, ⟨h1.1, h1.2.imp id ?_⟩, h2.keep fun b hb => hk b (h3 b hb).2.1, fun b hb => ⟨(h3 b hb).1, by have := (h3 b hb).2.1; simp; omega, (h3 b hb).2.2⟩⟩
  rintro ⟨q, cap, cur, e, hB, hh, hr⟩
  exact ⟨q, cap, cur, e, hB, (hk q (Array.getElem?_eq_some_iff.1 hh).1).trans hh, hr⟩
theorem DelsRow.own {w0 w : World} {A : Option Addr} {c : Nat} {l : List DelT} (h : DelsRow w0 w A c l) : ∀ p, (Value.slice A l.length c).ownBlock = some p → w0.heap.size ≤ p ∧ p < w.heap.size := by
  obtain ⟨xs, S, h1, -⟩ := h
  exact fun p hp => World.ownsRow.lt h1 p hp
theorem row_pos {w : World} {B n k : Nat} {t : TypeId} {v : Value} {xs : List Value} (h : w.ownsRow B t k v n xs) (hn : 0 < n) : ∃ p cap, v = .slice (some ⟨p, 0, none⟩) n cap := by
  rcases h.2 with ⟨-, h0⟩ | ⟨g, cap, cur, h1, -⟩
  · omega
  · exact ⟨g, cap, h1⟩
theorem eight_new (w : World) (cs : List Value) (t : TypeId) : ∀ j u, cs[j]? = some u → (w.alloc (.cells cs.toArray t)).cell? ((⟨w.heap.size, 0, none⟩ : Addr).add j) = some u := fun j u h => by
  rw [add_at, Nat.zero_add]
  exact (Go.Joins.cell_of_block (heap_alloc_new w _) j).trans (by simpa using h)
theorem DelsC.of {w : World} {S : Nat → Prop} {b : Nat} : ∀ (l : List DelT) (off : Nat), (∀ i (h : i < l.length), ∃ cs : Array Value, (∀ j v, cs[j]? = some v → w.cell? ⟨b, off + i * 8 + j, none⟩ = some v) ∧ DelL w S l[i] cs) → ∃ xs, DelsC w S l xs ∧ ∀ j u, xs[j]? = some u → w.cell? ⟨b, off + j, none⟩ = some u
  | [], off, _ => ⟨[], rfl, fun j u h => by simp at h⟩
  | d :: l, off, h => by
    obtain ⟨cs, h1, h2⟩ := h 0 (by simp)
    obtain ⟨xs, h3, h4⟩ := DelsC.of l (off + 8) fun i hi => by
      obtain ⟨cs, k1, k2⟩ := h (i + 1) (by simpa using hi)
      refine ⟨cs, fun j v hv => ?_, by simpa using k2⟩
      have := k1 j v hv
      rw [show off + (i + 1) * 8 + j = off + 8 + i * 8 + j by omega] at this
      exact this
    have hc8 : cs.toList.length = 8 := by have := h2.size; simpa using this
    refine ⟨cs.toList ++ xs, ⟨cs.toList, xs, rfl, by simpa using h2, h3⟩, fun j u hu => ?_⟩
    by_cases hj : j < 8
    · rw [List.getElem?_append_left (by omega)] at hu
      have := h1 j u (by simpa using hu)
      rw [show off + 0 * 8 + j = off + j by omega] at this
      exact this
    · rw [List.getElem?_append_right (by omega), hc8] at hu
      have := h4 (j - 8) u hu
      rw [show off + 8 + (j - 8) = off + j by omega] at this
      exact this
theorem DelsC.one {w : World} {S : Nat → Prop} : ∀ {l : List DelT} {xs : List Value}, DelsC w S l xs → ∀ u ∈ xs, u.oneCell' = true
  | [], xs, h, u, hu => by have h : xs = [] := h; subst h; simp at hu
  | d :: l, xs, h, u, hu => by
    obtain ⟨c, r, rfl, h1, h2⟩ := h
    rcases List.mem_append.1 hu with hu | hu
    · exact h1.oneL u hu
    · exact DelsC.one h2 u hu
end Go.Proofs.YtnamdlljdgllmaaGreat
