/- What both readers of codes with a path want: lengths of what is read, a row of texts of one's own. -/
import Derived.Test.YtpcdngpppjdgcaaGreatKCodF
import Derived.Test.YtpcdngpppjdgcaaGreatKRegR
import Derived.Test.YtpcdngpppjdgcaaGreatKRefD2
import Derived.Test.YtpcdngpppjdgcaaGreatKCodX
import Derived.Laws.OwnMore
namespace Go.Proofs.YtpcdngpppjdgcaaGreat
set_option linter.unusedVariables false
set_option linter.unusedSimpArgs false
open Go.RowKit
set_option maxRecDepth 100000
theorem rdK_size (st : Option (List UInt8)) : ∀ k, ∀ x ∈ (rdK st k).1, x.size ≤ 140737488351232
  | 0, x, hx => by simp [rdK] at hx
  | k + 1, x, hx => by
    simp only [rdK, List.mem_append, List.mem_singleton] at hx
    rcases hx with hx | rfl
    · exact rdK_size st k x hx
    · have := rdText_le 32 (rdK st k).2 (by omega)
      show (rdText 32 (rdK st k).2).1.toArray.size ≤ _
      simp only [List.size_toArray]
      have h2 : (rdText 32 (rdK st k).2).1.length ≤ 32 := this
      omega
theorem rdPathO_len (st : Option (List UInt8)) : (rdPathO st).1.length ≤ 8 := by
  unfold rdPathO
  rw [rdK_len]
  exact rdCount_le 8 st (by omega)
def noneV : VT := .mk 0 0 ⟨#[]⟩ [] []
theorem rng_k {k : Int} (h0 : 0 ≤ k) (h : k < 256) : Rng k := by unfold Rng; omega
theorem strs_own {w : World} {B : Nat} {A : Option Addr} {c : Nat} {l : List ByteArray} (h : w.ownsRow B 9 1 (.slice A l.length c) l.length (l.map Value.string)) (hs : ∀ s ∈ l, s.size ≤ 140737488351232) : l.length ≤ c ∧ StrsAt w (fun b => B ≤ b ∧ b < w.heap.size) A l := by
  obtain ⟨A', c', e, h1, h2⟩ := OwnS.opens (v := .slice A l.length c) h hs
  injection e with e1 e2 e3
  subst e1 e3
  exact ⟨h1, h2⟩
theorem rdText_none (n : Int) : (rdText n none).2 = none := by
  have h : rdCount n none = (0, none) := by unfold rdCount; split <;> rfl
  unfold rdText
  rw [h]
  rfl
theorem rdK_none {st : Option (List UInt8)} {k : Nat} (h : (rdK st k).2 = none) : ∀ m, k ≤ m → (rdK st m).2 = none
  | 0, hm => by obtain rfl : k = 0 := by omega
                exact h
  | m + 1, hm => by
    by_cases hk : k = m + 1
    · rw [← hk]; exact h
    · have h1 := rdK_none h m (by omega)
      show (rdText 32 (rdK st m).2).2 = none
      rw [h1]; exact rdText_none 32
theorem rdByte_nn : rdByte none = (0, none) := rfl
theorem rdPath_nn : (rdPathO none).2 = none := by
  unfold rdPathO
  have h : rdCount 8 none = (0, none) := by unfold rdCount; split <;> rfl
  rw [h]; rfl
theorem readO_nn : (readO none).2 = none := rfl
structure DelT where
 kind : Int
 path : List ByteArray
 val : VT
 num : Int
def mayD (d : DelT) : Bool := mayP d.path && (if d.kind = 1 then decide (checkT d.val = 0) && decide (d.num = 0) else if d.kind = 2 then noneT d.val && decide (d.num = 0) else if d.kind = 3 then noneT d.val && (decide (0 ≤ d.num) && decide (d.num ≤ 999)) else false)
def checkD (l : List DelT) : Int := if 64 < l.length then 3 else if l.all mayD then 0 else 1
def pathsD (l : List DelT) : List (List ByteArray) := l.map (·.path)
def freeD (l : List DelT) : Bool := !confL [] (pathsD l)
def touchD (l : List DelT) (p : List ByteArray) : Bool := l.any fun d => meetP d.path p
theorem mayD_path {d : DelT} (h : mayD d = true) : mayP d.path = true := by
 unfold mayD at h
 rw [Bool.and_eq_true] at h
 exact h.1
def DelL (w : World) (S : Nat → Prop) (d : DelT) (cs : Array Value) : Prop :=
 ∃ (PA : Option Addr) (pc : Nat) (VA : Option Addr) (vc : Nat) (VA' : Option Addr) (vc' : Nat), cs = #[.int .i64 d.kind, .slice PA d.path.length pc, .int .i64 d.val.kind, .int .i64 d.val.num, .string d.val.text, .slice VA d.val.items.length vc, .slice VA' d.val.names.length vc', .int .i64 d.num] ∧
  LV w S d.val (.agg #[.int .i64 d.val.kind, .int .i64 d.val.num, .string d.val.text, .slice VA d.val.items.length vc, .slice VA' d.val.names.length vc']) ∧ StrsAt w S PA d.path ∧ d.path.length ≤ pc ∧ (PA = none → pc = 0) ∧ Rng d.kind ∧ Rng d.num ∧ d.path.length ≤ 8796093021952
theorem DelL.keep {w w' : World} {S : Nat → Prop} {d : DelT} {cs : Array Value} (h : DelL w S d cs) (hk : ∀ b, S b → w'.heap[b]? = w.heap[b]?) : DelL w' S d cs := by
 obtain ⟨PA, pc, VA, vc, VA', vc', h1, h2, h3, h4⟩ := h
 exact ⟨PA, pc, VA, vc, VA', vc', h1, h2.keep hk, h3.keep hk, h4⟩
theorem DelL.imp {w : World} {S S' : Nat → Prop} {d : DelT} {cs : Array Value} (h : DelL w S d cs) (hS : ∀ b, S b → S' b) : DelL w S' d cs := by
 obtain ⟨PA, pc, VA, vc, VA', vc', h1, h2, h3, h4⟩ := h
 exact ⟨PA, pc, VA, vc, VA', vc', h1, h2.imp hS, h3.imp hS, h4⟩
theorem DelL.below {w w' : World} {S : Nat → Prop} {d : DelT} {cs : Array Value} {B : Nat} (h : DelL w S d cs) (hS : ∀ b, S b → b < B) (hb : Below B w w') : DelL w' S d cs := h.keep fun b hb' => hb.block b (hS b hb')
theorem DelL.size {w : World} {S : Nat → Prop} {d : DelT} {cs : Array Value} (h : DelL w S d cs) : cs.size = 8 := by
 obtain ⟨PA, pc, VA, vc, VA', vc', rfl, -⟩ := h
 rfl
def DelsL (w : World) (S : Nat → Prop) (A : Option Addr) (l : List DelT) : Prop :=
 0 < l.length → ∃ b off, A = some ⟨b, off, none⟩ ∧ S b ∧ ∀ i (h : i < l.length), ∃ cs : Array Value, (∀ j v, cs[j]? = some v → w.cell? ⟨b, off + i * 8 + j, none⟩ = some v) ∧ DelL w S l[i] cs
theorem DelsL.keep {w w' : World} {S : Nat → Prop} {A : Option Addr} {l : List DelT} (h : DelsL w S A l) (hk : ∀ b, S b → w'.heap[b]? = w.heap[b]?) : DelsL w' S A l := fun hp => by
 obtain ⟨b, off, hA, hb, hc⟩ := h hp
 refine ⟨b, off, hA, hb, fun i hi => ?_⟩
 obtain ⟨cs, h1, h2⟩ := hc i hi
 exact ⟨cs, fun j v hv => (World.cell?_of_block (a := ⟨b, off + i * 8 + j, none⟩) (hk b hb)).trans (h1 j v hv), h2.keep hk⟩
theorem DelsL.imp {w : World} {S S' : Nat → Prop} {A : Option Addr} {l : List DelT} (h : DelsL w S A l) (hS : ∀ b, S b → S' b) : DelsL w S' A l := fun hp => by
 obtain ⟨b, off, hA, hb, hc⟩ := h hp
 refine ⟨b, off, hA, hS b hb, fun i hi => ?_⟩
 obtain ⟨cs, h1, h2⟩ := hc i hi
 exact ⟨cs, h1, h2.imp hS⟩
theorem DelsL.below {w w' : World} {S : Nat → Prop} {A : Option Addr} {l : List DelT} {B : Nat} (h : DelsL w S A l) (hS : ∀ b, S b → b < B) (hb : Below B w w') : DelsL w' S A l := h.keep fun b hb' => hb.block b (hS b hb')
theorem DelsL.cells {w : World} {S : Nat → Prop} {A : Option Addr} {l : List DelT} (h : DelsL w S A l) (k : Nat) (hk : k < l.length) :
  ∃ b off PA pc VA vc VA' vc', A = some ⟨b, off, none⟩ ∧ S b ∧ DelL w S l[k] #[.int .i64 l[k].kind, .slice PA l[k].path.length pc, .int .i64 l[k].val.kind, .int .i64 l[k].val.num, .string l[k].val.text, .slice VA l[k].val.items.length vc, .slice VA' l[k].val.names.length vc', .int .i64 l[k].num] ∧
   w.cell? ⟨b, off + k * 8, none⟩ = some (.int .i64 l[k].kind) ∧ w.cell? ⟨b, off + k * 8 + 1, none⟩ = some (.slice PA l[k].path.length pc) ∧ w.cell? ⟨b, off + k * 8 + 2, none⟩ = some (.int .i64 l[k].val.kind) ∧ w.cell? ⟨b, off + k * 8 + 3, none⟩ = some (.int .i64 l[k].val.num) ∧ w.cell? ⟨b, off + k * 8 + 4, none⟩ = some (.string l[k].val.text) ∧
   w.cell? ⟨b, off + k * 8 + 5, none⟩ = some (.slice VA l[k].val.items.length vc) ∧ w.cell? ⟨b, off + k * 8 + 6, none⟩ = some (.slice VA' l[k].val.names.length vc') ∧ w.cell? ⟨b, off + k * 8 + 7, none⟩ = some (.int .i64 l[k].num) := by
 obtain ⟨b, off, hA, hb, hc⟩ := h (by omega)
 obtain ⟨cs, h1, h2⟩ := hc k hk
 obtain ⟨PA, pc, VA, vc, VA', vc', e, -⟩ := id h2
 subst e
 exact ⟨b, off, PA, pc, VA, vc, VA', vc', hA, hb, h2, h1 0 _ rfl, h1 1 _ rfl, h1 2 _ rfl, h1 3 _ rfl, h1 4 _ rfl, h1 5 _ rfl, h1 6 _ rfl, h1 7 _ rfl⟩
def SmallD (l : List DelT) : Prop := ∀ d ∈ l, depthT d.val ≤ 4611686018427387903
def DBox (w : World) (p : Nat) (c0 c1 c2 c3 c4 c5 c6 c7 : Value) : Prop := w.heap[p]? = some (.cells #[c0, c1, c2, c3, c4, c5, c6, c7] 95 (0, 0))
def eightD (w : World) (p : Nat) (c0 c1 c2 c3 c4 c5 c6 c7 : Value) : World := (((((((w.setCell ⟨p, 0, none⟩ c0).setCell ⟨p, 1, none⟩ c1).setCell ⟨p, 2, none⟩ c2).setCell ⟨p, 3, none⟩ c3).setCell ⟨p, 4, none⟩ c4).setCell ⟨p, 5, none⟩ c5).setCell ⟨p, 6, none⟩ c6).setCell ⟨p, 7, none⟩ c7
section
variable {w w' : World} {p : Nat} {c0 c1 c2 c3 c4 c5 c6 c7 : Value}
theorem DBox.g0 (h : DBox w p c0 c1 c2 c3 c4 c5 c6 c7) : w.cell? ⟨p, 0, none⟩ = some c0 := Go.Joins.cell_of_block h 0
theorem DBox.g1 (h : DBox w p c0 c1 c2 c3 c4 c5 c6 c7) : w.cell? ⟨p, 1, none⟩ = some c1 := Go.Joins.cell_of_block h 1
theorem DBox.g2 (h : DBox w p c0 c1 c2 c3 c4 c5 c6 c7) : w.cell? ⟨p, 2, none⟩ = some c2 := Go.Joins.cell_of_block h 2
theorem DBox.g3 (h : DBox w p c0 c1 c2 c3 c4 c5 c6 c7) : w.cell? ⟨p, 3, none⟩ = some c3 := Go.Joins.cell_of_block h 3
theorem DBox.g4 (h : DBox w p c0 c1 c2 c3 c4 c5 c6 c7) : w.cell? ⟨p, 4, none⟩ = some c4 := Go.Joins.cell_of_block h 4
theorem DBox.g5 (h : DBox w p c0 c1 c2 c3 c4 c5 c6 c7) : w.cell? ⟨p, 5, none⟩ = some c5 := Go.Joins.cell_of_block h 5
theorem DBox.g6 (h : DBox w p c0 c1 c2 c3 c4 c5 c6 c7) : w.cell? ⟨p, 6, none⟩ = some c6 := Go.Joins.cell_of_block h 6
theorem DBox.g7 (h : DBox w p c0 c1 c2 c3 c4 c5 c6 c7) : w.cell? ⟨p, 7, none⟩ = some c7 := Go.Joins.cell_of_block h 7
theorem DBox.set0 (h : DBox w p c0 c1 c2 c3 c4 c5 c6 c7) (u : Value) : DBox (w.setCell ⟨p, 0, none⟩ u) p u c1 c2 c3 c4 c5 c6 c7 := Go.Joins.block_setCell (i := 0) h u
theorem DBox.set1 (h : DBox w p c0 c1 c2 c3 c4 c5 c6 c7) (u : Value) : DBox (w.setCell ⟨p, 1, none⟩ u) p c0 u c2 c3 c4 c5 c6 c7 := Go.Joins.block_setCell (i := 1) h u
theorem DBox.set2 (h : DBox w p c0 c1 c2 c3 c4 c5 c6 c7) (u : Value) : DBox (w.setCell ⟨p, 2, none⟩ u) p c0 c1 u c3 c4 c5 c6 c7 := Go.Joins.block_setCell (i := 2) h u
theorem DBox.set3 (h : DBox w p c0 c1 c2 c3 c4 c5 c6 c7) (u : Value) : DBox (w.setCell ⟨p, 3, none⟩ u) p c0 c1 c2 u c4 c5 c6 c7 := Go.Joins.block_setCell (i := 3) h u
theorem DBox.set4 (h : DBox w p c0 c1 c2 c3 c4 c5 c6 c7) (u : Value) : DBox (w.setCell ⟨p, 4, none⟩ u) p c0 c1 c2 c3 u c5 c6 c7 := Go.Joins.block_setCell (i := 4) h u
theorem DBox.set5 (h : DBox w p c0 c1 c2 c3 c4 c5 c6 c7) (u : Value) : DBox (w.setCell ⟨p, 5, none⟩ u) p c0 c1 c2 c3 c4 u c6 c7 := Go.Joins.block_setCell (i := 5) h u
theorem DBox.set6 (h : DBox w p c0 c1 c2 c3 c4 c5 c6 c7) (u : Value) : DBox (w.setCell ⟨p, 6, none⟩ u) p c0 c1 c2 c3 c4 c5 u c7 := Go.Joins.block_setCell (i := 6) h u
theorem DBox.set7 (h : DBox w p c0 c1 c2 c3 c4 c5 c6 c7) (u : Value) : DBox (w.setCell ⟨p, 7, none⟩ u) p c0 c1 c2 c3 c4 c5 c6 u := Go.Joins.block_setCell (i := 7) h u
theorem DBox.free (h : DBox w p c0 c1 c2 c3 c4 c5 c6 c7) (i : Nat) : w.frozen? ⟨p, i, none⟩ = false := Go.Joins.unfrozen_of_block h i
theorem DBox.lt (h : DBox w p c0 c1 c2 c3 c4 c5 c6 c7) : p < w.heap.size := (Array.getElem?_eq_some_iff.1 h).1
theorem DBox.new (w : World) (c0 c1 c2 c3 c4 c5 c6 c7 : Value) : DBox (w.alloc (.cells #[c0, c1, c2, c3, c4, c5, c6, c7] 95)) w.heap.size c0 c1 c2 c3 c4 c5 c6 c7 := heap_alloc_new w _
theorem DBox.alloc (h : DBox w p c0 c1 c2 c3 c4 c5 c6 c7) (o : Obj) : DBox (w.alloc o) p c0 c1 c2 c3 c4 c5 c6 c7 := (Below.heap_alloc w o p h.lt).trans h
theorem DBox.only {g : Nat} (h : DBox w p c0 c1 c2 c3 c4 c5 c6 c7) (ho : Only w w' g) (hne : p ≠ g) : DBox w' p c0 c1 c2 c3 c4 c5 c6 c7 := (ho.block p h.lt (by rintro ⟨⟩; exact hne rfl)).trans h
theorem DBox.other (h : DBox w p c0 c1 c2 c3 c4 c5 c6 c7) (D i : Nat) (u : Value) (hne : p ≠ D) : DBox (w.setCell ⟨D, i, none⟩ u) p c0 c1 c2 c3 c4 c5 c6 c7 := (heap_setCell_other _ ⟨D, i, none⟩ p _ hne).trans h
theorem eightD_box {d0 d1 d2 d3 d4 d5 d6 d7 : Value} (h : DBox w p c0 c1 c2 c3 c4 c5 c6 c7) : DBox (eightD w p d0 d1 d2 d3 d4 d5 d6 d7) p d0 d1 d2 d3 d4 d5 d6 d7 := (((((((h.set0 d0).set1 d1).set2 d2).set3 d3).set4 d4).set5 d5).set6 d6).set7 d7
theorem eightD_other (b : Nat) (h : b ≠ p) : (eightD w p c0 c1 c2 c3 c4 c5 c6 c7).heap[b]? = w.heap[b]? := by
 unfold eightD
 rw [heap_setCell_other _ ⟨p, _, none⟩ b _ h, heap_setCell_other _ ⟨p, _, none⟩ b _ h, heap_setCell_other _ ⟨p, _, none⟩ b _ h, heap_setCell_other _ ⟨p, _, none⟩ b _ h, heap_setCell_other _ ⟨p, _, none⟩ b _ h, heap_setCell_other _ ⟨p, _, none⟩ b _ h, heap_setCell_other _ ⟨p, _, none⟩ b _ h, heap_setCell_other _ ⟨p, _, none⟩ b _ h]
theorem eightD_size : (eightD w p c0 c1 c2 c3 c4 c5 c6 c7).heap.size = w.heap.size := by simp [eightD]
theorem eightD_rest : (eightD w p c0 c1 c2 c3 c4 c5 c6 c7).os = w.os ∧ (eightD w p c0 c1 c2 c3 c4 c5 c6 c7).tape = w.tape ∧ (eightD w p c0 c1 c2 c3 c4 c5 c6 c7).output = w.output := by
 have h : ∀ (w : World) (a : Addr) (u : Value), (w.setCell a u).os = w.os ∧ (w.setCell a u).tape = w.tape ∧ (w.setCell a u).output = w.output := fun _ _ _ => ⟨rfl, rfl, rfl⟩
 unfold eightD
 refine ⟨?_, ?_, ?_⟩
 ·rw [(h _ _ _).1, (h _ _ _).1, (h _ _ _).1, (h _ _ _).1, (h _ _ _).1, (h _ _ _).1, (h _ _ _).1, (h _ _ _).1]
 ·rw [(h _ _ _).2.1, (h _ _ _).2.1, (h _ _ _).2.1, (h _ _ _).2.1, (h _ _ _).2.1, (h _ _ _).2.1, (h _ _ _).2.1, (h _ _ _).2.1]
 ·rw [(h _ _ _).2.2, (h _ _ _).2.2, (h _ _ _).2.2, (h _ _ _).2.2, (h _ _ _).2.2, (h _ _ _).2.2, (h _ _ _).2.2, (h _ _ _).2.2]
end
theorem DelT.same {a b : DelT} (h0 : a.kind = b.kind) (h1 : a.num = b.num) (h2 : a.path = b.path) (h3 : a.val = b.val) : a = b := by
 cases a; cases b; simp only at h0 h1 h2 h3; subst h0 h1 h2 h3; rfl
theorem Tryz.infoDlt : (Tryz.prog.info? 95).map (fun i => (i.zero, i.size, i.bytes)) = some (some (.agg #[.int .i64 0, .slice none 0 0, .int .i64 0, .int .i64 0, .string ⟨#[]⟩, .slice none 0 0, .slice none 0 0, .int .i64 0]), 8, 120) := by kernel_rfl
def DelsC (w : World) (S : Nat → Prop) : List DelT → List Value → Prop
 | [], xs => xs = []
 | o :: l, xs => ∃ c r, xs = c ++ r ∧ DelL w S o c.toArray ∧ DelsC w S l r
section
variable {w w' : World} {S S' : Nat → Prop}
theorem DelL.lenL {o : DelT} {cs : List Value} (h : DelL w S o cs.toArray) : cs.length = 8 := by
 have := h.size
 simpa using this
theorem DelL.oneL {o : DelT} {cs : List Value} (h : DelL w S o cs.toArray) : ∀ u ∈ cs, u.oneCell' = true := by
 obtain ⟨PA, pc, VA, vc, VA', vc', h1, -⟩ := h
 simp only [Array.mk.injEq] at h1
 subst h1
 intro u hu
 simp only [List.mem_cons, List.not_mem_nil, or_false] at hu
 rcases hu with rfl | rfl | rfl | rfl | rfl | rfl | rfl | rfl <;> rfl
theorem DelsC.len : ∀ {l : List DelT} {xs : List Value}, DelsC w S l xs → xs.length = l.length * 8
 | [], xs, h => by have h : xs = [] := h; rw [h]; rfl
 | o :: l, xs, h => by
  obtain ⟨c, r, rfl, h1, h2⟩ := h
  rw [List.length_append, h1.lenL, DelsC.len h2, List.length_cons]; omega
theorem DelsC.keep (hk : ∀ b, S b → w'.heap[b]? = w.heap[b]?) : ∀ {l : List DelT} {xs : List Value}, DelsC w S l xs → DelsC w' S l xs
 | [], _, h => h
 | _ :: _, _, h => by obtain ⟨c, r, h0, h1, h2⟩ := h; exact ⟨c, r, h0, h1.keep hk, DelsC.keep hk h2⟩
theorem DelsC.imp (hS : ∀ b, S b → S' b) : ∀ {l : List DelT} {xs : List Value}, DelsC w S l xs → DelsC w S' l xs
 | [], _, h => h
 | _ :: _, _, h => by obtain ⟨c, r, h0, h1, h2⟩ := h; exact ⟨c, r, h0, h1.imp hS, DelsC.imp hS h2⟩
theorem DelsC.push {o : DelT} {cs : List Value} (ho : DelL w S o cs.toArray) : ∀ {l : List DelT} {xs : List Value}, DelsC w S l xs → DelsC w S (l ++ [o]) (xs ++ cs)
 | [], xs, h => by have h : xs = [] := h; subst h; exact ⟨cs, [], by simp, ho, rfl⟩
 | p :: l, xs, h => by
  obtain ⟨c, r, rfl, h1, h2⟩ := h
  exact ⟨c, r ++ cs, by rw [List.append_assoc], h1, DelsC.push ho h2⟩
theorem DelsC.at : ∀ {l : List DelT} {xs : List Value}, DelsC w S l xs → ∀ i (hi : i < l.length), ∃ cs : List Value, DelL w S l[i] cs.toArray ∧ ∀ j, j < 8 → xs[i * 8 + j]? = cs[j]?
 | [], _, _, i, hi => absurd hi (by simp)
 | o :: l, xs, h, i, hi => by
  obtain ⟨c, r, rfl, h1, h2⟩ := h
  cases i with
  | zero =>
   refine ⟨c, h1, fun j hj => ?_⟩
   rw [List.getElem?_append_left (by rw [h1.lenL]; omega)]
   congr 1; omega
  | succ i =>
   obtain ⟨cs, h3, h4⟩ := DelsC.at h2 i (by simpa using hi)
   refine ⟨cs, h3, fun j hj => ?_⟩
   rw [List.getElem?_append_right (by rw [h1.lenL]; omega), h1.lenL, ← h4 j hj]
   congr 1; omega
theorem DelsC.rows {B : Nat} {A : Option Addr} {c n : Nat} {l : List DelT} {xs : List Value} (h : DelsC w S l xs) (ho : w.ownsRow B 95 8 (.slice A n c) n xs) (hn : n = l.length) (hS : ∀ b, S b → S' b) (hrow : ∀ p, (Value.slice A n c).ownBlock = some p → S' p) : DelsL w S' A l := fun hp => by
 subst hn
 rcases ho.2 with ⟨-, h0⟩ | ⟨g, cap, cur, e, hB, hh, hr⟩
 ·omega
 ·injection e with e1 e2 e3
  subst e1 e3
  refine ⟨g, 0, rfl, hrow g rfl, fun i hi => ?_⟩
  obtain ⟨cs, h4, h5⟩ := h.at i hi
  refine ⟨cs.toArray, fun j v hv => ?_, h4.imp hS⟩
  have hv' : cs[j]? = some v := by simpa using hv
  have hj : j < 8 := by have := (List.getElem?_eq_some_iff.1 hv').1; have := h4.lenL; omega
  have h6 := ho.cells (g := g) rfl (i * 8 + j) v (by rw [h5 j hj]; exact hv')
  rw [add_at, Nat.zero_add] at h6
  rw [Nat.zero_add]
  exact h6
end
def DelsRow (w0 : World) (w : World) (A : Option Addr) (c : Nat) (l : List DelT) : Prop :=
 ∃ xs, ∃ S : Nat → Prop, w.ownsRow w0.heap.size 95 8 (.slice A l.length c) l.length xs ∧ DelsC w S l xs ∧ ∀ b, S b → w0.heap.size ≤ b ∧ b < w.heap.size ∧ ∀ p, (Value.slice A l.length c).ownBlock = some p → b ≠ p
theorem DelsRow.nil (w0 w : World) : DelsRow w0 w none 0 [] := ⟨[], fun _ => False, World.ownsRow_nil _ _ _ _, rfl, fun _ h => h.elim⟩
theorem DelsRow.only {w0 w w' : World} {A : Option Addr} {c g : Nat} {l : List DelT} (h : DelsRow w0 w A c l) (ho : Only w w' g) (hg : g < w0.heap.size) : DelsRow w0 w' A c l := by
 obtain ⟨xs, S, h1, h2, h3⟩ := h
 refine ⟨xs, S, ⟨h1.1, h1.2.imp id ?_⟩, h2.keep fun b hb => ho.block b (h3 b hb).2.1 (by rintro ⟨⟩; have := (h3 _ hb).1; omega), fun b hb => ⟨(h3 b hb).1, Nat.lt_of_lt_of_le (h3 b hb).2.1 ho.size, (h3 b hb).2.2⟩⟩
 rintro ⟨q, cap, cur, e, hB, hh, hr⟩
 exact ⟨q, cap, cur, e, hB, (ho.block q (Array.getElem?_eq_some_iff.1 hh).1 (by rintro ⟨⟩; omega)).trans hh, hr⟩
theorem DelsRow.rows {w0 w : World} {A : Option Addr} {c : Nat} {l : List DelT} (h : DelsRow w0 w A c l) : DelsL w (NewB w0.heap.size w) A l := by
 obtain ⟨xs, S, h1, h2, h3⟩ := h
 exact h2.rows h1 rfl (fun b hb => ⟨(h3 b hb).1, (h3 b hb).2.1⟩) (fun p hp => World.ownsRow.lt h1 p hp)
theorem DelsRow.cap {w0 w : World} {A : Option Addr} {c : Nat} {l : List DelT} (h : DelsRow w0 w A c l) : l.length ≤ c := by
 obtain ⟨xs, S, h1, -⟩ := h
 rcases h1.2 with ⟨e, h0⟩ | ⟨g, cap, cur, e, -, -, hc, -⟩
 ·omega
 ·injection e with _ _ e; omega
theorem DelsRow.push {w0 w W : World} {p cap n c : Nat} {A : Option Addr} {xs cs : List Value} {S S2 : Nat → Prop} {o : DelT} {l : List DelT} (hn : n = l.length)
  (hb : w.grownBy W (Value.slice A n c).ownBlock) (hw : WhereRow w (.slice A n c) (.slice (some ⟨p, 0, none⟩) (n + 1) cap)) (hown : W.ownsRow w0.heap.size 95 8 (.slice (some ⟨p, 0, none⟩) (n + 1) cap) (n + 1) (xs ++ cs)) (hl : DelsC w S l xs) (hone : DelL w S2 o cs.toArray)
  (hS : ∀ b, S b → w0.heap.size ≤ b ∧ b < w.heap.size ∧ ∀ p, (Value.slice A n c).ownBlock = some p → b ≠ p) (hS2 : ∀ b, S2 b → w0.heap.size ≤ b ∧ b < w.heap.size ∧ ∀ p, (Value.slice A n c).ownBlock = some p → b ≠ p) :
  DelsRow w0 W (some ⟨p, 0, none⟩) cap (l ++ [o]) := by
 subst hn
 have hlen : (l ++ [o]).length = l.length + 1 := by simp
 have hk : ∀ b, b < w.heap.size → (∀ p, (Value.slice A l.length c).ownBlock = some p → b ≠ p) → W.heap[b]? = w.heap[b]? := fun b h1 h3 => hb.block b h1 (fun e => h3 b e.symm rfl)
 refine ⟨xs ++ cs, fun b => S b ∨ S2 b, by rw [hlen]; exact hown, DelsC.push ((hone.keep fun b hb' => hk b (hS2 b hb').2.1 (hS2 b hb').2.2).imp fun b h => .inr h) ((DelsC.keep (fun b hb' => hk b (hS b hb').2.1 (hS b hb').2.2) hl).imp fun b h => .inl h), ?_⟩
 intro b hb'
 have hc : w0.heap.size ≤ b ∧ b < w.heap.size ∧ ∀ p, (Value.slice A l.length c).ownBlock = some p → b ≠ p := hb'.elim (hS b) (hS2 b)
 refine ⟨hc.1, Nat.lt_of_lt_of_le hc.2.1 hb.size, fun q hq => ?_⟩
 have hq : p = q := by simpa [Value.ownBlock] using hq
 subst hq
 rcases hw with hw | ⟨q, hq, e⟩
 ·exact hc.2.2 p hw.symm
 ·injection e with e
  have e : p = q := e
  omega
theorem DelsRow.alloc {w0 w : World} {A : Option Addr} {c : Nat} {l : List DelT} (h : DelsRow w0 w A c l) (o : Obj) : DelsRow w0 (w.alloc o) A c l := by
 obtain ⟨xs, S, h1, h2, h3⟩ := h
 have hk : ∀ b, b < w.heap.size → (w.alloc o).heap[b]? = w.heap[b]? := fun b hb => Below.heap_alloc w o b hb
 refine ⟨xs, S, ⟨h1.1, h1.2.imp id ?_⟩, h2.keep fun b hb => hk b (h3 b hb).2.1, fun b hb => ⟨(h3 b hb).1, by have := (h3 b hb).2.1; simp; omega, (h3 b hb).2.2⟩⟩
 rintro ⟨q, cap, cur, e, hB, hh, hr⟩
 exact ⟨q, cap, cur, e, hB, (hk q (Array.getElem?_eq_some_iff.1 hh).1).trans hh, hr⟩
theorem DelsRow.own {w0 w : World} {A : Option Addr} {c : Nat} {l : List DelT} (h : DelsRow w0 w A c l) : ∀ p, (Value.slice A l.length c).ownBlock = some p → w0.heap.size ≤ p ∧ p < w.heap.size := by
 obtain ⟨xs, S, h1, -⟩ := h
 exact fun p hp => World.ownsRow.lt h1 p hp
theorem row_pos {w : World} {B n k : Nat} {t : TypeId} {v : Value} {xs : List Value} (h : w.ownsRow B t k v n xs) (hn : 0 < n) : ∃ p cap, v = .slice (some ⟨p, 0, none⟩) n cap := by
 rcases h.2 with ⟨-, h0⟩ | ⟨g, cap, cur, h1, -⟩
 ·omega
 ·exact ⟨g, cap, h1⟩
theorem eight_new (w : World) (cs : List Value) (t : TypeId) : ∀ j u, cs[j]? = some u → (w.alloc (.cells cs.toArray t)).cell? ((⟨w.heap.size, 0, none⟩ : Addr).add j) = some u := fun j u h => by
 rw [add_at, Nat.zero_add]
 exact (Go.Joins.cell_of_block (heap_alloc_new w _) j).trans (by simpa using h)
theorem DelsC.of {w : World} {S : Nat → Prop} {b : Nat} : ∀ (l : List DelT) (off : Nat), (∀ i (h : i < l.length), ∃ cs : Array Value, (∀ j v, cs[j]? = some v → w.cell? ⟨b, off + i * 8 + j, none⟩ = some v) ∧ DelL w S l[i] cs) → ∃ xs, DelsC w S l xs ∧ ∀ j u, xs[j]? = some u → w.cell? ⟨b, off + j, none⟩ = some u
 | [], off, _ => ⟨[], rfl, fun j u h => by simp at h⟩
 | d :: l, off, h => by
  obtain ⟨cs, h1, h2⟩ := h 0 (by simp)
  obtain ⟨xs, h3, h4⟩ := DelsC.of l (off + 8) fun i hi => by
   obtain ⟨cs, k1, k2⟩ := h (i + 1) (by simpa using hi)
   refine ⟨cs, fun j v hv => ?_, by simpa using k2⟩
   have := k1 j v hv
   rw [show off + (i + 1) * 8 + j = off + 8 + i * 8 + j by omega] at this
   exact this
  have hc8 : cs.toList.length = 8 := by have := h2.size; simpa using this
  refine ⟨cs.toList ++ xs, ⟨cs.toList, xs, rfl, by simpa using h2, h3⟩, fun j u hu => ?_⟩
  by_cases hj : j < 8
  ·rw [List.getElem?_append_left (by omega)] at hu
   have := h1 j u (by simpa using hu)
   rw [show off + 0 * 8 + j = off + j by omega] at this
   exact this
  ·rw [List.getElem?_append_right (by omega), hc8] at hu
   have := h4 (j - 8) u hu
   rw [show off + 8 + (j - 8) = off + j by omega] at this
   exact this
theorem DelsC.one {w : World} {S : Nat → Prop} : ∀ {l : List DelT} {xs : List Value}, DelsC w S l xs → ∀ u ∈ xs, u.oneCell' = true
 | [], xs, h, u, hu => by have h : xs = [] := h; subst h; simp at hu
 | d :: l, xs, h, u, hu => by
  obtain ⟨c, r, rfl, h1, h2⟩ := h
  rcases List.mem_append.1 hu with hu | hu
  ·exact h1.oneL u hu
  ·exact DelsC.one h2 u hu
open Lib (hid)
theorem dels_ne_nil (a : Addr) (n c : Nat) (w : World) : (binOp .eql 26 (.slice (some a) n c) (.slice none 0 0)).run Tryz.prog w = .ok (.bool false) w := by kernel_rfl
theorem dels_nil (w : World) : (binOp .eql 26 (.slice none 0 0) (.slice none 0 0)).run Tryz.prog w = .ok (.bool true) w := by kernel_rfl
theorem strs_nil_eq (w : World) : (binOp .eql 23 (.slice none 0 0) (.slice none 0 0)).run Tryz.prog w = .ok (.bool true) w := by kernel_rfl
theorem own_slice {w : World} {B n k : Nat} {t : TypeId} {v : Value} {xs : List Value} (h : w.ownsRow B t k v n xs) : ∃ A c, v = .slice A n c ∧ (A = none → c = 0) ∧ n ≤ c := by
 rcases h.2 with ⟨e, h0⟩ | ⟨g, cap, cur, e, -, -, hc, -⟩
 ·exact ⟨none, 0, by rw [e, h0], fun _ => rfl, by omega⟩
 ·exact ⟨_, _, e, fun h => (by cases h), hc⟩
set_option maxHeartbeats 4000000 in
theorem slCloneD_any (S : Nat → Prop) (A : Option Addr) (c : Nat) (l : List DelT) (w : World) (hS : ∀ b, S b → b < w.heap.size) (h : DelsL w S A l) (hA : A = none → c = 0 ∧ l = []) (hl : l.length ≤ 1099511627776) :
  Calls Tryz.prog 94 #[.slice A l.length c] w fun e w' => ∃ v, e = .returned v ∧ (∃ xs, w'.ownsRow w.heap.size 95 8 v l.length xs ∧ DelsC w' S l xs) ∧ Below w.heap.size w w' := by
 cases A with
 | none =>
  obtain ⟨rfl, rfl⟩ := hA rfl
  clear h hS hA hl
  have he := dels_nil w
  show Calls Tryz.prog 94 #[.slice none 0 0] w _
  go_enter Tryz.func94, Tryz.ntmps94
  go_wp2_with fail
  go_ret
  exact ⟨_, rfl, ⟨[], World.ownsRow_nil _ _ _ _, rfl⟩, Below.refl _ _⟩
 | some ad =>
  obtain ⟨i0, hi, hz0, hz1, hz2⟩ := info_parts Tryz.infoDlt
  have hxs : ∃ xs, DelsC w S l xs ∧ ∀ j u, xs[j]? = some u → w.cell? (ad.add j) = some u := by
   by_cases hp : 0 < l.length
   ·obtain ⟨b, off, e, hb, hc⟩ := h hp
    injection e with e
    subst e
    obtain ⟨xs, h1, h2⟩ := DelsC.of l off hc
    exact ⟨xs, h1, fun j u hu => by rw [add_at]; exact h2 j u hu⟩
   ·obtain rfl : l = [] := List.eq_nil_of_length_eq_zero (by omega)
    exact ⟨[], rfl, fun j u hu => by simp at hu⟩
  obtain ⟨xs, hx1, hx2⟩ := hxs
  have hk0 : ∀ b, b < w.heap.size → (w.alloc (.cells #[] 95)).heap[b]? = w.heap[b]? := fun b hb => Below.heap_alloc w _ b hb
  have ho0 : (w.alloc (.cells #[] 95)).ownsRow w.heap.size 95 8 (.slice (some ⟨w.heap.size, 0, none⟩) 0 0) 0 [] := World.ownsRow_made w #[] 0 (Nat.le_refl _) (by decide) rfl
  have HO := hid ho0
  have hb0 : Below w.heap.size w (w.alloc (.cells #[] 95)) := below_box _
  have HB0 := hid hb0
  have HN : Hid (∀ j u, xs[j]? = some u → (w.alloc (.cells #[] 95)).cell? (ad.add j) = some u) := hid fun j u hu => by
   have h2 := hx2 j u hu
   exact (World.cell?_of_block (hk0 _ (World.block_lt_of_cell? w _ h2))).trans h2
  have HX := hid hx1
  have HL := hid hx1.len
  have H1 := hid hx1.one
  have HS := hid hS
  obtain ⟨n, hn⟩ : ∃ n, n = l.length := ⟨_, rfl⟩
  have HNN := hid hn
  rw [← hn] at hl ⊢
  have he := dels_ne_nil ad n c w
  clear hx1 hx2 hk0 ho0 h hA hS hn hb0
  go_enter Tryz.func94, Tryz.ntmps94
  go_wp2_with (at_builtin; refine wpList_append_own _ rfl _ _ 26 rfl w.heap.size 95 i0 _ 8 120 Tryz.underlying26 hi hz0 hz1 hz2 rfl (by decide) (.slice (some ⟨w.heap.size, 0, none⟩) 0 0) 0 [] rfl HO.out ad n c xs rfl (by rw [HL.out, ← HNN.out]) HN.out H1.out (by unfold maxLen; omega) (by omega) (by simp) ?_; intro v' w' hv' hg' hnil'; have HV := hid hv'; have HG := hid hg'; clear hv' hg' hnil')
  go_ret
  have hg := HG.out
  have hv := HV.out
  rw [List.nil_append, Nat.zero_add] at hv
  have hbb : Below w.heap.size w w' := HB0.out.grown hg (by simp) (fun k hk => by simp [Value.ownBlock] at hk; omega)
  exact ⟨_, rfl, ⟨xs, hv, HX.out.keep fun b hb => hbb.block b (HS.out b hb)⟩, hbb⟩
set_option maxHeartbeats 2000000 in
theorem cloneS_all (S : Nat → Prop) (A : Option Addr) (c : Nat) (p : List ByteArray) (w : World) (h : StrsAt w S A p) (hS : ∀ b, S b → b < w.heap.size) (hA : A = none → c = 0) (hl : p.length ≤ 8796093021952) :
  Calls Tryz.prog 95 #[.slice A p.length c] w fun e w' => ∃ v, e = .returned v ∧ OwnS w' w.heap.size v p ∧ Below w.heap.size w w' := by
 cases A with
 | none =>
  obtain rfl := hA rfl
  obtain rfl : p = [] := by
   match p, h with
   | [], _ => rfl
   | m :: r, h => obtain ⟨_, _, h, _⟩ := h (by simp); cases h
  clear h hS hA hl
  have he := strs_nil_eq w
  show Calls Tryz.prog 95 #[.slice none 0 0] w _
  go_enter Tryz.func95, Tryz.ntmps95
  go_wp2_with fail
  go_ret
  exact ⟨_, rfl, OwnS.nil _ _, Below.refl _ _⟩
 | some ad =>
  have ho0 : OwnS (w.alloc (.cells #[] 9)) w.heap.size (.slice (some ⟨w.heap.size, 0, none⟩) 0 0) [] := World.ownsRow_made w #[] 0 (Nat.le_refl _) (by decide) rfl
  have HO := hid ho0
  have hb0 : Below w.heap.size w (w.alloc (.cells #[] 9)) := below_box _
  have HB0 := hid hb0
  have HP := hid (h.keep (w' := w.alloc (.cells #[] 9)) fun b hb => hb0.block b (hS b hb))
  obtain ⟨n, hn⟩ : ∃ n, n = p.length := ⟨_, rfl⟩
  have HN := hid hn
  rw [← hn] at hl ⊢
  have he := strs_ne_nil ad n c w
  clear h hS hA ho0 hb0 hn
  go_enter Tryz.func95, Tryz.ntmps95
  go_wp2_with (at_builtin; refine wpList_append_strs rfl _ _ rfl w.heap.size (.slice (some ⟨w.heap.size, 0, none⟩) 0 0) [] rfl HO.out (some ad) c p S (by rw [← HN.out]; rfl) (fun h => by cases h) HP.out (by simp) (by rw [← HN.out]; simp; omega) ?_; intro v' w' hv' hg'; have HV := hid hv'; have HG := hid hg'; clear hv' hg')
  go_ret
  have hv := HV.out
  rw [List.nil_append] at hv
  exact ⟨_, rfl, hv, HB0.out.grown HG.out (by simp) (fun k hk => by simp [Value.ownBlock] at hk; omega)⟩
def Out (F : Nat → Prop) (A A' : Option Addr) : Nat → Prop := fun b => F b ∧ (∀ a, A = some a → a.block ≠ b) ∧ (∀ a, A' = some a → a.block ≠ b)
mutual
def OV (w : World) : (Nat → Prop) → VT → Value → Prop
 | F, .mk k i s l ns, v => ∃ A c A' c' xs, v = .agg #[.int .i64 k, .int .i64 i, .string s, .slice A l.length c, .slice A' ns.length c'] ∧ Rng k ∧ Rng i ∧ s.size ≤ 140737488351232 ∧
   l.length ≤ 1759218604390 ∧ ns.length ≤ 8796093021952 ∧ (∀ s ∈ ns, s.size ≤ 140737488351232) ∧
   w.ownsRow 0 9 1 (.slice A' ns.length c') ns.length (ns.map Value.string) ∧ w.ownsRow 0 25 5 (.slice A l.length c) l.length xs ∧
   (∀ a, A' = some a → F a.block) ∧ (∀ a, A = some a → F a.block) ∧ (∀ a a', A = some a → A' = some a' → a.block ≠ a'.block) ∧ OVs w (Out F A A') l xs
def OVs (w : World) : (Nat → Prop) → List VT → List Value → Prop
 | _, [], xs => xs = []
 | F, t :: r, xs => ∃ c0 c1 c2 c3 c4 ys F1 F2, xs = c0 :: c1 :: c2 :: c3 :: c4 :: ys ∧ OV w F1 t (.agg #[c0, c1, c2, c3, c4]) ∧ OVs w F2 r ys ∧ (∀ b, F1 b → F b) ∧ (∀ b, F2 b → F b) ∧ (∀ b, F1 b → F2 b → False)
end
theorem Out.imp {F F' : Nat → Prop} {A A' : Option Addr} (h : ∀ b, F b → F' b) : ∀ b, Out F A A' b → Out F' A A' b := fun b hb => ⟨h b hb.1, hb.2⟩
theorem OVs.imp {w : World} {F F' : Nat → Prop} (hF : ∀ b, F b → F' b) {l : List VT} {xs : List Value} (h : OVs w F l xs) : OVs w F' l xs := by
 cases l with
 | nil => unfold OVs at h ⊢; exact h
 | cons t r =>
  unfold OVs at h ⊢
  obtain ⟨c0, c1, c2, c3, c4, ys, F1, F2, h0, h1, h2, h3, h4, h5⟩ := h
  exact ⟨c0, c1, c2, c3, c4, ys, F1, F2, h0, h1, h2, fun b hb => hF b (h3 b hb), fun b hb => hF b (h4 b hb), h5⟩
theorem OV.imp {w : World} {F F' : Nat → Prop} (hF : ∀ b, F b → F' b) {t : VT} {v : Value} (h : OV w F t v) : OV w F' t v := by
 cases t with
 | mk k i s l ns =>
  unfold OV at h ⊢
  obtain ⟨A, c, A', c', xs, h0, h1, h2, h3, h4, h5, h6, h7, h8, h9, h10, h11, h12⟩ := h
  exact ⟨A, c, A', c', xs, h0, h1, h2, h3, h4, h5, h6, h7, h8, fun a ha => hF _ (h9 a ha), fun a ha => hF _ (h10 a ha), h11, h12.imp (Out.imp hF)⟩
theorem row_keep {w w' : World} {B : Nat} {e : TypeId} {size n c : Nat} {A : Option Addr} {xs : List Value} (h : w.ownsRow B e size (.slice A n c) n xs) (hk : ∀ a, A = some a → w'.heap[a.block]? = w.heap[a.block]?) : w'.ownsRow B e size (.slice A n c) n xs := by
 refine ⟨h.1, ?_⟩
 rcases h.2 with h2 | ⟨g, cap, cur, hv, hg, hh, hr⟩
 ·exact .inl h2
 ·injection hv with e1 e2 e3
  subst e1
  exact .inr ⟨g, cap, cur, by rw [e3], hg, (hk _ rfl).trans hh, hr⟩
mutual
theorem OV.keep {w w' : World} : ∀ {F : Nat → Prop} {t : VT} {v : Value}, (∀ b, F b → w'.heap[b]? = w.heap[b]?) → OV w F t v → OV w' F t v
 | F, .mk k i s l ns, v, hk, h => by
  unfold OV at h ⊢
  obtain ⟨A, c, A', c', xs, h0, h1, h2, h3, h4, h5, h6, h7, h8, h9, h10, h11, h12⟩ := h
  exact ⟨A, c, A', c', xs, h0, h1, h2, h3, h4, h5, h6, row_keep h7 fun a ha => hk _ (h9 a ha), row_keep h8 fun a ha => hk _ (h10 a ha), h9, h10, h11, OVs.keep (fun b hb => hk b hb.1) h12⟩
theorem OVs.keep {w w' : World} : ∀ {F : Nat → Prop} {l : List VT} {xs : List Value}, (∀ b, F b → w'.heap[b]? = w.heap[b]?) → OVs w F l xs → OVs w' F l xs
 | F, [], xs, hk, h => by unfold OVs at h ⊢; exact h
 | F, t :: r, xs, hk, h => by
  unfold OVs at h ⊢
  obtain ⟨c0, c1, c2, c3, c4, ys, F1, F2, h0, h1, h2, h3, h4, h5⟩ := h
  exact ⟨c0, c1, c2, c3, c4, ys, F1, F2, h0, OV.keep (fun b hb => hk b (h3 b hb)) h1, OVs.keep (fun b hb => hk b (h4 b hb)) h2, h3, h4, h5⟩
end
theorem OVs.of {w : World} : ∀ {l : List VT} {F : Nat → Prop} {xs : List Value} (Fs : Nat → Nat → Prop), xs.length = l.length * 5 → (∀ i j b, i ≠ j → Fs i b → Fs j b → False) → (∀ j b, Fs j b → F b) →
  (∀ j (hj : j < l.length), ∃ c0 c1 c2 c3 c4, xs[j * 5]? = some c0 ∧ xs[j * 5 + 1]? = some c1 ∧ xs[j * 5 + 2]? = some c2 ∧ xs[j * 5 + 3]? = some c3 ∧ xs[j * 5 + 4]? = some c4 ∧ OV w (Fs j) l[j] (.agg #[c0, c1, c2, c3, c4])) → OVs w F l xs
 | [], F, xs, Fs, hl, _, _, _ => by unfold OVs; exact List.eq_nil_of_length_eq_zero (by simpa using hl)
 | t :: r, F, xs, Fs, hl, k1, k2, k3 => by
  obtain ⟨c0, c1, c2, c3, c4, e0, e1, e2, e3, e4, e5⟩ := k3 0 (by simp)
  match xs, hl with
  | a0 :: a1 :: a2 :: a3 :: a4 :: ys, hl =>
   simp at e0 e1 e2 e3 e4
   subst e0 e1 e2 e3 e4
   unfold OVs
   refine ⟨_, _, _, _, _, ys, Fs 0, fun b => ∃ j, Fs (j + 1) b, rfl, e5, OVs.of (fun j => Fs (j + 1)) (by simp at hl; omega) (fun i j b hij => k1 _ _ b (by omega)) (fun j b hb => ⟨j, hb⟩) (fun j hj => ?_), fun b hb => k2 0 b hb, fun b ⟨j, hb⟩ => k2 _ b hb, fun b hb ⟨j, hb'⟩ => k1 0 (j + 1) b (by omega) hb hb'⟩
   obtain ⟨d0, d1, d2, d3, d4, g0, g1, g2, g3, g4, g5⟩ := k3 (j + 1) (by simpa using hj)
   have hs : (j + 1) * 5 = j * 5 + 5 := by omega
   rw [hs] at g0 g1 g2 g3 g4
   exact ⟨d0, d1, d2, d3, d4, g0, g1, g2, g3, g4, g5⟩
  | [], hl => simp at hl
  | [_], hl => simp at hl; omega
  | [_, _], hl => simp at hl; omega
  | [_, _, _], hl => simp at hl; omega
  | [_, _, _, _], hl => simp at hl; omega
mutual
theorem OV.lv {w : World} : ∀ {F : Nat → Prop} {t : VT} {v : Value}, OV w F t v → LV w F t v
 | F, .mk k i s l ns, v, h => by
  unfold OV at h
  obtain ⟨A, c, A', c', xs, h0, h1, h2, h3, h4, h5, h6, h7, h8, h9, h10, h11, h12⟩ := h
  rw [h0]
  refine LV.mk h1 h2 h3 h4 h5 (fun hp => ?_) (fun hp => ?_)
  ·rcases h7.2 with ⟨-, h⟩ | ⟨g, cap, cur, hv, -⟩
   ·omega
   ·injection hv with e1 e2 e3
    subst e1
    refine ⟨g, 0, rfl, h9 _ rfl, fun j hj => ⟨?_, h6 _ (List.getElem_mem hj)⟩⟩
    have := h7.cells (g := g) rfl j (.string ns[j]) (by simp [List.getElem?_map, List.getElem?_eq_getElem hj])
    rw [addr_at] at this
    exact this
  ·rcases h8.2 with ⟨-, h⟩ | ⟨g, cap, cur, hv, -⟩
   ·omega
   ·injection hv with e1 e2 e3
    subst e1
    refine ⟨g, 0, rfl, h10 _ rfl, OVs.lvs (fun b hb => hb.1) h12 fun j v hj => ?_⟩
    have := h8.cells (g := g) rfl j v hj
    rw [addr_at] at this
    exact this
theorem OVs.lvs {w : World} {S : Nat → Prop} {g : Nat} : ∀ {F : Nat → Prop} {l : List VT} {xs : List Value} {off : Nat}, (∀ b, F b → S b) → OVs w F l xs → (∀ i v, xs[i]? = some v → w.cell? ⟨g, off + i, none⟩ = some v) → LVs w S g off l
 | F, [], xs, off, hS, h, hc => by unfold LVs; trivial
 | F, t :: r, xs, off, hS, h, hc => by
  unfold OVs at h
  obtain ⟨c0, c1, c2, c3, c4, ys, F1, F2, rfl, h1, h2, h3, h4, h5⟩ := h
  unfold LVs
  refine ⟨⟨c0, c1, c2, c3, c4, hc 0 c0 rfl, hc 1 c1 rfl, hc 2 c2 rfl, hc 3 c3 rfl, hc 4 c4 rfl, (OV.lv h1).imp fun b hb => hS b (h3 b hb)⟩, OVs.lvs (fun b hb => hS b (h4 b hb)) h2 fun i v hi => ?_⟩
  have := hc (i + 5) v hi
  rw [show off + (i + 5) = off + 5 + i by omega] at this
  exact this
end
theorem OV.shape {w : World} {F : Nat → Prop} {t : VT} {v : Value} (h : OV w F t v) : ∃ A c A' c' xs, v = .agg #[.int .i64 t.kind, .int .i64 t.num, .string t.text, .slice A t.items.length c, .slice A' t.names.length c'] ∧
  w.ownsRow 0 9 1 (.slice A' t.names.length c') t.names.length (t.names.map Value.string) ∧ w.ownsRow 0 25 5 (.slice A t.items.length c) t.items.length xs ∧
  (∀ a, A' = some a → F a.block) ∧ (∀ a, A = some a → F a.block) ∧ (∀ a a', A = some a → A' = some a' → a.block ≠ a'.block) ∧ OVs w (Out F A A') t.items xs := by
 cases t with
 | mk k i s l ns =>
  unfold OV at h
  obtain ⟨A, c, A', c', xs, h0, h1, h2, h3, h4, h5, h6, h7, h8, h9, h10, h11, h12⟩ := h
  exact ⟨A, c, A', c', xs, h0, h7, h8, h9, h10, h11, h12⟩
theorem OV.mk {w : World} {F : Nat → Prop} {k i : Int} {s : ByteArray} {l : List VT} {ns : List ByteArray} {A A' : Option Addr} {c c' : Nat} {xs : List Value} (h1 : Rng k) (h2 : Rng i) (h3 : s.size ≤ 140737488351232) (h4 : l.length ≤ 1759218604390) (h5 : ns.length ≤ 8796093021952) (h6 : ∀ s ∈ ns, s.size ≤ 140737488351232)
  (h7 : w.ownsRow 0 9 1 (.slice A' ns.length c') ns.length (ns.map Value.string)) (h8 : w.ownsRow 0 25 5 (.slice A l.length c) l.length xs)
  (h9 : ∀ a, A' = some a → F a.block) (h10 : ∀ a, A = some a → F a.block) (h11 : ∀ a a', A = some a → A' = some a' → a.block ≠ a'.block) (h12 : OVs w (Out F A A') l xs) :
  OV w F (.mk k i s l ns) (.agg #[.int .i64 k, .int .i64 i, .string s, .slice A l.length c, .slice A' ns.length c']) := by
 unfold OV
 exact ⟨A, c, A', c', xs, rfl, h1, h2, h3, h4, h5, h6, h7, h8, h9, h10, h11, h12⟩
theorem ovs_nil (w : World) (F : Nat → Prop) : OVs w F [] [] := by unfold OVs; rfl
end Go.Proofs.YtpcdngpppjdgcaaGreat
