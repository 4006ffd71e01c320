/- A slice of texts that came in, read. -/
import Derived.Test.YtlipkmdjpligeaaGreatKMath
import Derived.Test.YtlipkmdjpligeaaGreatKRefZ
import Derived.Test.YtlipkmdjpligeaaGreatKValF
import Derived.Test.YtlipkmdjpligeaaGreatKVr
import Derived.Test.YtlipkmdjpligeaaGreatKPathA
import Derived.Deep.Slices
import Derived.SliceStrings
import Derived.SizedLaws
import Derived.Lib.SmallJoins
import Derived.Laws.ResultCell
import Derived.Lib.OthersKept
import Derived.Laws.AppendOwnNone
import Derived.Outline
import Derived.Laws.OwnMore
import Derived.Laws.AppendOwn
import Derived.Lib.DecodeN
namespace Go.Proofs.YtlipkmdjpligeaaGreat
set_option linter.unusedVariables false
set_option linter.unusedSimpArgs false
open Go.ChangeShapes Go.WideShapes Go.RowKit Go.Joins Go.Deep

theorem cellsStr : Tryz.prog.cellsOf 9 = 1 := by kernel_rfl
theorem bytesStr : Tryz.prog.bytesOf 9 = 16 := by kernel_rfl
section
variable {H : Type} {enc : TypeId × Value → H} {W : World} {sp : Nat → Bool}

theorem mem_weightsAll {P : Program} {e : TypeId} : ∀ {l : List (DataW H)} {d : DataW H}, d ∈ l → ∀ n ∈ d.weights P e, n ∈ DataW.weightsAll P e l
 | a :: r, d, hd, n, hn => by
  unfold DataW.weightsAll
  rw [List.mem_append]
  rcases List.mem_cons.1 hd with rfl | hd
  ·exact .inl hn
  ·exact .inr (mem_weightsAll hd n hn)

theorem open_names2 {fuel : Nat} {cs : List Value} {x : DataW H × List MemPlace} (h : DataW.trod enc Tryz.prog W 0 sp true fuel 22 cs = some x) (hw : ∀ n ∈ x.1.weights Tryz.prog 22, n ≤ reachBytes) :
  ∃ A c, ∃ ns : List ByteArray, cs = [.slice A ns.length c] ∧ ns.length ≤ c ∧ (A = none → c = 0) ∧ ns.length ≤ 8796093021952 ∧ StrsAt W (fun b => b < W.heap.size) A ns := by
 rcases open_strings Tryz.underlying22 Tryz.underlying9 cellsStr h with ⟨rfl, _⟩ | ⟨a, len, cap, ss, rfl, -, hl, hm, hsl, hx, hc, hs⟩
 ·exact ⟨none, 0, [], rfl, by simp, fun _ => rfl, by simp, fun h => absurd h (by simp)⟩
 ·have hle : len ≤ ss.length := by rw [hsl]; split <;> omega
  have hlen : (ss.take len).length = len := by simp; omega
  have hws := hw
  rw [hx] at hws
  simp only [DataW.weights, Tryz.underlying22] at hws
  have h1 : len ≤ 8796093021952 := by
   have h1 := hws _ (List.mem_cons_self ..)
   rw [bytesStr] at h1
   simp only [strs, List.length_map, hlen, reachBytes] at h1
   omega
  refine ⟨some a, cap, ss.take len, by rw [hlen], by rw [hlen]; exact hl, (fun h => by cases h), by rw [hlen]; exact h1, fun hp => ?_⟩
  rw [hlen] at hp
  obtain ⟨b, off, spot⟩ := a
  have h0 := hc 0 (by omega)
  obtain rfl : spot = none := by simpa [Addr.add] using World.cell?_spot h0
  refine ⟨b, off, rfl, ?_, fun i hi => ?_⟩
  ·rw [add_at] at h0; exact World.block_lt_of_cell? W _ h0
  ·rw [hlen] at hi
   have hi2 : i < ss.length := by omega
   have h2 := hc i hi2
   rw [add_at] at h2
   refine ⟨?_, ?_⟩
   ·rw [h2]; simp [List.getD, List.getElem?_eq_getElem hi2]
   ·have hmem : ((.lit (.string ((ss.take len)[i]'(by omega)).data.toList) : DataW H)) ∈ strs (H := H) (ss.take len) := by
     unfold strs
     exact List.mem_map.2 ⟨_, List.getElem_mem _, rfl⟩
    have h3 := hws ((ss.take len)[i]'(by omega)).data.toList.length (List.mem_cons_of_mem _ (List.mem_append_left _ (mem_weightsAll hmem _ (by simp [DataW.weights]))))
    simpa [reachBytes] using h3

theorem open_names {fuel : Nat} {cs : List Value} {x : DataW H × List MemPlace} (h : DataW.trod enc Tryz.prog W 0 sp true fuel 22 cs = some x) (hw : ∀ n ∈ x.1.weights Tryz.prog 22, n ≤ reachBytes) :
  ∃ A c, ∃ ns : List ByteArray, cs = [.slice A ns.length c] ∧ ns.length ≤ 8796093021952 ∧ StrsAt W (fun b => b < W.heap.size) A ns := by
 obtain ⟨A, c, ns, h1, -, -, h2, h3⟩ := open_names2 h hw
 exact ⟨A, c, ns, h1, h2, h3⟩
end
set_option maxRecDepth 100000

theorem cellsVal : Tryz.prog.cellsOf 27 = 5 := by kernel_rfl
theorem cellsI : Tryz.prog.cellsOf 3 = 1 := by kernel_rfl
theorem cellsVals : Tryz.prog.cellsOf 25 = 1 := by kernel_rfl
theorem cellsStrs : Tryz.prog.cellsOf 22 = 1 := by kernel_rfl
theorem bytesVal : Tryz.prog.bytesOf 27 = 80 := by kernel_rfl
theorem fieldsVal : ∃ f0 f1 f2 f3 f4 : Field, Tryz.prog.underlying 27 = some (.struct #[f0, f1, f2, f3, f4]) ∧ f0.type = 3 ∧ f1.type = 3 ∧ f2.type = 9 ∧ f3.type = 25 ∧ f4.type = 22 ∧ f0.offset = 0 ∧ f1.offset = 1 ∧ f2.offset = 2 ∧ f3.offset = 3 ∧ f4.offset = 4 :=
 ⟨_, _, _, _, _, Tryz.underlying27, rfl, rfl, rfl, rfl, rfl, rfl, rfl, rfl, rfl, rfl⟩

theorem LVs.intro {w : World} {S : Nat → Prop} {b : Nat} : ∀ {l : List VT} {off : Nat}, (∀ j (h : j < l.length), ∃ c0 c1 c2 c3 c4, w.cell? ⟨b, off + j * 5, none⟩ = some c0 ∧ w.cell? ⟨b, off + j * 5 + 1, none⟩ = some c1 ∧ w.cell? ⟨b, off + j * 5 + 2, none⟩ = some c2 ∧
  w.cell? ⟨b, off + j * 5 + 3, none⟩ = some c3 ∧ w.cell? ⟨b, off + j * 5 + 4, none⟩ = some c4 ∧ LV w S l[j] (.agg #[c0, c1, c2, c3, c4])) → LVs w S b off l
 | [], _, _ => by unfold LVs; trivial
 | t :: r, off, h => by
  unfold LVs
  have h0 := h 0 (by simp)
  simp only [Nat.zero_mul, Nat.add_zero] at h0
  refine ⟨h0, LVs.intro fun j hj => ?_⟩
  have := h (j + 1) (by simpa using hj)
  have e : off + (j + 1) * 5 = off + 5 + j * 5 := by omega
  rw [e] at this
  simpa using this

section
variable {H : Type} {enc : TypeId × Value → H} {W : World} {sp : Nat → Bool}

theorem rng_of_wf {k : Int} (h : (Lit.int .i64 k).wf = true) : Rng k := in64_of_wf h

theorem open_val : ∀ (fuel : Nat) (cs : List Value) (x : DataW H × List MemPlace), DataW.trod enc Tryz.prog W 0 sp true fuel 27 cs = some x → (∀ n ∈ x.1.weights Tryz.prog 27, n ≤ reachBytes) →
  ∃ t, LV W (fun b => b < W.heap.size) t (.agg cs.toArray) := by
 intro fuel
 induction fuel using Nat.strongRecOn with
 | _ fuel ih =>
  intro cs x h hw
  obtain ⟨f0, f1, f2, f3, f4, hu, t0, t1, t2, t3, t4, o0, o1, o2, o3, o4⟩ := fieldsVal
  obtain ⟨xs, n, hfu, hx, hlen, hxl, hg⟩ := DataW.trod_struct hu h
  rw [cellsVal] at hlen
  match cs, hlen with
  | [c0, c1, c2, c3, c4], _ =>
   match xs, hxl with
   | [y0, y1, y2, y3, y4], _ =>
    have g0 := hg 0 f0 rfl
    have g1 := hg 1 f1 rfl
    have g2 := hg 2 f2 rfl
    have g3 := hg 3 f3 rfl
    have g4 := hg 4 f4 rfl
    rw [t0, o0, cellsI] at g0
    rw [t1, o1, cellsI] at g1
    rw [t2, o2, cellsStr] at g2
    rw [t3, o3, cellsVals] at g3
    rw [t4, o4, cellsStrs] at g4
    have hws := hw
    rw [hx] at hws
    simp only [DataW.weights, hu, List.map_cons, List.map_nil, t0, t1, t2, t3, t4] at hws
    obtain ⟨k, e0, -, w0⟩ := DataW.trod_int Tryz.underlying3 g0
    obtain ⟨i, e1, -, w1⟩ := DataW.trod_int Tryz.underlying3 g1
    obtain ⟨s, e2, x2, w2⟩ := DataW.trod_string Tryz.underlying9 g2
    simp at e0 e1 e2
    subst e0 e1 e2
    have hs : s.size ≤ 140737488351232 := by
     have := hws s.data.toList.length (by rw [DataW.weightsEach, DataW.weightsEach, DataW.weightsEach]; refine List.mem_append_right _ (List.mem_append_right _ (List.mem_append_left _ ?_)); rw [x2]; simp [DataW.weights])
     simpa [reachBytes] using this
    obtain ⟨A', c', ns, e4, hn4, hns⟩ := open_names g4 (fun n hn => hws n (by rw [DataW.weightsEach, DataW.weightsEach, DataW.weightsEach, DataW.weightsEach, DataW.weightsEach]; exact List.mem_append_right _ (List.mem_append_right _ (List.mem_append_right _ (List.mem_append_right _ (List.mem_append_left _ hn))))))
    simp at e4
    subst e4
    have hw3 : ∀ n ∈ y3.1.weights Tryz.prog 25, n ≤ reachBytes := fun n hn => hws n (by rw [DataW.weightsEach, DataW.weightsEach, DataW.weightsEach, DataW.weightsEach]; exact List.mem_append_right _ (List.mem_append_right _ (List.mem_append_right _ (List.mem_append_left _ hn))))
    rcases DataW.trod_slice Tryz.underlying25 g3 with ⟨e3, -⟩ | ⟨a, len, cap, elems, rest, m, hm, e3, x3, -, hlc, -, hel, hat, -, -⟩
    ·simp at e3
     subst e3
     exact ⟨.mk k i s [] ns, LV.mk (rng_of_wf w0) (rng_of_wf w1) hs (by simp) hn4 hns (fun h => absurd h (by simp))⟩
    ·simp at e3
     subst e3
     simp at x3
     rw [x3] at hw3
     simp only [DataW.weights, Tryz.underlying25] at hw3
     have hl : len ≤ 1759218604390 := by
      have h1 := hw3 _ (List.mem_cons_self ..)
      rw [bytesVal] at h1
      simp only [List.length_map, hel, reachBytes] at h1
      omega
     have hT : ∀ j, ∃ t : VT, j < len → ∃ c0 c1 c2 c3 c4, W.cell? (a.add (j * 5)) = some c0 ∧ W.cell? ((a.add (j * 5)).add 1) = some c1 ∧ W.cell? ((a.add (j * 5)).add 2) = some c2 ∧ W.cell? ((a.add (j * 5)).add 3) = some c3 ∧ W.cell? ((a.add (j * 5)).add 4) = some c4 ∧
       LV W (fun b => b < W.heap.size) t (.agg #[c0, c1, c2, c3, c4]) := by
      intro j
      by_cases hj : j < len
      ·have h1 := hat j hj
       rw [cellsVal, List.getElem?_eq_getElem (by omega)] at h1
       obtain ⟨cs', hc, ht⟩ := Option.bind_eq_some_iff.1 h1
       obtain ⟨-, hcl, hcat⟩ := World.cells?_some hc
       obtain ⟨t, htv⟩ := ih m (by omega) cs' _ ht (fun n hn => hw3 n (List.mem_cons_of_mem _ (List.mem_append_left _ (mem_weightsAll (List.mem_map.2 ⟨_, List.getElem_mem (by omega), rfl⟩) n hn))))
       match cs', hcl with
       | [u0, u1, u2, u3, u4], _ =>
        refine ⟨t, fun _ => ⟨u0, u1, u2, u3, u4, ?_, ?_, ?_, ?_, ?_, htv⟩⟩
        ·simpa [Addr.add] using hcat 0 (by omega)
        ·simpa using hcat 1 (by omega)
        ·simpa using hcat 2 (by omega)
        ·simpa using hcat 3 (by omega)
        ·simpa using hcat 4 (by omega)
      ·exact ⟨.mk 0 0 ⟨#[]⟩ [] [], fun h => absurd h hj⟩
     obtain ⟨T, hT⟩ := Classical.skolem.1 hT
     have hlm : ((List.range len).map T).length = len := by simp
     refine ⟨.mk k i s ((List.range len).map T) ns, ?_⟩
     have := LV.mk (w := W) (S := fun b => b < W.heap.size) (k := k) (i := i) (s := s) (l := (List.range len).map T) (ns := ns) (A := some a) (A' := A') (c := cap) (c' := c') (rng_of_wf w0) (rng_of_wf w1) hs (by rw [hlm]; exact hl) hn4 hns ?_
     ·rw [hlm] at this; exact this
     ·intro hp
      rw [hlm] at hp
      obtain ⟨b, off, spot⟩ := a
      obtain ⟨q0, q1, q2, q3, q4, h0, -⟩ := hT 0 hp
      obtain rfl : spot = none := by simpa [Addr.add] using World.cell?_spot h0
      refine ⟨b, off, rfl, ?_, LVs.intro fun j hj => ?_⟩
      ·rw [add_at] at h0; exact World.block_lt_of_cell? W _ h0
      ·rw [hlm] at hj
       obtain ⟨q0, q1, q2, q3, q4, h0, h1, h2, h3, h4, hv⟩ := hT j hj
       simp only [add_at] at h0 h1 h2 h3 h4
       exact ⟨q0, q1, q2, q3, q4, h0, h1, h2, h3, h4, by simpa using hv⟩
end
end Go.Proofs.YtlipkmdjpligeaaGreat

/- Five cells behind one another: a value that is stored in a variable. -/
namespace Go.Proofs.YtlipkmdjpligeaaGreat
set_option linter.unusedVariables false
set_option linter.unusedSimpArgs false
open Go.RowKit
def five (w : World) (p o : Nat) (c0 c1 c2 c3 c4 : Value) : World := ((((w.setCell ⟨p, o, none⟩ c0).setCell ⟨p, o + 1, none⟩ c1).setCell ⟨p, o + 2, none⟩ c2).setCell ⟨p, o + 3, none⟩ c3).setCell ⟨p, o + 4, none⟩ c4
theorem five_other (w : World) (p o : Nat) (c0 c1 c2 c3 c4 : Value) (b : Nat) (h : b ≠ p) : (five w p o c0 c1 c2 c3 c4).heap[b]? = w.heap[b]? := by
 unfold five
 rw [heap_setCell_other _ ⟨p, _, none⟩ b _ h, heap_setCell_other _ ⟨p, _, none⟩ b _ h, heap_setCell_other _ ⟨p, _, none⟩ b _ h, heap_setCell_other _ ⟨p, _, none⟩ b _ h, heap_setCell_other _ ⟨p, _, none⟩ b _ h]
theorem five_size (w : World) (p o : Nat) (c0 c1 c2 c3 c4 : Value) : (five w p o c0 c1 c2 c3 c4).heap.size = w.heap.size := by simp [five]
theorem five_rest (w : World) (p o : Nat) (c0 c1 c2 c3 c4 : Value) : (five w p o c0 c1 c2 c3 c4).os = w.os ∧ (five w p o c0 c1 c2 c3 c4).tape = w.tape ∧ (five w p o c0 c1 c2 c3 c4).output = w.output := by
 have h : ∀ (w : World) (a : Addr) (u : Value), (w.setCell a u).os = w.os ∧ (w.setCell a u).tape = w.tape ∧ (w.setCell a u).output = w.output := fun _ _ _ => ⟨rfl, rfl, rfl⟩
 unfold five
 refine ⟨?_, ?_, ?_⟩
 ·rw [(h _ _ _).1, (h _ _ _).1, (h _ _ _).1, (h _ _ _).1, (h _ _ _).1]
 ·rw [(h _ _ _).2.1, (h _ _ _).2.1, (h _ _ _).2.1, (h _ _ _).2.1, (h _ _ _).2.1]
 ·rw [(h _ _ _).2.2, (h _ _ _).2.2, (h _ _ _).2.2, (h _ _ _).2.2, (h _ _ _).2.2]
theorem five_box {w : World} {p : Nat} {a0 a1 a2 a3 a4 c0 c1 c2 c3 c4 : Value} (h : Box w p a0 a1 a2 a3 a4) : Box (five w p 0 c0 c1 c2 c3 c4) p c0 c1 c2 c3 c4 := by
 have h1 := (((h.set0 c0).set1 c1).set2 c2).set3 c3
 exact Go.Joins.block_setCell (i := 4) h1 c4
theorem results_cell_two {fn : Func} {p u : Tmp} (h : fn.results = #[.cell p 27, .tmp u]) (tmps : Array Value) (w : World) (g : Nat) (t : TypeId) (cs : Array Value) (fr : Nat × Nat)
  (hp : tmps.getD p undef = .pointer (some ⟨g, 0, none⟩)) (hg : w.heap[g]? = some (.cells cs t fr)) (hi : (Tryz.prog.info? 27).map (·.size) = some cs.size) :
  (results fn tmps).run Tryz.prog w = .ok (.tuple #[.agg cs, tmps.getD u undef]) w := by
 rw [results_cell_tmp h, hp]
 have e : (asAddr (.pointer (some ⟨g, 0, none⟩))).run Tryz.prog w = .ok ⟨g, 0, none⟩ w := by simp [asAddr]
 rw [e]
 simp only [Result.andThen]
 rw [run_loadVar_row w g t 27 cs fr _ hg Tryz.underlying27 rfl hi]
set_option maxRecDepth 100000

def PB (w : World) (bb D : Nat) : Prop := w.heap[bb]? = some (.cells #[.pointer (some ⟨D, 0, none⟩)] 215 (0, 0))

def KeepR (vb bb : Nat) (w w' : World) : Prop := w'.heap[vb]? = w.heap[vb]? ∧ w'.heap[bb]? = w.heap[bb]?
theorem KeepR.refl (vb bb : Nat) (w : World) : KeepR vb bb w w := ⟨rfl, rfl⟩
instance (vb bb : Nat) (w : World) : Inhabited (LaterR (KeepR vb bb) w) := ⟨⟨w, KeepR.refl vb bb w⟩⟩
open Lib (hid)
def KeepD (vb bb D : Nat) (w w' : World) : Prop := w'.heap[vb]? = w.heap[vb]? ∧ w'.heap[bb]? = w.heap[bb]? ∧ w'.heap[D]? = w.heap[D]?
theorem KeepD.refl (vb bb D : Nat) (w : World) : KeepD vb bb D w w := ⟨rfl, rfl, rfl⟩
instance (vb bb D : Nat) (w : World) : Inhabited (LaterR (KeepD vb bb D) w) := ⟨⟨w, KeepD.refl vb bb D w⟩⟩
def zeroT : VT := .mk 0 0 eS [] []
theorem zero_lv (w : World) (S : Nat → Prop) : LV w S zeroT (.agg #[.int .i64 0, .int .i64 0, .string eS, .slice none 0 0, .slice none 0 0]) :=
 LV.mk (by unfold Rng; omega) (by unfold Rng; omega) (by decide) (by simp) (by simp) (strs_nil _ _ _) (lva_nil _ _ _)
set_option maxHeartbeats 4000000 in
theorem rnone7_any (S : Nat → Prop) (t : VT) (v : Value) (w : World) (hS : ∀ b, S b → b < w.heap.size) (h : LV w S t v) :
  Calls Tryz.prog 47 #[v] w fun e w' => e = .returned (.bool (noneT t)) ∧ Below w.heap.size w w' := by
 obtain ⟨A, ca, A', ca', rfl, -, -, -, v1, hb⟩ := one_var hS h
 have q0 := v1.x.c0
 have q1 := v1.x.c1
 have q2 := v1.x.c2
 have q3 := v1.x.c3
 have q4 := v1.x.c4
 have HB := hid hb
 have HS := hid (rsame_any S (depthT t) t (.mk 0 0 ⟨#[]⟩ [] []) _ (.agg #[.int .i64 0, .int .i64 0, .string ⟨#[]⟩, .slice none 0 0, .slice none 0 0]) _ (Nat.le_refl _) v1.s v1.v (zero_lv _ _))
 clear h v1 hb
 go_enter Tryz.func47, Tryz.ntmps47
 go_wp2_with fail
 refine HS.out.mono ?_
 rintro e u ⟨⟨r, rfl, hr⟩, hb2⟩
 have HB2 := hid (HB.out.trans (hb2.mono HB.out.size))
 have HR := hid hr
 clear hb2 hr HS
 go_wp2_with fail
 go_ret
 refine ⟨?_, HB2.out⟩
 have e : r = noneT t := by rw [Bool.eq_iff_iff, HR.out, noneT_iff]
 rw [← e]
 rfl
def idxF : Nat → List UInt8 → Option Nat
 | n, [] => some n
 | n, b :: r => if b.toNat < 48 ∨ 57 < b.toNat then none else if 999 < 10 * n + (b.toNat - 48) then none else idxF (10 * n + (b.toNat - 48)) r
def idxP (l : List UInt8) : Option Nat := if l = [] ∨ (l.head? = some 48 ∧ l.length ≠ 1) then none else idxF 0 l

def IdxR (l : List UInt8) (w : World) (e : Ending) (w' : World) : Prop := (match idxP l with | some n => e = .returned (.tuple #[.int .i64 n, .bool true]) | none => e = .returned (.tuple #[.int .i64 0, .bool false])) ∧ Below w.heap.size w w'
theorem IdxR.none {l : List UInt8} {w w' : World} (h : idxP l = none) (hb : Below w.heap.size w w') : IdxR l w (.returned (.tuple #[.int .i64 0, .bool false])) w' := by unfold IdxR; rw [h]; exact ⟨rfl, hb⟩
theorem IdxR.some {l : List UInt8} {w w' : World} {n : Nat} {k : Int} (h : idxP l = some n) (hk : k = n) (hb : Below w.heap.size w w') : IdxR l w (.returned (.tuple #[.int .i64 k, .bool true])) w' := by unfold IdxR; rw [h, hk]; exact ⟨rfl, hb⟩

theorem below_iter (w : World) (s : ByteArray) (k : Nat) : Below w.heap.size w (w.iter s k) := (Below.refl _ _).alloc (Nat.le_refl _) _
theorem idxP_go {s : ByteArray} (h0 : 0 < s.size) (h : ¬ (s[0].toNat = 48 ∧ ¬ s.toList = [48])) : idxP s.data.toList = idxF 0 s.data.toList := by
 unfold idxP
 rw [if_neg]
 rintro (h1 | ⟨h1, h2⟩)
 ·have h2 := congrArg List.length h1
  have hl : s.data.toList.length = s.size := rfl
  rw [hl, List.length_nil] at h2; omega
 ·have e : s.data.toList[0]? = some s[0] := by rw [List.getElem?_eq_getElem (by exact h0)]; rfl
  rw [List.head?_eq_getElem?, e] at h1
  injection h1 with h1
  refine h ⟨by rw [h1]; rfl, fun h3 => h2 ?_⟩
  rw [ByteArray.toList_eq] at h3
  rw [h3]; rfl
theorem idxP_zero {s : ByteArray} (h0 : 0 < s.size) (h : s[0].toNat = 48) (h2 : ¬ s.toList = [48]) : idxP s.data.toList = none := by
 unfold idxP
 rw [if_pos]
 refine .inr ⟨?_, fun h3 => h2 ?_⟩
 ·have e : s.data.toList[0]? = some s[0] := by rw [List.getElem?_eq_getElem (by exact h0)]; rfl
  rw [List.head?_eq_getElem?, e]
  exact congrArg some (UInt8.toNat_inj.1 h)
 ·rw [ByteArray.toList_eq]
  have e : s.data.toList[0]? = some s[0] := by rw [List.getElem?_eq_getElem (by exact h0)]; rfl
  match hl : s.data.toList, h3 with
  | [b], _ =>
   rw [hl] at e
   injection e with e
   rw [e]
   exact congrArg (fun x => [x]) (UInt8.toNat_inj.1 h)
theorem idxF_bad {s : ByteArray} {k m : Nat} (h : k < s.size) (hb : s[k].toNat < 48 ∨ 57 < s[k].toNat) : idxF m (s.data.toList.drop k) = none := by
 rw [drop_cons s k h]; unfold idxF; rw [if_pos hb]
theorem idxF_large {s : ByteArray} {k m : Nat} (h : k < s.size) (hb : ¬ (s[k].toNat < 48 ∨ 57 < s[k].toNat)) (hl : 999 < 10 * m + (s[k].toNat - 48)) : idxF m (s.data.toList.drop k) = none := by
 rw [drop_cons s k h]; unfold idxF; rw [if_neg hb, if_pos hl]
theorem idxF_on {s : ByteArray} {k m : Nat} (h : k < s.size) (hb : ¬ (s[k].toNat < 48 ∨ 57 < s[k].toNat)) (hl : ¬ 999 < 10 * m + (s[k].toNat - 48)) : idxF m (s.data.toList.drop k) = idxF (10 * m + (s[k].toNat - 48)) (s.data.toList.drop (k + 1)) := by
 rw [drop_cons s k h]; conv => lhs; unfold idxF
 rw [if_neg hb, if_neg hl]

set_option maxHeartbeats 2000000 in
theorem index_any (s : ByteArray) (w : World) (hs : s.size ≤ 140737488351232) : Calls Tryz.prog 192 #[.string s] w (IdxR s.data.toList w) := by
 have HS := hid hs
 clear hs
 by_cases h0 : s.size = 0
 ·have e0 : s.toList = [] := toList_nil.2 h0
  have E0 := hid e0
  go_enter Tryz.func192, Tryz.ntmps192
  go_wp2_with fail
  go_ret2
  exact IdxR.none (by unfold idxP; rw [if_pos (.inl (by rw [← ByteArray.toList_eq]; exact E0.out))]) (Below.refl _ _)
 ·have e0 : s.toList.isEmpty = false := by
   rw [← Bool.not_eq_true, isEmpty_size]; exact h0
  have h1 : 0 < s.size := by omega
  have H1 := hid h1
  by_cases c1 : s[0].toNat = 48 ∧ ¬ s.toList = [48]
  ·have b1 : (s[0].toNat : Int) = 48 := by omega
   have b2 : (!s.toList == [48]) = true := by simpa using c1.2
   have C1 := hid c1
   clear c1
   go_enter Tryz.func192, Tryz.ntmps192
   go_wp2_with fail
   go_ret2
   exact IdxR.none (idxP_zero H1.out C1.out.1 C1.out.2) (Below.refl _ _)
  ·have HI := hid (idxP_go h1 c1)
   have c2 : ((s[0].toNat : Int) = 48 ∧ (!s.toList == [48]) = false) ∨ (((s[0].toNat : Int) == 48) = false ∧ ¬ (s[0].toNat : Int) = 48) := by
    by_cases c3 : s[0].toNat = 48
    ·refine .inl ⟨by omega, ?_⟩
     have c4 : s.toList = [48] := Classical.byContradiction fun h => c1 ⟨c3, h⟩
     simpa using c4
    ·exact .inr ⟨beq_eq_false_iff_ne.2 (by omega), by omega⟩
   clear c1
   rcases c2 with ⟨b1, b2⟩ | ⟨b1, b2⟩
   all_goals
    go_enter Tryz.func192, Tryz.ntmps192
    go_wp2_with fail
    go_loopw [4] (fun n wr => ∃ k m : Nat, n = .int .i64 m ∧ m ≤ 999 ∧ k ≤ s.size ∧ wr = w.iter s k ∧ Hid (idxF m (s.data.toList.drop k) = idxF 0 s.data.toList)) (fun _ wr => s.size - wr.iterPos w.heap.size)
    case atStart => exact ⟨0, 0, rfl, by omega, by omega, rfl, rfl⟩
    case round =>
     obtain ⟨k, m, rfl, hm, hk, rfl, HF⟩ := hrel
     by_cases hp : k < s.size
     ·by_cases h8 : s[k].toNat < 128
      ·have hd : (Utf8.decode s k) = (s[k].toNat, 1) := decode_ascii s k hp h8
       have hnx : ∀ ty, (Instr.next (.pointer (some ⟨w.heap.size, 0, none⟩)) true ty).run Tryz.prog (w.iter s k) = _ := fun ty => run_next_any w s k ty hp
       rw [hd] at hnx
       clear hd
       by_cases hb : s[k].toNat < 48 ∨ 57 < s[k].toNat
       ·have HB := hid hb
        by_cases hc : (s[k].toNat : Int) < 48
        ·clear hb
         go_wp2_with fail
         go_ret2
         exact IdxR.none (by rw [HI.out, ← HF.out, idxF_bad hp HB.out]) (below_iter _ _ _)
        ·have hc2 : (48 : Int) ≤ (s[k].toNat : Int) := by omega
         have hc3 : (57 : Int) < (s[k].toNat : Int) := by omega
         clear hb hc
         go_wp2_with fail
         go_ret2
         exact IdxR.none (by rw [HI.out, ← HF.out, idxF_bad hp HB.out]) (below_iter _ _ _)
       ·have HB := hid hb
        have b1 : (48 : Int) ≤ (s[k].toNat : Int) := by omega
        have b2 : (s[k].toNat : Int) ≤ 57 := by omega
        have m1 : (m : Int) ≤ 999 := by omega
        clear hb
        by_cases hl : 999 < 10 * m + (s[k].toNat - 48)
        ·have HL := hid hl
         have l1 : (999 : Int) < 10 * m + ((s[k].toNat : Int) - 48) := by omega
         clear hl
         go_wp2_with fail
         go_ret2
         exact IdxR.none (by rw [HI.out, ← HF.out, idxF_large hp HB.out HL.out]) (below_iter _ _ _)
        ·have HL := hid hl
         have l1 : 10 * (m : Int) + ((s[k].toNat : Int) - 48) ≤ 999 := by omega
         clear hl
         go_wp2_with fail
         go_roundw
         case rel => exact ⟨k + 1, 10 * m + (s[k].toNat - 48), by congr 1; omega, by have := HL.out; omega, by omega, rfl, (idxF_on hp HB.out HL.out).symm.trans HF.out⟩
         case measure => simp; omega
      ·have hd := decode_high s k hp (by omega)
       have hnx : ∀ ty, (Instr.next (.pointer (some ⟨w.heap.size, 0, none⟩)) true ty).run Tryz.prog (w.iter s k) = _ := fun ty => run_next_any w s k ty hp
       obtain ⟨r, hr⟩ : ∃ r, r = (Utf8.decode s k).1 := ⟨_, rfl⟩
       rw [← hr] at hnx hd
       have hd1 : (57 : Int) < (r : Int) := by omega
       have hd2 : (48 : Int) ≤ (r : Int) := by omega
       have HB : Hid (s[k].toNat < 48 ∨ 57 < s[k].toNat) := by show _ ∨ _; omega
       clear hr hd
       go_wp2_with fail
       go_ret2
       exact IdxR.none (by rw [HI.out, ← HF.out, idxF_bad hp HB.out]) (below_iter _ _ _)
     ·have hnx : ∀ ty, (Instr.next (.pointer (some ⟨w.heap.size, 0, none⟩)) true ty).run Tryz.prog (w.iter s k) = _ := fun ty => run_next_end w s k ty hp
      go_wp2_with fail
      go_ret2
      exact IdxR.some (by rw [HI.out, ← HF.out, List.drop_of_length_le (by show s.size ≤ k; omega)]; rfl) rfl (below_iter _ _ _)

/-! ### by the document -/
theorem idxF_long : ∀ (j n : Nat) (l : List UInt8), 10 ^ j ≤ n → 3 ≤ l.length + j → 0 < l.length → j ≤ 2 → idxF n l = none
 | j, n, [], _, _, h, _ => absurd h (by simp)
 | j, n, b :: r, hn, hl, _, hj => by
  unfold idxF
  split
  ·rfl
  ·split
   ·rfl
   ·next hb hv =>
    have hp : 0 < 10 ^ j := Nat.pow_pos (by omega)
    have e : (10 : Nat) ^ (j + 1) = 10 * 10 ^ j := by rw [Nat.pow_succ]; omega
    by_cases h2 : j = 2
    ·subst h2
     omega
    ·refine idxF_long (j + 1) _ r (by omega) (by simp at hl; omega) (by simp at hl; omega) (by omega)
theorem idxP_long {l : List UInt8} (h : 3 < l.length) : idxP l = none := by
 unfold idxP
 split
 ·rfl
 ·next hc =>
  match l, h with
  | b :: r, h =>
   unfold idxF
   split
   ·rfl
   ·split
    ·rfl
    ·next hb hv =>
     have h48 : b.toNat ≠ 48 := fun h3 => hc (.inr ⟨congrArg some (UInt8.toNat_inj.1 h3), by omega⟩)
     exact idxF_long 0 _ r (by simp; omega) (by simp at h; omega) (by simp at h; omega) (by omega)
def idxI (l : List UInt8) : Int := match idxP l with | some n => n | none => -1
theorem idxI_none {l : List UInt8} (h : idxP l = none) : idxI l = -1 := by unfold idxI; rw [h]
theorem idxI_some {l : List UInt8} {n : Nat} (h : idxP l = some n) : idxI l = n := by unfold idxI; rw [h]
theorem ret_i64' {a b : Int} (h : a = b) : Ending.returned (.int .i64 a) = .returned (.int .i64 b) := by rw [h]
theorem idxF_bound {k m : Nat} (h : m < 10 ^ k) (hk : k < 3) (d : Nat) (hd : d ≤ 9) : 10 * m + d < 10 ^ (k + 1) ∧ 10 * m + d ≤ 999 := by
 have e : (10 : Nat) ^ (k + 1) = 10 * 10 ^ k := by rw [Nat.pow_succ]; omega
 have h3 : (10 : Nat) ^ k ≤ 10 ^ 2 := Nat.pow_le_pow_right (by omega) (by omega)
 have : (10 : Nat) ^ 2 = 100 := by decide
 omega

set_option maxHeartbeats 2000000 in
theorem rindex_any (s : ByteArray) (w : World) (hs : s.size ≤ 140737488351232) : Calls Tryz.prog 136 #[.string s] w fun e w' => e = .returned (.int .i64 (idxI s.data.toList)) ∧ w = w' := by
 have HS := hid hs
 have hlen : s.data.toList.length = s.size := rfl
 have HL := hid hlen
 clear hs hlen
 by_cases h1 : s.size < 1
 ·have h1' : (s.size : Int) < 1 := by omega
  go_enter Tryz.func136, Tryz.ntmps136
  go_wp2_with fail
  go_ret
  exact ⟨ret_i64' (idxI_none (by unfold idxP; rw [if_pos (.inl (List.eq_nil_of_length_eq_zero (by have := HL.out; omega)))])).symm, rfl⟩
 ·by_cases h3 : 3 < s.size
  ·have h1' : (1 : Int) ≤ (s.size : Int) := by omega
   have h3' : (3 : Int) < (s.size : Int) := by omega
   have H3 := hid h3
   clear h1 h3
   go_enter Tryz.func136, Tryz.ntmps136
   go_wp2_with fail
   go_ret
   exact ⟨ret_i64' (idxI_none (idxP_long (by have := HL.out; have := H3.out; omega))).symm, rfl⟩
  ·have h0 : 0 < s.size := by omega
   have h1' : (1 : Int) ≤ (s.size : Int) := by omega
   have h3' : (s.size : Int) ≤ 3 := by omega
   have H3 := hid (show 0 < s.size ∧ s.size ≤ 3 from ⟨h0, by omega⟩)
   clear h1 h3
   by_cases c1 : s[0].toNat = 48 ∧ 1 < s.size
   ·have b1 : (s[0].toNat : Int) = 48 := by omega
    have b2 : (1 : Int) < (s.size : Int) := by omega
    have C1 := hid c1
    clear c1
    go_enter Tryz.func136, Tryz.ntmps136
    go_wp2_with fail
    go_ret
    exact ⟨ret_i64' (idxI_none (idxP_zero H3.out.1 C1.out.1 fun h => by
     have h4 := congrArg List.length h
     rw [ByteArray.toList_eq, HL.out, List.length_singleton] at h4
     have := C1.out.2; omega)).symm, rfl⟩
   ·have HI := hid (idxP_go h0 fun h => c1 ⟨h.1, Classical.byContradiction fun h4 => h.2 (by
     have h5 : s.data.toList.length = 1 := by have := HL.out; omega
     have e : s.data.toList[0]? = some s[0] := by rw [List.getElem?_eq_getElem (by exact h0)]; rfl
     rw [ByteArray.toList_eq]
     match hl : s.data.toList, h5 with
     | [b], _ =>
      rw [hl] at e
      injection e with e
      rw [e]
      exact congrArg (fun x => [x]) (UInt8.toNat_inj.1 h.1))⟩)
    have c2 : ((s[0].toNat : Int) = 48 ∧ (s.size : Int) ≤ 1) ∨ (((s[0].toNat : Int) == 48) = false ∧ ¬ (s[0].toNat : Int) = 48) := by
     by_cases c3 : s[0].toNat = 48
     ·exact .inl ⟨by omega, by omega⟩
     ·exact .inr ⟨beq_eq_false_iff_ne.2 (by omega), by omega⟩
    clear c1
    rcases c2 with ⟨b1, b2⟩ | ⟨b1, b2⟩
    all_goals
     go_enter Tryz.func136, Tryz.ntmps136
     go_wp2_with fail
     go_loopw [3, 4] (fun n i wr => ∃ k m : Nat, i = .int .i64 k ∧ n = .int .i64 m ∧ m ≤ 999 ∧ k ≤ s.size ∧ wr = w ∧ Hid (m < 10 ^ k ∧ idxF m (s.data.toList.drop k) = idxF 0 s.data.toList)) (fun _ i _ => s.size - (intOf i).toNat)
     case atStart => exact ⟨0, 0, rfl, rfl, by omega, by omega, rfl, by simp, rfl⟩
     case round =>
      obtain ⟨k, m, rfl, rfl, hm, hk, rfl, HF⟩ := hrel
      by_cases hp : k < s.size
      ·by_cases hb : s[k].toNat < 48 ∨ 57 < s[k].toNat
       ·have HB := hid hb
        by_cases hc : (s[k].toNat : Int) < 48
        ·clear hb
         go_wp2_with fail
         go_ret
         exact ⟨ret_i64' (idxI_none (by rw [HI.out, ← HF.out.2, idxF_bad hp HB.out])).symm, rfl⟩
        ·have hc2 : (48 : Int) ≤ (s[k].toNat : Int) := by omega
         have hc3 : (57 : Int) < (s[k].toNat : Int) := by omega
         clear hb hc
         go_wp2_with fail
         go_ret
         exact ⟨ret_i64' (idxI_none (by rw [HI.out, ← HF.out.2, idxF_bad hp HB.out])).symm, rfl⟩
       ·have HB := hid hb
        have hd := idxF_bound HF.out.1 (by omega) (s[k].toNat - 48) (by omega)
        have HD := hid hd
        have b1 : (48 : Int) ≤ (s[k].toNat : Int) := by omega
        have b2 : (s[k].toNat : Int) ≤ 57 := by omega
        have m1 : (m : Int) ≤ 999 := by omega
        clear hb hd
        go_wp2_with fail
        go_roundw
        case rel => exact ⟨k + 1, 10 * m + (s[k].toNat - 48), by go_num, by congr 1; omega, HD.out.2, by omega, trivial, HD.out.1, (idxF_on hp HB.out (by have := HD.out.2; omega)).symm.trans HF.out.2⟩
        case measure => simp [intOf]; omega
      ·go_wp2_with fail
       go_ret
       exact ⟨ret_i64' (idxI_some (by rw [HI.out, ← HF.out.2, List.drop_of_length_le (by show s.size ≤ k; omega)]; rfl)).symm, rfl⟩
def nmI (k : Nat) : List ByteArray → ByteArray → Int
 | [], _ => -1
 | a :: r, s => if a = s then k else nmI (k + 1) r s
def placeT (t : VT) (s : ByteArray) : Int :=
 if t.kind = 7 then nmI 0 t.names s else if t.kind = 6 then (if idxI s.data.toList < t.items.length then idxI s.data.toList else -1) else -1
def getT : VT → List ByteArray → Option VT
 | t, [] => some t
 | t, s :: r => if placeT t s < 0 then none else match t.items[(placeT t s).toNat]? with
  | some u => getT u r
  | none => none
theorem nmI_hit {s : ByteArray} : ∀ {l : List ByteArray} {j k : Nat} (h : j < l.length), l[j] = s → (∀ i (hi : i < l.length), i < j → l[i] ≠ s) → nmI k l s = ((k + j : Nat) : Int)
 | a :: r, 0, k, _, h1, _ => by
  unfold nmI
  rw [if_pos (by simpa using h1)]; simp
 | a :: r, j + 1, k, h, h1, h2 => by
  unfold nmI
  rw [if_neg (by have := h2 0 (by simp) (by omega); simpa using this)]
  have h' : j < r.length := by simpa using h
  rw [nmI_hit (k := k + 1) h' (by simpa using h1) (fun i hi hij => by have := h2 (i + 1) (by simp; omega) (by omega); simpa using this)]
  congr 1; omega
theorem nmI_miss {s : ByteArray} : ∀ {l : List ByteArray} {k : Nat}, (∀ i (hi : i < l.length), l[i] ≠ s) → nmI k l s = -1
 | [], _, _ => rfl
 | a :: r, k, h => by
  unfold nmI
  rw [if_neg (by have := h 0 (by simp); simpa using this)]
  exact nmI_miss fun i hi => by have := h (i + 1) (by simp; omega); simpa using this
theorem nmI_lt {s : ByteArray} : ∀ {l : List ByteArray} {k : Nat}, -1 ≤ nmI k l s ∧ nmI k l s < ((k + l.length : Nat) : Int)
 | [], k => by unfold nmI; constructor <;> simp <;> omega
 | a :: r, k => by
  unfold nmI
  split
  ·constructor <;> simp <;> omega
  ·have h := nmI_lt (s := s) (l := r) (k := k + 1)
   constructor
   ·exact h.1
   ·simp only [List.length_cons]; have := h.2; omega
theorem idxI_ge (l : List UInt8) : -1 ≤ idxI l := by
 unfold idxI
 split <;> omega
theorem placeT_ge (t : VT) (s : ByteArray) : -1 ≤ placeT t s := by
 unfold placeT
 split
 ·exact nmI_lt.1
 ·split
  ·split
   ·exact idxI_ge _
   ·omega
  ·omega
theorem placeT_lt {t : VT} {s : ByteArray} (hn : t.kind = 7 → t.names.length ≤ t.items.length) (h : 0 ≤ placeT t s) : (placeT t s).toNat < t.items.length := by
 unfold placeT at h ⊢
 split at h
 ·next hk =>
  rw [if_pos hk]
  have h1 := (nmI_lt (s := s) (l := t.names) (k := 0)).2
  have := hn hk
  omega
 ·next hk =>
  rw [if_neg hk]
  split at h
  ·next h6 =>
   rw [if_pos h6]
   split at h
   ·next hl => rw [if_pos hl]; omega
   ·omega
  ·omega

set_option maxHeartbeats 1000000 in
set_option maxRecDepth 100000 in
theorem slindex_any (A : Option Addr) (c : Nat) (ns : List ByteArray) (s : ByteArray) (w : World) (S : Nat → Prop) (h : StrsAt w S A ns) (hn : ns.length ≤ 140737488351232) : Calls Tryz.prog 164 #[.slice A ns.length c, .string s] w fun e w' => e = .returned (.int .i64 (nmI 0 ns s)) ∧ w = w' := by
 have HS := hid h
 have HN := hid hn
 clear h
 go_enter Tryz.func164, Tryz.ntmps164
 go_wp2_with fail
 go_loopw [8] (fun i wr => ∃ k : Nat, i = .int .i64 k ∧ k ≤ ns.length ∧ wr = w ∧ Hid (∀ j (h : j < ns.length), j < k → ns[j] ≠ s)) (fun i _ => ns.length - (intOf i).toNat)
 case atStart => exact ⟨0, rfl, by omega, rfl, fun j _ h => absurd h (by omega)⟩
 case round =>
  obtain ⟨k, rfl, hk, rfl, HJ⟩ := hrel
  by_cases hlt : k < ns.length
  ·obtain ⟨p, o, rfl, -, hc⟩ := HS.out (by omega)
   have hck := (hc k hlt).1
   clear hc
   by_cases hb : s = ns[k]
   ·have hb2 : (s.toList == ns[k].toList) = true := by rw [str_beq]; exact decide_eq_true hb
    have HB := hid hb
    clear hb
    go_wp2_with fail
    go_ret
    refine ⟨?_, rfl⟩
    rw [nmI_hit (k := 0) hlt HB.out.symm (fun i hi hij => HJ.out i hi hij)]
    simp
   ·have hb2 : (s.toList == ns[k].toList) = false := by rw [str_beq]; exact decide_eq_false hb
    have HB := hid hb
    clear hb
    go_wp2_with fail
    go_roundw
    case rel => exact ⟨k + 1, by go_num, by omega, trivial, fun j h hjk => by
     by_cases e : j = k
     ·subst e; exact fun h => HB.out h.symm
     ·exact HJ.out j h (by omega)⟩
    case measure => simp [intOf]; omega
  ·go_wp2_with fail
   go_ret
   exact ⟨by rw [nmI_miss fun j h => HJ.out j h (by omega)]; rfl, rfl⟩

structure AtV (w : World) (S : Nat → Prop) (t : VT) (g o : Nat) (A : Option Addr) (c : Nat) (A' : Option Addr) (c' : Nat) : Prop where
 c0 : w.cell? ⟨g, o, none⟩ = some (.int .i64 t.kind)
 c1 : w.cell? ⟨g, o + 1, none⟩ = some (.int .i64 t.num)
 c2 : w.cell? ⟨g, o + 2, none⟩ = some (.string t.text)
 c3 : w.cell? ⟨g, o + 3, none⟩ = some (.slice A t.items.length c)
 c4 : w.cell? ⟨g, o + 4, none⟩ = some (.slice A' t.names.length c')
 v : LV w S t (.agg #[.int .i64 t.kind, .int .i64 t.num, .string t.text, .slice A t.items.length c, .slice A' t.names.length c'])
theorem AtV.of_box {w : World} {S : Nat → Prop} {t : VT} {g : Nat} {A : Option Addr} {c : Nat} {A' : Option Addr} {c' : Nat} (h : Box w g (.int .i64 t.kind) (.int .i64 t.num) (.string t.text) (.slice A t.items.length c) (.slice A' t.names.length c'))
  (hv : LV w S t (.agg #[.int .i64 t.kind, .int .i64 t.num, .string t.text, .slice A t.items.length c, .slice A' t.names.length c'])) : AtV w S t g 0 A c A' c' := ⟨h.c0, h.c1, h.c2, h.c3, h.c4, hv⟩
theorem AtV.keep {w w' : World} {S : Nat → Prop} {t : VT} {g o : Nat} {A : Option Addr} {c : Nat} {A' : Option Addr} {c' : Nat} (h : AtV w S t g o A c A' c') (hg : w'.heap[g]? = w.heap[g]?) (hS : ∀ b, S b → w'.heap[b]? = w.heap[b]?) : AtV w' S t g o A c A' c' :=
 ⟨(World.cell?_of_block (a := ⟨g, o, none⟩) hg).trans h.c0, (World.cell?_of_block (a := ⟨g, o + 1, none⟩) hg).trans h.c1, (World.cell?_of_block (a := ⟨g, o + 2, none⟩) hg).trans h.c2, (World.cell?_of_block (a := ⟨g, o + 3, none⟩) hg).trans h.c3, (World.cell?_of_block (a := ⟨g, o + 4, none⟩) hg).trans h.c4, h.v.keep hS⟩
theorem AtV.item {w : World} {S : Nat → Prop} {t : VT} {g o : Nat} {A : Option Addr} {c : Nat} {A' : Option Addr} {c' : Nat} (h : AtV w S t g o A c A' c') {j : Nat} (hj : j < t.items.length) :
  ∃ G off A2 c2 A3 c3, A = some ⟨G, off, none⟩ ∧ S G ∧ AtV w S t.items[j] G (off + j * 5) A2 c2 A3 c3 := by
 obtain ⟨A0, c0, A0', c0', hag, -, -, -, -, -, -, hla⟩ := h.v.shape
 injection hag with hag; injection hag with hag
 injection hag with y0 hag; injection hag with y1 hag; injection hag with y2 hag; injection hag with y3 hag
 injection y3 with y3
 subst y3
 obtain ⟨G, off, hA, hG, hls⟩ := hla (by omega)
 obtain ⟨x0, x1, x2, x3, x4, h0, h1, h2, h3, h4, hx⟩ := hls.at j hj
 obtain ⟨A2, e2, A3, e3, hag2, -⟩ := hx.shape
 injection hag2 with hag2; injection hag2 with hag2
 injection hag2 with z0 hag2; injection hag2 with z1 hag2; injection hag2 with z2 hag2; injection hag2 with z3 hag2; injection hag2 with z4 hag2
 subst z0 z1 z2 z3 z4
 exact ⟨G, off, A2, e2, A3, e3, hA, hG, h0, h1, h2, h3, h4, hx⟩
theorem AtV.names {w : World} {S : Nat → Prop} {t : VT} {g o : Nat} {A : Option Addr} {c : Nat} {A' : Option Addr} {c' : Nat} (h : AtV w S t g o A c A' c') : StrsAt w S A' t.names ∧ t.names.length ≤ 140737488351232 ∧ t.items.length ≤ 140737488351232 := by
 obtain ⟨A0, c0, A0', c0', hag, -, -, -, hl1, hl2, hst, -⟩ := h.v.shape
 injection hag with hag; injection hag with hag
 injection hag with y0 hag; injection hag with y1 hag; injection hag with y2 hag; injection hag with y3 hag; injection hag with y4 hag
 injection y4 with y4
 subst y4
 exact ⟨hst, hl2, hl1⟩
theorem placeT_doc {t : VT} {s : ByteArray} (h : t.kind = 7) : placeT t s = nmI 0 t.names s := by unfold placeT; rw [if_pos h]
theorem placeT_arr {t : VT} {s : ByteArray} (h : t.kind = 6) : placeT t s = if idxI s.data.toList < t.items.length then idxI s.data.toList else -1 := by unfold placeT; rw [if_neg (by omega), if_pos h]
theorem placeT_else {t : VT} {s : ByteArray} (h7 : t.kind ≠ 7) (h6 : t.kind ≠ 6) : placeT t s = -1 := by unfold placeT; rw [if_neg h7, if_neg h6]
set_option maxHeartbeats 1000000 in
set_option maxRecDepth 100000 in
theorem find_any (S : Nat → Prop) (t : VT) (g o : Nat) (A : Option Addr) (c : Nat) (A' : Option Addr) (c' : Nat) (s : ByteArray) (w : World) (h : AtV w S t g o A c A' c') (hg : g < w.heap.size) (hs : s.size ≤ 140737488351232) :
  Calls Tryz.prog 168 #[.pointer (some ⟨g, o, none⟩), .string s] w fun e w' => e = .returned (.int .i64 (placeT t s)) ∧ Below w.heap.size w w' := by
 have H := hid h
 have c0 := h.c0
 have c4 := h.c4
 clear h
 obtain ⟨R, hR⟩ : ∃ R, R = placeT t s := ⟨_, rfl⟩
 rw [← hR]
 obtain ⟨k, hk⟩ : ∃ k, k = t.kind := ⟨_, rfl⟩
 rw [← hk] at c0
 have HP := hid hR
 have HK := hid hk
 clear hk hR
 go_enter Tryz.func168, Tryz.ntmps168
 by_cases h7 : k = 7
 ·subst h7
  go_wp2_with fail
  refine (slindex_any A' c' t.names s w S H.out.names.1 H.out.names.2.1).mono ?_
  rintro e w1 ⟨rfl, rfl⟩
  go_wp2_with fail
  go_ret
  exact ⟨by rw [HP.out, placeT_doc HK.out.symm]; rfl, Below.refl _ _⟩
 have b7 := beq_false_of_ne h7
 by_cases h6 : k = 6
 ·subst h6
  go_wp2_with fail
  refine (index_any s w hs).mono ?_
  rintro e w1 hi
  unfold IdxR at hi
  cases hix : idxP s.data.toList with
  | none =>
   rw [hix] at hi
   obtain ⟨rfl, hb⟩ := hi
   have HB := hid hb
   have hI := idxI_none hix
   go_wp2_with fail
   go_ret
   refine ⟨?_, HB.out⟩
   rw [HP.out, placeT_arr HK.out.symm, hI, if_pos (by omega)]; rfl
  | some n =>
   rw [hix] at hi
   obtain ⟨rfl, hb⟩ := hi
   have HB := hid hb
   have hI := idxI_some hix
   have c3 : w1.cell? ⟨g, o + 3, none⟩ = some (.slice A t.items.length c) := (World.cell?_of_block (a := ⟨g, o + 3, none⟩) (hb.block g hg)).trans H.out.c3
   by_cases hlt : (n : Int) < (t.items.length : Int)
   ·have hlt2 : decide ((n : Int) < (t.items.length : Int)) = true := decide_eq_true hlt
    go_wp2_with fail
    go_ret
    refine ⟨?_, HB.out⟩
    rw [HP.out, placeT_arr HK.out.symm, hI, if_pos hlt]; rfl
   ·have hlt2 : decide ((n : Int) < (t.items.length : Int)) = false := decide_eq_false hlt
    go_wp2_with fail
    go_ret
    refine ⟨?_, HB.out⟩
    rw [HP.out, placeT_arr HK.out.symm, hI, if_neg (by omega)]; rfl
 have b6 := beq_false_of_ne h6
 go_wp2_with fail
 go_ret
 exact ⟨by rw [HP.out, placeT_else (fun h => h7 (HK.out.trans h)) (fun h => h6 (HK.out.trans h))]; rfl, Below.refl _ _⟩
def tailA (A : Option Addr) (c : Nat) : Option Addr := if c = 1 then A else A.map (·.add 1)
theorem StrsAt.tail {w : World} {S : Nat → Prop} {A : Option Addr} {c : Nat} {s : ByteArray} {r : List ByteArray} (h : StrsAt w S A (s :: r)) (hc : r = [] ∨ 1 < c) : StrsAt w S (tailA A c) r := by
 intro hp
 obtain ⟨b, off, rfl, hb, hx⟩ := h (by simp)
 have hc1 : c ≠ 1 := by
  rcases hc with h | h
  ·rw [h] at hp; simp at hp
  ·omega
 unfold tailA
 rw [if_neg hc1]
 refine ⟨b, off + 1, by simp [add_at], hb, fun i hi => ?_⟩
 have := hx (i + 1) (by simp; omega)
 rw [show off + (i + 1) = off + 1 + i by omega] at this
 simpa using this
set_option maxHeartbeats 2000000 in
set_option maxRecDepth 100000 in
theorem along_any (f : Nat) (caps : Array Value) (R : Ending → World → Prop) (I : World → VT → Nat → Nat → Option Addr → Nat → List ByteArray → Prop) (hcf0 : Enters f)
  (hRv : ∀ e w, R e w → ∃ v, e = .returned v)
  (hat : ∀ w t g o A c p, I w t g o A c p → ∃ S B k B' k', AtV w S t g o B k B' k' ∧ g < w.heap.size ∧ (t.kind = 7 → t.names.length ≤ t.items.length))
  (hstr : ∀ w t g o A c p, I w t g o A c p → ∃ S, StrsAt w S A p ∧ p.length ≤ c ∧ c ≤ 9223372036854775807 ∧ p ≠ [] ∧ (∀ s ∈ p, s.size ≤ 140737488351232))
  (hkeep : ∀ w w' t g o A c p, I w t g o A c p → Below w.heap.size w w' → I w' t g o A c p)
  (hdown : ∀ w t g o A c s r G off B k B' k' S (hj : (placeT t s).toNat < t.items.length), I w t g o A c (s :: r) → r ≠ [] → 0 ≤ placeT t s → AtV w S t g o B k B' k' → B = some ⟨G, off, none⟩ → I w (t.items[(placeT t s).toNat]) G (off + (placeT t s).toNat * 5) (tailA A c) (c - 1) r)
  (hfin : ∀ w t g o A c s r, I w t g o A c (s :: r) → (placeT t s < 0 ∨ r = []) → Calls Tryz.prog f (#[.agg #[.pointer (some ⟨g, o, none⟩), .int .i64 (placeT t s), .slice A (r.length + 1) c]] ++ caps) w R) :
  ∀ (p : List ByteArray) (t : VT) (g o : Nat) (A : Option Addr) (c : Nat) (w : World), I w t g o A c p → Calls Tryz.prog 131 #[.pointer (some ⟨g, o, none⟩), .slice A p.length c, .func (.func f) #[] caps] w R := by
 intro p
 induction p with
 | nil => intro t g o A c w h; obtain ⟨S, -, -, -, h1, -⟩ := hstr _ _ _ _ _ _ _ h; exact absurd rfl h1
 | cons s r ih =>
  intro t g o A c w h
  have hcf : ∀ (args : Array Value) (W : World), (callFunc f args).run Tryz.prog W = .ok (.enter f args) W := hcf0
  obtain ⟨S, B, k, B', k', hv, hg, hkn⟩ := hat _ _ _ _ _ _ _ h
  obtain ⟨S', hst, hpc, hc63, -, hsz⟩ := hstr _ _ _ _ _ _ _ h
  obtain ⟨b, off, rfl, hb, hx⟩ := hst (by simp)
  have hs0 := (hx 0 (by simp)).1
  have hss := hsz s (List.mem_cons_self ..)
  simp only [List.getElem_cons_zero, Nat.add_zero] at hs0
  have H := hid h
  have HF := hid (find_any S t g o B k B' k' s w hv hg hss)
  have HIH := hid ih
  have HFIN := hid hfin
  have HDOWN := hid hdown
  have HKEEP := hid hkeep
  have HAT := hid hat
  have HKN := hid hkn
  have hpc' : r.length + 1 ≤ c := by simpa using hpc
  clear h hst hx hv ih hfin hdown hkeep hat hstr hcf0 hkn
  simp only [List.length_cons] at *
  go_enter Tryz.func131, Tryz.ntmps131
  go_wp2_with fail
  refine HF.out.mono ?_
  rintro e w1 ⟨rfl, hb1⟩
  have H1 := hid (HKEEP.out _ _ _ _ _ _ _ _ H.out hb1)
  obtain ⟨P, hP⟩ : ∃ P, P = placeT t s := ⟨_, rfl⟩
  have hge : -1 ≤ P := by rw [hP]; exact placeT_ge t s
  rw [← hP]
  have HP := hid hP
  clear hb1 hP HF hs0 H
  by_cases hneg : P < 0
  ·have hneg2 : decide (P < 0) = true := decide_eq_true hneg
   go_wp2_with fail
   have hfin := HFIN.out _ _ _ _ _ _ _ _ H1.out (.inl (by rw [← HP.out]; exact hneg))
   rw [← HP.out] at hfin
   refine hfin.mono ?_
   rintro e w2 hr
   obtain ⟨v, rfl⟩ := hRv _ _ hr
   have HR := hid hr
   clear hr hfin
   go_wp2_with fail
   exact HR.out
  have hneg2 : decide (P < 0) = false := decide_eq_false hneg
  by_cases hr0 : r = []
  ·subst hr0
   simp only [List.length_nil, Nat.zero_add] at *
   go_wp2_with fail
   have hfin := HFIN.out _ _ _ _ _ _ _ _ H1.out (.inr rfl)
   rw [← HP.out] at hfin
   refine hfin.mono ?_
   rintro e w2 hr
   obtain ⟨v, rfl⟩ := hRv _ _ hr
   have HR := hid hr
   clear hr hfin
   go_wp2_with fail
   exact HR.out
  have hrl : 0 < r.length := by cases r with | nil => exact absurd rfl hr0 | cons a b => simp
  have hr1 : (((r.length + 1 : Nat) : Int) == 1) = false := beq_false_of_ne (by omega)
  obtain ⟨S1, B1, k1, B1', k1', hv1, hg1, hkn1⟩ := HAT.out _ _ _ _ _ _ _ H1.out
  have hPn : 0 ≤ placeT t s := by rw [← HP.out]; omega
  have hPl : (placeT t s).toNat < t.items.length := placeT_lt HKN.out hPn
  obtain ⟨G, off1, A2, c2, A3, c3, hB1, hG, hitem⟩ := hv1.item hPl
  subst hB1
  have hI := HDOWN.out _ _ _ _ _ _ _ _ _ _ _ _ _ _ _ hPl H1.out hr0 hPn hv1 rfl
  rw [← HP.out] at hPl
  have hcell := hv1.c3
  have hlen := hv1.names.2.2
  have HI := hid hI
  obtain ⟨j, rfl⟩ : ∃ j : Nat, P = j := ⟨P.toNat, by omega⟩
  simp only [Int.toNat_natCast] at hPl
  clear hI hv1 hkn1 hitem
  go_wp2_with fail
  refine wp_region_OT Always (fun _ => trivial) (fun _ _ _ _ _ => trivial) [9] (.free [0, 1, 2, 4, 6, 7, 8] (.step 3 (.free [5] (.step 9 (.free [10] (.tail [])))))) (by kernel_rfl) (by kernel_rfl) (fun _ d _ _ _ h => by cases d <;> exact h) ?_
  refine ot_free ?_
  simp only [atR]
  show wpQuiet _ _ _ _ [_, _, _, _, _, _, _] _
  try simp only [acR, Act.put]
  repeat (go_big_quiet_step (fail))
  refine wpQuiet_nil ?_
  have hcd : w1.drew.cell? ⟨g, o + 3, none⟩ = some (.slice (some ⟨G, off1, none⟩) t.items.length k1) := hcell
  refine ot_step rfl (fun K hK => ?_)
  go_simp
  refine hK _ _ (.inr trivial) ?_
  clear hK K hcd hcell
  refine ot_free ?_
  simp only [atR]
  show wpQuiet _ _ _ _ [_] _
  try simp only [acR, Act.put]
  repeat (go_big_quiet_step (fail))
  refine wpQuiet_nil ?_
  refine ot_step rfl (fun K hK => ?_)
  go_simp
  have hj : (placeT t s).toNat = j := by rw [← HP.out]; simp
  have ht : tailA (some ⟨b, off, none⟩) c = some ⟨b, off + 1, none⟩ := by
   unfold tailA
   rw [if_neg (by omega)]
   simp [add_at]
  have hI := HI.out
  simp only [hj] at hI
  rw [ht] at hI
  refine (HIH.out _ _ _ _ _ _ (HKEEP.out _ w1.drew _ _ _ _ _ _ hI ((Below.refl _ _).drew))).mono ?_
  rintro e w2 hr
  obtain ⟨v, rfl⟩ := hRv _ _ hr
  have HR := hid hr
  refine hK _ _ (.inl (by decide)) ?_
  clear hK K hr hI
  refine ot_free ?_
  simp only [atR]
  show wpQuiet _ _ _ _ [_] _
  try simp only [acR, Act.put]
  repeat (go_big_quiet_step (fail))
  refine wpQuiet_nil ?_
  refine ot_end ?_
  go_wp2_with fail
  exact HR.out
def docB (t : VT) : Bool := decide (t.kind = 7) && mayT t
def wrongT (t : VT) (p : List ByteArray) : Int := if docB t = false then 20 else if mayP p = false then 40 else 0
set_option maxHeartbeats 1000000 in
set_option maxRecDepth 100000 in
theorem tcheck_any (S : Nat → Prop) (t : VT) (v : Value) (A : Option Addr) (c : Nat) (p : List ByteArray) (w : World) (hS : ∀ b, S b → b < w.heap.size) (h : LV w S t v) (hd : depthT t ≤ 4611686018427387903) (hp : StrsAt w S A p) (hn : p.length ≤ 140737488351232) :
  Calls Tryz.prog 130 #[v, .slice A p.length c] w fun e w' => e = .returned (.int .i64 (wrongT t p)) ∧ Below w.heap.size w w' := by
 obtain ⟨A0, c0, A0', c0', rfl, -, -, -, v1, hb0⟩ := one_var hS h
 have P := hid v1
 have HB := hid hb0
 have HPS := hid hp
 have HW : Hid (wrongT t p = if docB t = false then 20 else if mayP p = false then 40 else 0) := hid rfl
 have HDB : Hid (docB t = (decide (t.kind = 7) && mayT t)) := hid rfl
 obtain ⟨W, hW⟩ : ∃ W, W = wrongT t p := ⟨_, rfl⟩
 rw [← hW] at HW ⊢
 obtain ⟨k, hk⟩ : ∃ k, k = t.kind := ⟨_, rfl⟩
 have q0 := v1.x.c0
 rw [← hk] at q0 HDB
 have HK := hid hk
 clear h v1 hb0 hp hW hk
 go_enter Tryz.func130, Tryz.ntmps130
 have hk' := HK.out
 rw [← hk']
 clear hk'
 by_cases h7 : k = 7
 rotate_left
 ·have h8 : (k != 7) = true := by simp [h7]
  have hw : W = 20 := by rw [HW.out, HDB.out, decide_eq_false h7]; simp
  have HWW := hid hw
  clear hw
  have hb1 := HB.out
  rw [← HK.out] at hb1
  go_wp2_with fail
  go_ret
  exact ⟨by rw [HWW.out]; rfl, hb1⟩
 subst h7
 have hv1 := P.out.v
 have hs1 := P.out.s
 have hb1 := HB.out
 have hx1 := P.out.x
 rw [← HK.out] at hv1 hs1 hb1 hx1
 have q1 := hx1.c1
 have q2 := hx1.c2
 have q3 := hx1.c3
 have q4 := hx1.c4
 have HM := hid (may_any S t _ _ hs1 hv1 hd)
 have HB1 := hid hb1
 clear hv1 hs1 hb1 hx1
 go_wp2_with fail
 refine HM.out.mono ?_
 rintro e w2 ⟨rfl, hb2⟩
 have hB2 := toStart HB1.out hb2
 have HB2 := hid hB2
 have HPP := hid (pmay_any A c p w2 S (HPS.out.keep fun b hb => hB2.block b (hS b hb)) hn)
 clear hb2 hB2 HM q0 q1 q2 q3 q4
 cases hm : mayT t with
 | false =>
  have hw : W = 20 := by rw [HW.out, HDB.out, hm]; simp
  have HWW := hid hw
  clear hw
  go_wp2_with fail
  go_ret
  exact ⟨by rw [HWW.out]; rfl, HB2.out⟩
 | true =>
  have hdb : docB t = true := by rw [HDB.out, hm]; simp
  have HD := hid hdb
  clear hdb
  go_wp2_with fail
  refine HPP.out.mono ?_
  rintro e w3 ⟨rfl, rfl⟩
  cases hp : mayP p with
  | false =>
   have hw : W = 40 := by rw [HW.out, HD.out, hp]; simp
   have HWW := hid hw
   clear hw
   go_wp2_with fail
   go_ret
   exact ⟨by rw [HWW.out]; rfl, HB2.out⟩
  | true =>
   have hw : W = 0 := by rw [HW.out, HD.out, hp]; simp
   have HWW := hid hw
   clear hw
   go_wp2_with fail
   go_ret
   exact ⟨by rw [HWW.out]; rfl, HB2.out⟩
end Go.Proofs.YtlipkmdjpligeaaGreat
