/- Changes that came in. -/
import Derived.Test.YtlipkmdjpligeaaGreatKTrD
import Derived.Test.YtlipkmdjpligeaaGreatKOpenS
import Derived.Test.YtlipkmdjpligeaaGreatKEnA
import Derived.Laws.Rows
namespace Go.Proofs.YtlipkmdjpligeaaGreat
set_option linter.unusedVariables false
set_option linter.unusedSimpArgs false
open Go.ChangeShapes Go.WideShapes Go.RowKit Go.Joins Go.Deep
set_option linter.unusedVariables false
set_option maxRecDepth 100000
theorem cellsDlt : Tryz.prog.cellsOf 65 = 8 := by kernel_rfl
theorem cellsDeltas : Tryz.prog.cellsOf 28 = 1 := by kernel_rfl
theorem bytesDlt : Tryz.prog.bytesOf 65 = 120 := by kernel_rfl
theorem addr_add6 (b o j : Nat) : (Addr.add ⟨b, o, none⟩ j : Addr) = ⟨b, o + j, none⟩ := by cases j <;> simp [Addr.add]
theorem fieldsDlt : ∃ f0 f1 f2 f3 : Field, Tryz.prog.underlying 65 = some (.struct #[f0, f1, f2, f3]) ∧ f0.type = 3 ∧ f1.type = 22 ∧ f2.type = 27 ∧ f3.type = 3 ∧ f0.offset = 0 ∧ f1.offset = 1 ∧ f2.offset = 2 ∧ f3.offset = 7 :=
 ⟨_, _, _, _, Tryz.underlying65, rfl, rfl, rfl, rfl, rfl, rfl, rfl, rfl⟩
def CapsD (w : World) (A : Option Addr) (l : List DelT) : Prop := ∀ k, k < l.length → ∀ b off, A = some ⟨b, off, none⟩ → ∀ PA n pc, w.cell? ⟨b, off + k * 8 + 1, none⟩ = some (.slice PA n pc) → pc ≤ 9223372036854775807
section
variable {H : Type} {enc : TypeId × Value → H} {W : World} {sp : Nat → Bool}
theorem open_names6 {fuel : Nat} {cs : List Value} {x : DataW H × List MemPlace} (h : DataW.trod enc Tryz.prog W 0 sp true fuel 22 cs = some x) (hw : ∀ n ∈ x.1.weights Tryz.prog 22, n ≤ reachBytes) :
  ∃ A c, ∃ ns : List ByteArray, cs = [.slice A ns.length c] ∧ ns.length ≤ c ∧ (A = none → c = 0) ∧ c ≤ 9223372036854775807 ∧ ns.length ≤ 8796093021952 ∧ StrsAt W (fun b => b < W.heap.size) A ns := by
 obtain ⟨A, c, ns, hcs, h1, h2, h3, h4⟩ := open_names2 h hw
 refine ⟨A, c, ns, hcs, h1, h2, ?_, h3, h4⟩
 rcases open_strings Tryz.underlying22 Tryz.underlying9 cellsStr h with ⟨h0, _⟩ | ⟨a, len, cap, ss, h0, -, hl, hm, -⟩
 ·rw [hcs] at h0
  injection h0 with h0
  injection h0 with e1 e2 e3
  omega
 ·rw [hcs] at h0
  injection h0 with h0
  injection h0 with e1 e2 e3
  unfold maxLen at hm
  omega
theorem open_del {fuel : Nat} {cs : List Value} {x : DataW H × List MemPlace} (h : DataW.trod enc Tryz.prog W 0 sp true fuel 65 cs = some x) (hw : ∀ n ∈ x.1.weights Tryz.prog 65, n ≤ reachBytes) :
  ∃ d : DelT, DelL W (fun b => b < W.heap.size) d cs.toArray ∧ ∀ PA n pc, cs.toArray[1]? = some (.slice PA n pc) → pc ≤ 9223372036854775807 := by
 obtain ⟨f0, f1, f2, f3, hu, t0, t1, t2, t3, o0, o1, o2, o3⟩ := fieldsDlt
 obtain ⟨xs, n, hfu, hx, hlen, hxl, hg⟩ := DataW.trod_struct hu h
 rw [cellsDlt] at hlen
 match cs, hlen with
 | [c0, c1, c2, c3, c4, c5, c6, c7], _ =>
  match xs, hxl with
  | [y0, y1, y2, y3], _ =>
   have g0 := hg 0 f0 rfl
   have g1 := hg 1 f1 rfl
   have g2 := hg 2 f2 rfl
   have g3 := hg 3 f3 rfl
   rw [t0, o0, cellsI] at g0
   rw [t1, o1, cellsStrs] at g1
   rw [t2, o2, cellsVal] at g2
   rw [t3, o3, cellsI] at g3
   have hws := hw
   rw [hx] at hws
   simp only [DataW.weights, hu, List.map_cons, List.map_nil, t0, t1, t2, t3] at hws
   obtain ⟨k, e0, -, w0⟩ := DataW.trod_int Tryz.underlying3 g0
   obtain ⟨m, e3, -, w3⟩ := DataW.trod_int Tryz.underlying3 g3
   simp at e0 e3
   subst e0 e3
   have hw1 : ∀ n ∈ y1.1.weights Tryz.prog 22, n ≤ reachBytes := fun n hn => hws n (by rw [DataW.weightsEach, DataW.weightsEach]; exact List.mem_append_right _ (List.mem_append_left _ hn))
   have hw2 : ∀ n ∈ y2.1.weights Tryz.prog 27, n ≤ reachBytes := fun n hn => hws n (by rw [DataW.weightsEach, DataW.weightsEach, DataW.weightsEach]; exact List.mem_append_right _ (List.mem_append_right _ (List.mem_append_left _ hn)))
   obtain ⟨PA, pc, ps, e1, hpc, hpo, h63, hpn, hps⟩ := open_names6 g1 hw1
   obtain ⟨t, ht⟩ := open_val _ _ _ g2 hw2
   simp at e1
   subst e1
   obtain ⟨VA, vc, VA', vc', hvs, -⟩ := ht.shape
   simp at hvs
   obtain ⟨rfl, rfl, rfl, rfl, rfl⟩ := hvs
   refine ⟨⟨k, ps, t, m⟩, ⟨PA, pc, VA, vc, VA', vc', rfl, ht, hps, hpc, hpo, in64_of_wf w0, in64_of_wf w3, hpn⟩, fun PA' n' pc' e => ?_⟩
   injection e with e
   injection e with _ _ e
   omega
theorem open_dels {fuel : Nat} {cs : List Value} {x : DataW H × List MemPlace} (h : DataW.trod enc Tryz.prog W 0 sp true fuel 28 cs = some x) (hw : ∀ n ∈ x.1.weights Tryz.prog 28, n ≤ reachBytes) :
  ∃ A c, ∃ os : List DelT, cs = [.slice A os.length c] ∧ (A = none → c = 0 ∧ os = []) ∧ os.length ≤ c ∧ os.length ≤ 1172812402961 ∧ DelsL W (fun b => b < W.heap.size) A os ∧ CapsD W A os := by
 rcases DataW.trod_slice Tryz.underlying28 h with ⟨e3, -⟩ | ⟨a, len, cap, elems, rest, m, hm, e3, x3, -, hlc, -, hel, hat, -, -⟩
 ·exact ⟨none, 0, [], e3, fun _ => ⟨rfl, rfl⟩, by simp, by simp, fun h => absurd h (by simp), fun k h => absurd h (by simp)⟩
 ·have hws := hw
  rw [x3] at hws
  simp only [DataW.weights, Tryz.underlying28] at hws
  have hl : len ≤ 1172812402961 := by
   have h1 := hws _ (List.mem_cons_self ..)
   rw [bytesDlt] at h1
   simp only [List.length_map, hel, reachBytes] at h1
   omega
  have hT : ∀ j, ∃ o : DelT, j < len → ∃ cs : Array Value, (∀ i v, cs[i]? = some v → W.cell? ((a.add (j * 8)).add i) = some v) ∧ DelL W (fun b => b < W.heap.size) o cs ∧ (∀ PA n pc, cs[1]? = some (.slice PA n pc) → pc ≤ 9223372036854775807) := by
   intro j
   by_cases hj : j < len
   ·have h1 := hat j hj
    rw [cellsDlt, List.getElem?_eq_getElem (by omega)] at h1
    obtain ⟨cs', hc, ht⟩ := Option.bind_eq_some_iff.1 h1
    obtain ⟨-, hcl, hcat⟩ := World.cells?_some hc
    obtain ⟨o, ho, hoc⟩ := open_del ht (fun n hn => hws n (List.mem_cons_of_mem _ (List.mem_append_left _ (mem_weightsAll (List.mem_map.2 ⟨_, List.getElem_mem (by omega), rfl⟩) n hn))))
    refine ⟨o, fun _ => ⟨cs'.toArray, fun i v hv => ?_, ho, hoc⟩⟩
    have hi := (Array.getElem?_eq_some_iff.1 hv).1
    have hi' : i < cs'.length := by simpa using hi
    rw [hcat i (by omega)]
    simpa using hv
   ·exact ⟨⟨0, [], .mk 0 0 ⟨#[]⟩ [] [], 0⟩, fun h => absurd h hj⟩
  obtain ⟨T, hT⟩ := Classical.skolem.1 hT
  have hlm : ((List.range len).map T).length = len := by simp
  by_cases hp0 : 0 < len
  ·obtain ⟨b, off, spot⟩ := a
   obtain ⟨cs0, h0, hok0, -⟩ := hT 0 hp0
   obtain ⟨PA0, pc0, VA0, vc0, VA1, vc1, hcs0, -⟩ := hok0
   have h00 := h0 0 (.int .i64 (T 0).kind) (by rw [hcs0]; rfl)
   obtain rfl : spot = none := by simpa [Addr.add] using World.cell?_spot h00
   refine ⟨some ⟨b, off, none⟩, cap, (List.range len).map T, by rw [hlm]; exact e3, (fun h => by cases h), by omega, by omega, fun hp => ?_, fun k hk b2 off2 hA PA n pc hc => ?_⟩
   ·refine ⟨b, off, rfl, ?_, fun j hj => ?_⟩
    ·rw [addr_add6, addr_add6] at h00; exact World.block_lt_of_cell? W _ h00
    ·rw [hlm] at hj
     obtain ⟨cs, h0, h1, -⟩ := hT j hj
     refine ⟨cs, fun i v hv => ?_, by simpa using h1⟩
     have := h0 i v hv
     rw [addr_add6, addr_add6] at this
     exact this
   ·rw [hlm] at hk
    injection hA with hA
    injection hA with e1 e2
    subst e1 e2
    obtain ⟨cs, h0, h1, h2⟩ := hT k hk
    obtain ⟨PA1, pc1, VA2, vc2, VA3, vc3, hcs1, -⟩ := h1
    have h3 := h0 1 (.slice PA1 (T k).path.length pc1) (by rw [hcs1]; rfl)
    rw [addr_add6, addr_add6] at h3
    rw [h3] at hc
    injection hc with hc
    injection hc with _ _ hc
    have := h2 PA1 (T k).path.length pc1 (by rw [hcs1]; rfl)
    omega
  ·have hl0 : len = 0 := by omega
   subst hl0
   exact ⟨some a, cap, [], by simpa using e3, (fun h => by cases h), by simp, by simp, fun h => absurd h (by simp), fun k h => absurd h (by simp)⟩
end
end Go.Proofs.YtlipkmdjpligeaaGreat

/- Entries in memory. -/
namespace Go.Proofs.YtlipkmdjpligeaaGreat
set_option linter.unusedVariables false
set_option linter.unusedSimpArgs false
open Go.RowKit
set_option maxRecDepth 100000
def EntL (w : World) (S : Nat → Prop) (e : EntT) (cs : Array Value) : Prop :=
 ∃ (IA : Option Addr) (ic : Nat) (IA' : Option Addr) (ic' : Nat) (DA : Option Addr) (dc : Nat) (DA' : Option Addr) (dc' : Nat) (LA : Option Addr) (lc : Nat),
  cs = #[.int .i64 e.term, .int .i64 e.kind, .string e.coll, .string e.to, .int .i64 e.id.kind, .int .i64 e.id.num, .string e.id.text, .slice IA e.id.items.length ic, .slice IA' e.id.names.length ic', .int .i64 e.doc.kind, .int .i64 e.doc.num, .string e.doc.text, .slice DA e.doc.items.length dc, .slice DA' e.doc.names.length dc', .slice LA e.dels.length lc, .int .i64 e.session, .int .i64 e.number] ∧ LV w S e.id (.agg #[.int .i64 e.id.kind, .int .i64 e.id.num, .string e.id.text, .slice IA e.id.items.length ic, .slice IA' e.id.names.length ic']) ∧ LV w S e.doc (.agg #[.int .i64 e.doc.kind, .int .i64 e.doc.num, .string e.doc.text, .slice DA e.doc.items.length dc, .slice DA' e.doc.names.length dc']) ∧ DelsL w S LA e.dels ∧ e.dels.length ≤ lc ∧ (LA = none → lc = 0) ∧ e.dels.length ≤ 1172812402961 ∧
  Rng e.term ∧ Rng e.kind ∧ Rng e.session ∧ Rng e.number ∧ e.coll.size ≤ 140737488351232 ∧ e.to.size ≤ 140737488351232
theorem EntL.keep {w w' : World} {S : Nat → Prop} {e : EntT} {cs : Array Value} (h : EntL w S e cs) (hk : ∀ b, S b → w'.heap[b]? = w.heap[b]?) : EntL w' S e cs := by
 obtain ⟨IA, ic, IA', ic', DA, dc, DA', dc', LA, lc, h1, h2, h3, h4, h5⟩ := h
 exact ⟨IA, ic, IA', ic', DA, dc, DA', dc', LA, lc, h1, h2.keep hk, h3.keep hk, h4.keep hk, h5⟩
theorem EntL.imp {w : World} {S S' : Nat → Prop} {e : EntT} {cs : Array Value} (h : EntL w S e cs) (hS : ∀ b, S b → S' b) : EntL w S' e cs := by
 obtain ⟨IA, ic, IA', ic', DA, dc, DA', dc', LA, lc, h1, h2, h3, h4, h5⟩ := h
 exact ⟨IA, ic, IA', ic', DA, dc, DA', dc', LA, lc, h1, h2.imp hS, h3.imp hS, h4.imp hS, h5⟩
structure SmE (e : EntT) : Prop where
 idd : depthT e.id ≤ 4611686018427387903
 docd : depthT e.doc ≤ 4611686018427387903
 idz : sizeT e.id ≤ 9223372036854775807
 docz : sizeT e.doc ≤ 9223372036854775807
 dels : e.dels.length ≤ 64 → SmallD e.dels ∧ SmallZD e.dels
def EBox (w : World) (g : Nat) (e : EntT) (IA : Option Addr) (ic : Nat) (IA' : Option Addr) (ic' : Nat) (DA : Option Addr) (dc : Nat) (DA' : Option Addr) (dc' : Nat) (LA : Option Addr) (lc : Nat) : Prop :=
 w.heap[g]? = some (.cells #[.int .i64 e.term, .int .i64 e.kind, .string e.coll, .string e.to, .int .i64 e.id.kind, .int .i64 e.id.num, .string e.id.text, .slice IA e.id.items.length ic, .slice IA' e.id.names.length ic', .int .i64 e.doc.kind, .int .i64 e.doc.num, .string e.doc.text, .slice DA e.doc.items.length dc, .slice DA' e.doc.names.length dc', .slice LA e.dels.length lc, .int .i64 e.session, .int .i64 e.number] 30 (0, 0))
section
variable {w w' : World} {g : Nat} {e : EntT} {IA : Option Addr} {ic : Nat} {IA' : Option Addr} {ic' : Nat} {DA : Option Addr} {dc : Nat} {DA' : Option Addr} {dc' : Nat} {LA : Option Addr} {lc : Nat}
theorem EBox.lt (h : EBox w g e IA ic IA' ic' DA dc DA' dc' LA lc) : g < w.heap.size := (Array.getElem?_eq_some_iff.1 h).1
theorem EBox.below (h : EBox w g e IA ic IA' ic' DA dc DA' dc' LA lc) (hb : Below w.heap.size w w') : EBox w' g e IA ic IA' ic' DA dc DA' dc' LA lc := (hb.block g h.lt).trans h
theorem EBox.g1 (h : EBox w g e IA ic IA' ic' DA dc DA' dc' LA lc) : w.cell? ⟨g, 1, none⟩ = some (.int .i64 e.kind) := Go.Joins.cell_of_block h 1
theorem EBox.g2 (h : EBox w g e IA ic IA' ic' DA dc DA' dc' LA lc) : w.cell? ⟨g, 2, none⟩ = some (.string e.coll) := Go.Joins.cell_of_block h 2
theorem EBox.g3 (h : EBox w g e IA ic IA' ic' DA dc DA' dc' LA lc) : w.cell? ⟨g, 3, none⟩ = some (.string e.to) := Go.Joins.cell_of_block h 3
theorem EBox.g4 (h : EBox w g e IA ic IA' ic' DA dc DA' dc' LA lc) : w.cell? ⟨g, 4, none⟩ = some (.int .i64 e.id.kind) := Go.Joins.cell_of_block h 4
theorem EBox.g5 (h : EBox w g e IA ic IA' ic' DA dc DA' dc' LA lc) : w.cell? ⟨g, 5, none⟩ = some (.int .i64 e.id.num) := Go.Joins.cell_of_block h 5
theorem EBox.g6 (h : EBox w g e IA ic IA' ic' DA dc DA' dc' LA lc) : w.cell? ⟨g, 6, none⟩ = some (.string e.id.text) := Go.Joins.cell_of_block h 6
theorem EBox.g7 (h : EBox w g e IA ic IA' ic' DA dc DA' dc' LA lc) : w.cell? ⟨g, 7, none⟩ = some (.slice IA e.id.items.length ic) := Go.Joins.cell_of_block h 7
theorem EBox.g8 (h : EBox w g e IA ic IA' ic' DA dc DA' dc' LA lc) : w.cell? ⟨g, 8, none⟩ = some (.slice IA' e.id.names.length ic') := Go.Joins.cell_of_block h 8
theorem EBox.g9 (h : EBox w g e IA ic IA' ic' DA dc DA' dc' LA lc) : w.cell? ⟨g, 9, none⟩ = some (.int .i64 e.doc.kind) := Go.Joins.cell_of_block h 9
theorem EBox.g10 (h : EBox w g e IA ic IA' ic' DA dc DA' dc' LA lc) : w.cell? ⟨g, 10, none⟩ = some (.int .i64 e.doc.num) := Go.Joins.cell_of_block h 10
theorem EBox.g11 (h : EBox w g e IA ic IA' ic' DA dc DA' dc' LA lc) : w.cell? ⟨g, 11, none⟩ = some (.string e.doc.text) := Go.Joins.cell_of_block h 11
theorem EBox.g12 (h : EBox w g e IA ic IA' ic' DA dc DA' dc' LA lc) : w.cell? ⟨g, 12, none⟩ = some (.slice DA e.doc.items.length dc) := Go.Joins.cell_of_block h 12
theorem EBox.g13 (h : EBox w g e IA ic IA' ic' DA dc DA' dc' LA lc) : w.cell? ⟨g, 13, none⟩ = some (.slice DA' e.doc.names.length dc') := Go.Joins.cell_of_block h 13
theorem EBox.g14 (h : EBox w g e IA ic IA' ic' DA dc DA' dc' LA lc) : w.cell? ⟨g, 14, none⟩ = some (.slice LA e.dels.length lc) := Go.Joins.cell_of_block h 14
theorem EBox.g15 (h : EBox w g e IA ic IA' ic' DA dc DA' dc' LA lc) : w.cell? ⟨g, 15, none⟩ = some (.int .i64 e.session) := Go.Joins.cell_of_block h 15
theorem EBox.g16 (h : EBox w g e IA ic IA' ic' DA dc DA' dc' LA lc) : w.cell? ⟨g, 16, none⟩ = some (.int .i64 e.number) := Go.Joins.cell_of_block h 16
end
structure EntAt (w : World) (S : Nat → Prop) (e : EntT) (IA : Option Addr) (ic : Nat) (IA' : Option Addr) (ic' : Nat) (DA : Option Addr) (dc : Nat) (DA' : Option Addr) (dc' : Nat) (LA : Option Addr) (lc : Nat) : Prop where
 id : LV w S e.id (.agg #[.int .i64 e.id.kind, .int .i64 e.id.num, .string e.id.text, .slice IA e.id.items.length ic, .slice IA' e.id.names.length ic'])
 doc : LV w S e.doc (.agg #[.int .i64 e.doc.kind, .int .i64 e.doc.num, .string e.doc.text, .slice DA e.doc.items.length dc, .slice DA' e.doc.names.length dc'])
 dels : DelsL w S LA e.dels
 cap : e.dels.length ≤ lc
 nil : LA = none → lc = 0
 len : e.dels.length ≤ 1172812402961
 rt : Rng e.term
 rk : Rng e.kind
 rs : Rng e.session
 rn : Rng e.number
 cz : e.coll.size ≤ 140737488351232
 tz : e.to.size ≤ 140737488351232
theorem EntAt.l {w : World} {S : Nat → Prop} {e : EntT} {IA : Option Addr} {ic : Nat} {IA' : Option Addr} {ic' : Nat} {DA : Option Addr} {dc : Nat} {DA' : Option Addr} {dc' : Nat} {LA : Option Addr} {lc : Nat} (h : EntAt w S e IA ic IA' ic' DA dc DA' dc' LA lc) : EntL w S e #[.int .i64 e.term, .int .i64 e.kind, .string e.coll, .string e.to, .int .i64 e.id.kind, .int .i64 e.id.num, .string e.id.text, .slice IA e.id.items.length ic, .slice IA' e.id.names.length ic', .int .i64 e.doc.kind, .int .i64 e.doc.num, .string e.doc.text, .slice DA e.doc.items.length dc, .slice DA' e.doc.names.length dc', .slice LA e.dels.length lc, .int .i64 e.session, .int .i64 e.number] :=
 ⟨IA, ic, IA', ic', DA, dc, DA', dc', LA, lc, rfl, h.id, h.doc, h.dels, h.cap, h.nil, h.len, h.rt, h.rk, h.rs, h.rn, h.cz, h.tz⟩
theorem EntL.at {w : World} {S : Nat → Prop} {e : EntT} {cs : Array Value} (h : EntL w S e cs) : ∃ IA ic IA' ic' DA dc DA' dc' LA lc, cs = #[.int .i64 e.term, .int .i64 e.kind, .string e.coll, .string e.to, .int .i64 e.id.kind, .int .i64 e.id.num, .string e.id.text, .slice IA e.id.items.length ic, .slice IA' e.id.names.length ic', .int .i64 e.doc.kind, .int .i64 e.doc.num, .string e.doc.text, .slice DA e.doc.items.length dc, .slice DA' e.doc.names.length dc', .slice LA e.dels.length lc, .int .i64 e.session, .int .i64 e.number] ∧ EntAt w S e IA ic IA' ic' DA dc DA' dc' LA lc := by
 obtain ⟨IA, ic, IA', ic', DA, dc, DA', dc', LA, lc, h1, h2, h3, h4, h5, h6, h7, h8, h9, h10, h11, h12, h13⟩ := h
 exact ⟨IA, ic, IA', ic', DA, dc, DA', dc', LA, lc, h1, h2, h3, h4, h5, h6, h7, h8, h9, h10, h11, h12, h13⟩
theorem EntAt.keep {w w' : World} {S : Nat → Prop} {e : EntT} {IA : Option Addr} {ic : Nat} {IA' : Option Addr} {ic' : Nat} {DA : Option Addr} {dc : Nat} {DA' : Option Addr} {dc' : Nat} {LA : Option Addr} {lc : Nat} (h : EntAt w S e IA ic IA' ic' DA dc DA' dc' LA lc) (hk : ∀ b, S b → w'.heap[b]? = w.heap[b]?) : EntAt w' S e IA ic IA' ic' DA dc DA' dc' LA lc :=
 ⟨h.id.keep hk, h.doc.keep hk, h.dels.keep hk, h.cap, h.nil, h.len, h.rt, h.rk, h.rs, h.rn, h.cz, h.tz⟩
theorem EntAt.below {w w' : World} {S : Nat → Prop} {e : EntT} {IA : Option Addr} {ic : Nat} {IA' : Option Addr} {ic' : Nat} {DA : Option Addr} {dc : Nat} {DA' : Option Addr} {dc' : Nat} {LA : Option Addr} {lc : Nat} {B : Nat} (h : EntAt w S e IA ic IA' ic' DA dc DA' dc' LA lc) (hS : ∀ b, S b → b < B) (hb : Below B w w') : EntAt w' S e IA ic IA' ic' DA dc DA' dc' LA lc := h.keep fun b hb' => hb.block b (hS b hb')
theorem EntAt.imp {w : World} {S S' : Nat → Prop} {e : EntT} {IA : Option Addr} {ic : Nat} {IA' : Option Addr} {ic' : Nat} {DA : Option Addr} {dc : Nat} {DA' : Option Addr} {dc' : Nat} {LA : Option Addr} {lc : Nat} (h : EntAt w S e IA ic IA' ic' DA dc DA' dc' LA lc) (hS : ∀ b, S b → S' b) : EntAt w S' e IA ic IA' ic' DA dc DA' dc' LA lc :=
 ⟨h.id.imp hS, h.doc.imp hS, h.dels.imp hS, h.cap, h.nil, h.len, h.rt, h.rk, h.rs, h.rn, h.cz, h.tz⟩
theorem wpList_load_ent {ops : Array Oper} {rest : List Oper} {o : Oper} {a : Act} {w : World} {Q : Exit → Act → World → Prop} (hw : Region.wanted o (yielded ops a.tmps) = true) (x : Operand) (ho : o.op = .load 30 x)
  (g : Nat) (hx : a.eval x = .pointer (some ⟨g, 0, none⟩)) (cs : Array Value) (fr : Nat × Nat) (hg : w.heap[g]? = some (.cells cs 30 fr)) (hn : cs.size = 17)
  (h : wpList Tryz.prog ops Q rest (a.put o.dst (.agg cs)) w) : wpList Tryz.prog ops Q (o :: rest) a w :=
 wpList_step fun K hK => by
  rw [hw, if_pos rfl]
  exact wp_load_row 30 x ho g hx 30 cs fr _ hg Tryz.underlying30 rfl (by rw [hn]; kernel_rfl) (hK _ _ h)
end Go.Proofs.YtlipkmdjpligeaaGreat
