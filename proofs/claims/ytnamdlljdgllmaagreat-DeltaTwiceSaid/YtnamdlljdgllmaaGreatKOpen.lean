/- A value that came in reads as a tree: of the row's reading. -/
import Derived.Test.YtnamdlljdgllmaaGreatKMath
import Derived.Test.YtnamdlljdgllmaaGreatKCodE
import Derived.Test.YtnamdlljdgllmaaGreatKValB
import Derived.Test.YtnamdlljdgllmaaGreatKVarI
import Derived.Test.YtnamdlljdgllmaaGreatKLook
import Derived.Deep.Slices
import Derived.SliceStrings
import Derived.SizedLaws
import Derived.Lib.SmallJoins
import Derived.Laws.OwnMore
import Derived.Laws.AppendOwn
import Derived.Laws.ResultCell
import Derived.Outline
namespace Go.Proofs.YtnamdlljdgllmaaGreat
set_option linter.unusedVariables false
set_option linter.unusedSimpArgs false
set_option maxRecDepth 100000
open Go.ChangeShapes Go.WideShapes Go.RowKit Go.Joins Go.Deep

theorem cellsVal : Tryz.prog.cellsOf 29 = 5 := by kernel_rfl
theorem cellsI : Tryz.prog.cellsOf 3 = 1 := by kernel_rfl
theorem cellsVals : Tryz.prog.cellsOf 27 = 1 := by kernel_rfl
theorem cellsStrs : Tryz.prog.cellsOf 23 = 1 := by kernel_rfl
theorem bytesVal : Tryz.prog.bytesOf 29 = 80 := by kernel_rfl
theorem fieldsVal : ∃ f0 f1 f2 f3 f4 : Field, Tryz.prog.underlying 29 = some (.struct #[f0, f1, f2, f3, f4]) ∧ f0.type = 3 ∧ f1.type = 3 ∧ f2.type = 9 ∧ f3.type = 27 ∧ f4.type = 23 ∧ f0.offset = 0 ∧ f1.offset = 1 ∧ f2.offset = 2 ∧ f3.offset = 3 ∧ f4.offset = 4 :=
  ⟨_, _, _, _, _, Tryz.underlying29, rfl, rfl, rfl, rfl, rfl, rfl, rfl, rfl, rfl, rfl⟩

theorem LVs.intro {w : World} {S : Nat → Prop} {b : Nat} : ∀ {l : List VT} {off : Nat}, (∀ j (h : j < l.length), ∃ c0 c1 c2 c3 c4, w.cell? ⟨b, off + j * 5, none⟩ = some c0 ∧ w.cell? ⟨b, off + j * 5 + 1, none⟩ = some c1 ∧ w.cell? ⟨b, off + j * 5 + 2, none⟩ = some c2 ∧
    w.cell? ⟨b, off + j * 5 + 3, none⟩ = some c3 ∧ w.cell? ⟨b, off + j * 5 + 4, none⟩ = some c4 ∧ LV w S l[j] (.agg #[c0, c1, c2, c3, c4])) → LVs w S b off l
  | [], _, _ => by unfold LVs; trivial
  | t :: r, off, h => by
    unfold LVs
    have h0 := h 0 (by simp)
    simp only [Nat.zero_mul, Nat.add_zero] at h0
    refine ⟨h0, LVs.intro fun j hj => ?_⟩
    have := h (j + 1) (by simpa using hj)
    have e : off + (j + 1) * 5 = off + 5 + j * 5 := by omega
    rw [e] at this
    simpa using this

section
variable {H : Type} {enc : TypeId × Value → H} {W : World} {sp : Nat → Bool}

theorem rng_of_wf {k : Int} (h : (Lit.int .i64 k).wf = true) : Rng k := in64_of_wf h

theorem open_val : ∀ (fuel : Nat) (cs : List Value) (x : DataW H × List MemPlace), DataW.trod enc Tryz.prog W 0 sp true fuel 29 cs = some x → (∀ n ∈ x.1.weights Tryz.prog 29, n ≤ reachBytes) →
    ∃ t, LV W (fun b => b < W.heap.size) t (.agg cs.toArray) := by
  intro fuel
  induction fuel using Nat.strongRecOn with
  | _ fuel ih =>
    intro cs x h hw
    obtain ⟨f0, f1, f2, f3, f4, hu, t0, t1, t2, t3, t4, o0, o1, o2, o3, o4⟩ := fieldsVal
    obtain ⟨xs, n, hfu, hx, hlen, hxl, hg⟩ := DataW.trod_struct hu h
    rw [cellsVal] at hlen
    match cs, hlen with
    | [c0, c1, c2, c3, c4], _ =>
      match xs, hxl with
      | [y0, y1, y2, y3, y4], _ =>
        have g0 := hg 0 f0 rfl
        have g1 := hg 1 f1 rfl
        have g2 := hg 2 f2 rfl
        have g3 := hg 3 f3 rfl
        have g4 := hg 4 f4 rfl
        rw [t0, o0, cellsI] at g0
        rw [t1, o1, cellsI] at g1
        rw [t2, o2, cellsStr] at g2
        rw [t3, o3, cellsVals] at g3
        rw [t4, o4, cellsStrs] at g4
        have hws := hw
        rw [hx] at hws
        simp only [DataW.weights, hu, List.map_cons, List.map_nil, t0, t1, t2, t3, t4] at hws
        obtain ⟨k, e0, -, w0⟩ := DataW.trod_int Tryz.underlying3 g0
        obtain ⟨i, e1, -, w1⟩ := DataW.trod_int Tryz.underlying3 g1
        obtain ⟨s, e2, x2, w2⟩ := DataW.trod_string Tryz.underlying9 g2
        simp at e0 e1 e2
        subst e0 e1 e2
        have hs : s.size ≤ 140737488351232 := by
          have := hws s.data.toList.length (by rw [DataW.weightsEach, DataW.weightsEach, DataW.weightsEach]; refine List.mem_append_right _ (List.mem_append_right _ (List.mem_append_left _ ?_)); rw [x2]; simp [DataW.weights])
          simpa [reachBytes] using this
        obtain ⟨A', c', ns, e4, hn4, hns⟩ := open_names g4 (fun n hn => hws n (by rw [DataW.weightsEach, DataW.weightsEach, DataW.weightsEach, DataW.weightsEach, DataW.weightsEach]; exact List.mem_append_right _ (List.mem_append_right _ (List.mem_append_right _ (List.mem_append_right _ (List.mem_append_left _ hn))))))
        simp at e4
        subst e4
        have hw3 : ∀ n ∈ y3.1.weights Tryz.prog 27, n ≤ reachBytes := fun n hn => hws n (by rw [DataW.weightsEach, DataW.weightsEach, DataW.weightsEach, DataW.weightsEach]; exact List.mem_append_right _ (List.mem_append_right _ (List.mem_append_right _ (List.mem_append_left _ hn))))
        rcases DataW.trod_slice Tryz.underlying27 g3 with ⟨e3, -⟩ | ⟨a, len, cap, elems, rest, m, hm, e3, x3, -, hlc, -, hel, hat, -, -⟩
        · simp at e3
          subst e3
          exact ⟨.mk k i s [] ns, LV.mk (rng_of_wf w0) (rng_of_wf w1) hs (by simp) hn4 hns (fun h => absurd h (by simp))⟩
        · simp at e3
          subst e3
          simp at x3
          rw [x3] at hw3
          simp only [DataW.weights, Tryz.underlying27] at hw3
          have hl : len ≤ 1759218604390 := by
            have h1 := hw3 _ (List.mem_cons_self ..)
            rw [bytesVal] at h1
            simp only [List.length_map, hel, reachBytes] at h1
            omega
          have hT : ∀ j, ∃ t : VT, j < len → ∃ c0 c1 c2 c3 c4, W.cell? (a.add (j * 5)) = some c0 ∧ W.cell? ((a.add (j * 5)).add 1) = some c1 ∧ W.cell? ((a.add (j * 5)).add 2) = some c2 ∧ W.cell? ((a.add (j * 5)).add 3) = some c3 ∧ W.cell? ((a.add (j * 5)).add 4) = some c4 ∧
              LV W (fun b => b < W.heap.size) t (.agg #[c0, c1, c2, c3, c4]) := by
            intro j
            by_cases hj : j < len
            · have h1 := hat j hj
              rw [cellsVal, List.getElem?_eq_getElem (by omega)] at h1
              obtain ⟨cs', hc, ht⟩ := Option.bind_eq_some_iff.1 h1
              obtain ⟨-, hcl, hcat⟩ := World.cells?_some hc
              obtain ⟨t, htv⟩ := ih m (by omega) cs' _ ht (fun n hn => hw3 n (List.mem_cons_of_mem _ (List.mem_append_left _ (mem_weightsAll (List.mem_map.2 ⟨_, List.getElem_mem (by omega), rfl⟩) n hn))))
              match cs', hcl with
              | [u0, u1, u2, u3, u4], _ =>
                refine ⟨t, fun _ => ⟨u0, u1, u2, u3, u4, ?_, ?_, ?_, ?_, ?_, htv⟩⟩
                · simpa [Addr.add] using hcat 0 (by omega)
                · simpa using hcat 1 (by omega)
                · simpa using hcat 2 (by omega)
                · simpa using hcat 3 (by omega)
                · simpa using hcat 4 (by omega)
            · exact ⟨.mk 0 0 ⟨#[]⟩ [] [], fun h => absurd h hj⟩
          obtain ⟨T, hT⟩ := Classical.skolem.1 hT
          have hlm : ((List.range len).map T).length = len := by simp
          refine ⟨.mk k i s ((List.range len).map T) ns, ?_⟩
          have := LV.mk (w := W) (S := fun b => b < W.heap.size) (k := k) (i := i) (s := s) (l := (List.range len).map T) (ns := ns) (A := some a) (A' := A') (c := cap) (c' := c') (rng_of_wf w0) (rng_of_wf w1) hs (by rw [hlm]; exact hl) hn4 hns ?_
          · rw [hlm] at this; exact this
          · intro hp
            rw [hlm] at hp
            obtain ⟨b, off, spot⟩ := a
            obtain ⟨q0, q1, q2, q3, q4, h0, -⟩ := hT 0 hp
            obtain rfl : spot = none := by simpa [Addr.add] using World.cell?_spot h0
            refine ⟨b, off, rfl, ?_, LVs.intro fun j hj => ?_⟩
            · rw [add_at] at h0; exact World.block_lt_of_cell? W _ h0
            · rw [hlm] at hj
              obtain ⟨q0, q1, q2, q3, q4, h0, h1, h2, h3, h4, hv⟩ := hT j hj
              simp only [add_at] at h0 h1 h2 h3 h4
              exact ⟨q0, q1, q2, q3, q4, h0, h1, h2, h3, h4, by simpa using hv⟩
end
end Go.Proofs.YtnamdlljdgllmaaGreat

/- append, and where the new row lies. -/
namespace Go.Proofs.YtnamdlljdgllmaaGreat
set_option linter.unusedVariables false
set_option linter.unusedSimpArgs false
open Go
variable {P : Program} (w : World)

/-- The new row lies where the old one lay, or behind all. -/
def WhereRow (w : World) (v v' : Value) : Prop := v'.ownBlock = v.ownBlock ∨ ∃ q, w.heap.size ≤ q ∧ v'.ownBlock = some q

theorem run_append_moved (base : Nat) (t ty e : TypeId) (i : TypeInfo) (z : Value) (size bytes : Nat) (ht : P.underlying t = some (.slice e)) (hi : P.info? e = some i) (hz : i.zero = some z)
    (hsize : i.size = size) (hby : i.bytes = bytes) (hzs : z.cells.size = size) (hsz : 0 < size)
    (v : Value) (n : Nat) (xs : List Value) (hown : w.ownsRow base e size v n xs)
    (a : Addr) (m c : Nat) (news : List Value) (hl : news.length = m * size) (hnews : ∀ j u, news[j]? = some u → w.cell? (a.add j) = some u) (h1 : ∀ u ∈ news, u.oneCell' = true)
    (h63 : n + m ≤ maxLen) (hbytes : (n + m) * bytes ≤ 140737488355328) (hbase : base ≤ w.heap.size) :
    ∃ v' w', (Builtin.append_ #[t, t] ty #[v, .slice (some a) m c]).run P w = .ok v' w' ∧ w'.ownsRow base e size v' (n + m) (xs ++ news) ∧ w.grownBy w' v.ownBlock ∧ WhereRow w v v' := by
  obtain ⟨v', w', hr, h2, h3, h4⟩ := run_append_own (P := P) w base t ty e i z size bytes ht hi hz hsize hby hzs hsz v n xs hown a m c news hl hnews h1 h63 hbytes hbase
  refine ⟨v', w', hr, h2, h3, ?_⟩
  subst hsize
  subst hby
  have hsmall : n + m ≤ 9223372036854775807 := by simp only [maxLen] at h63; omega
  rcases hown.2 with ⟨rfl, rfl⟩ | ⟨g, cap, cur, rfl, hbg, hg, hnc, hcm, hcs, htake⟩
  · by_cases hm : m = 0
    · exact .inl (by rw [h4.2 ⟨rfl, hm⟩])
    · have hr2 := run_append_nil (P := P) w t ty e i z ht hi hz a m c news hl hnews (by omega) (by omega) (by have hb := hbytes; simp only [Nat.zero_add] at hb; omega)
      rw [hr] at hr2
      simp only [Result.ok.injEq] at hr2
      exact .inr ⟨w.heap.size, Nat.le_refl _, by rw [hr2.1]; rfl⟩
  · by_cases hroom : n + m ≤ cap
    · obtain ⟨w2, hr2, -⟩ := run_append_fits (P := P) w base t ty e i i.size ht hi rfl g n cap xs hown a m c news hl hnews h1 hroom
      rw [hr] at hr2
      simp only [Result.ok.injEq] at hr2
      exact .inl (by rw [hr2.1]; rfl)
    · have holds : ∀ j u, xs[j]? = some u → w.cell? ((⟨g, 0, none⟩ : Addr).add j) = some u := hown.cells (g := g) rfl
      have hr2 := run_append_grow (P := P) w t ty e i z ht hi hz ⟨g, 0, none⟩ n cap xs hown.1 holds a m c news hl hnews (by omega) (by omega) (growslice_fits (by omega) hbytes)
      rw [hr] at hr2
      simp only [Result.ok.injEq] at hr2
      exact .inr ⟨w.heap.size, Nat.le_refl _, by rw [hr2.1]; rfl⟩

theorem wp_append_moved {o : Oper} {a : Act} {K : Act → World → Prop} {Q : Exit → Act → World → Prop} (s x : Operand) (t : TypeId)
    (ho : o.op = .call { callee := .builtin .append, args := #[s, x], argTypes := #[t, t] })
    (base : Nat) (e : TypeId) (i : TypeInfo) (z : Value) (size bytes : Nat) (ht : P.underlying t = some (.slice e)) (hi : P.info? e = some i) (hz : i.zero = some z)
    (hsize : i.size = size) (hby : i.bytes = bytes) (hzs : z.cells.size = size) (hsz : 0 < size)
    (v : Value) (n : Nat) (xs : List Value) (hs : a.eval s = v) (hown : w.ownsRow base e size v n xs)
    (ad : Addr) (m c : Nat) (news : List Value) (hx : a.eval x = .slice (some ad) m c) (hl : news.length = m * size) (hnews : ∀ j u, news[j]? = some u → w.cell? (ad.add j) = some u) (h1 : ∀ u ∈ news, u.oneCell' = true)
    (h63 : n + m ≤ maxLen) (hbytes : (n + m) * bytes ≤ 140737488355328) (hbase : base ≤ w.heap.size)
    (h : ∀ v' w', w'.ownsRow base e size v' (n + m) (xs ++ news) → w.grownBy w' v.ownBlock → WhereRow w v v' → K (a.put o.dst v') w') : o.wp P a w K Q := by
  obtain ⟨v', w', hr, h2, h3, h4⟩ := run_append_moved (P := P) w base t o.type e i z size bytes ht hi hz hsize hby hzs hsz v n xs hown ad m c news hl hnews h1 h63 hbytes hbase
  unfold Oper.wp execOp
  simp only [ho, resolve, invoke, builtin, Sem.run_bind, Sem.run_pure, Result.andThen_ok, List.map_toArray, List.map_cons, List.map_nil, hs, hx, hr]
  exact h v' w' h2 h3 h4
end Go.Proofs.YtnamdlljdgllmaaGreat

/- Five cells behind one another: a value that is stored in a variable. -/
namespace Go.Proofs.YtnamdlljdgllmaaGreat
set_option linter.unusedVariables false
set_option linter.unusedSimpArgs false
open Go.RowKit
/-- Five cells that stand behind one another. -/
def five (w : World) (p o : Nat) (c0 c1 c2 c3 c4 : Value) : World := ((((w.setCell ⟨p, o, none⟩ c0).setCell ⟨p, o + 1, none⟩ c1).setCell ⟨p, o + 2, none⟩ c2).setCell ⟨p, o + 3, none⟩ c3).setCell ⟨p, o + 4, none⟩ c4
theorem five_other (w : World) (p o : Nat) (c0 c1 c2 c3 c4 : Value) (b : Nat) (h : b ≠ p) : (five w p o c0 c1 c2 c3 c4).heap[b]? = w.heap[b]? := by
  unfold five
  rw [heap_setCell_other _ ⟨p, _, none⟩ b _ h, heap_setCell_other _ ⟨p, _, none⟩ b _ h, heap_setCell_other _ ⟨p, _, none⟩ b _ h, heap_setCell_other _ ⟨p, _, none⟩ b _ h, heap_setCell_other _ ⟨p, _, none⟩ b _ h]
theorem five_size (w : World) (p o : Nat) (c0 c1 c2 c3 c4 : Value) : (five w p o c0 c1 c2 c3 c4).heap.size = w.heap.size := by simp [five]
theorem five_rest (w : World) (p o : Nat) (c0 c1 c2 c3 c4 : Value) : (five w p o c0 c1 c2 c3 c4).os = w.os ∧ (five w p o c0 c1 c2 c3 c4).tape = w.tape ∧ (five w p o c0 c1 c2 c3 c4).output = w.output := by
  have h : ∀ (w : World) (a : Addr) (u : Value), (w.setCell a u).os = w.os ∧ (w.setCell a u).tape = w.tape ∧ (w.setCell a u).output = w.output := fun _ _ _ => ⟨rfl, rfl, rfl⟩
  unfold five
  refine ⟨?_, ?_, ?_⟩
  · rw [(h _ _ _).1, (h _ _ _).1, (h _ _ _).1, (h _ _ _).1, (h _ _ _).1]
  · rw [(h _ _ _).2.1, (h _ _ _).2.1, (h _ _ _).2.1, (h _ _ _).2.1, (h _ _ _).2.1]
  · rw [(h _ _ _).2.2, (h _ _ _).2.2, (h _ _ _).2.2, (h _ _ _).2.2, (h _ _ _).2.2]
theorem five_box {w : World} {p : Nat} {a0 a1 a2 a3 a4 c0 c1 c2 c3 c4 : Value} (h : Box w p a0 a1 a2 a3 a4) : Box (five w p 0 c0 c1 c2 c3 c4) p c0 c1 c2 c3 c4 := by
  have h1 := (((h.set0 c0).set1 c1).set2 c2).set3 c3
  exact Go.Joins.block_setCell (i := 4) h1 c4
theorem Box.other {w : World} {p : Nat} {a0 a1 a2 a3 a4 : Value} (h : Box w p a0 a1 a2 a3 a4) (D i : Nat) (u : Value) (hne : p ≠ D) : Box (w.setCell ⟨D, i, none⟩ u) p a0 a1 a2 a3 a4 := (heap_setCell_other _ ⟨D, i, none⟩ p _ hne).trans h
theorem box_only {w w' : World} {p g : Nat} {a0 a1 a2 a3 a4 : Value} (h : Box w p a0 a1 a2 a3 a4) (ho : Only w w' g) (hne : p ≠ g) : Box w' p a0 a1 a2 a3 a4 := (ho.block p h.lt (by rintro ⟨⟩; exact hne rfl)).trans h
theorem results_cell_two {fn : Func} {p u : Tmp} (h : fn.results = #[.cell p 29, .tmp u]) (tmps : Array Value) (w : World) (g : Nat) (t : TypeId) (cs : Array Value) (fr : Nat × Nat)
    (hp : tmps.getD p undef = .pointer (some ⟨g, 0, none⟩)) (hg : w.heap[g]? = some (.cells cs t fr)) (hi : (Tryz.prog.info? 29).map (·.size) = some cs.size) :
    (results fn tmps).run Tryz.prog w = .ok (.tuple #[.agg cs, tmps.getD u undef]) w := by
  rw [results_cell_tmp h, hp]
  have e : (asAddr (.pointer (some ⟨g, 0, none⟩))).run Tryz.prog w = .ok ⟨g, 0, none⟩ w := by simp [asAddr]
  rw [e]
  simp only [Result.andThen]
  rw [run_loadVar_row w g t 29 cs fr _ hg Tryz.underlying29 rfl hi]
end Go.Proofs.YtnamdlljdgllmaaGreat

/- The decoder's parts: what is read, and the variable that a value is read into. -/
namespace Go.Proofs.YtnamdlljdgllmaaGreat
set_option linter.unusedVariables false
set_option linter.unusedSimpArgs false
set_option maxRecDepth 100000
open Go.RowKit

/-- Block D is a decoder. -/
def Dec (w : World) (D g : Nat) (least lv : Int) : Prop := w.heap[D]? = some (.cells #[.pointer (some ⟨g, 0, none⟩), .int .i64 least, .int .i64 lv] 141 (0, 0))
/-- Block bb is a variable that points to D. -/
def PB (w : World) (bb D : Nat) : Prop := w.heap[bb]? = some (.cells #[.pointer (some ⟨D, 0, none⟩)] 156 (0, 0))
theorem Dec.lt {w : World} {D g : Nat} {least lv : Int} (h : Dec w D g least lv) : D < w.heap.size := (Array.getElem?_eq_some_iff.1 h).1
theorem PB.lt {w : World} {bb D : Nat} (h : PB w bb D) : bb < w.heap.size := (Array.getElem?_eq_some_iff.1 h).1
/-- Below block B all but block g is as it was. -/
structure Far (B g : Nat) (w w' : World) : Prop where
  os : w'.os = w.os
  tape : w'.tape = w.tape
  output : w'.output = w.output
  size : w.heap.size ≤ w'.heap.size
  block : ∀ k, k < B → k ≠ g → w'.heap[k]? = w.heap[k]?
theorem Far.refl (B g : Nat) (w : World) : Far B g w w := ⟨rfl, rfl, rfl, Nat.le_refl _, fun _ _ _ => rfl⟩
theorem Far.trans {B g : Nat} {a b c : World} (h : Far B g a b) (k : Far B g b c) : Far B g a c :=
  ⟨k.os.trans h.os, k.tape.trans h.tape, k.output.trans h.output, Nat.le_trans h.size k.size, fun i hi hg => (k.block i hi hg).trans (h.block i hi hg)⟩
theorem Far.ofOnly {B g : Nat} {w w' : World} (h : Only w w' g) (hB : B ≤ w.heap.size) : Far B g w w' := ⟨h.os, h.tape, h.output, h.size, fun k hk hg => h.block k (by omega) (by rintro ⟨⟩; exact hg rfl)⟩
theorem Far.ofBelow {B g : Nat} {w w' : World} (h : Below B w w') : Far B g w w' := ⟨h.os, h.tape, h.output, h.size, fun k hk _ => h.block k hk⟩
theorem Far.drew {B g : Nat} {a w : World} (h : Far B g a w) : Far B g a w.drew := ⟨h.os, h.tape, h.output, h.size, h.block⟩

/-- What a reading makes of a source. -/
def Rel (d : Nat) (least : Int) (st : Option (List UInt8)) (t : VT) : Option (List UInt8) → Prop
  | some r' => ∃ l, st = some l ∧ rdW d l = some (t, r')
  | none => ∀ l u r, st = some l → rdW d l = some (u, r) → mayT u = false ∨ (r.length : Int) < least

/-- New blocks of a world. -/
def NewB (B : Nat) (w : World) : Nat → Prop := fun b => B ≤ b ∧ b < w.heap.size
/-- A row of values of the call's own, from block B on, that lie in blocks of S. -/
def RowV (w : World) (B : Nat) (S : Nat → Prop) (v : Value) (ts : List VT) : Prop :=
  ∃ xs, w.ownsRow B 29 5 v ts.length xs ∧ ∀ j (h : j < ts.length), ∃ c0 c1 c2 c3 c4, (xs.drop (j * 5)).take 5 = [c0, c1, c2, c3, c4] ∧ LV w S ts[j] (.agg #[c0, c1, c2, c3, c4])
theorem ownsRow_keep {w w' : World} {B sz n : Nat} {e : TypeId} {v : Value} {xs : List Value} (h : w.ownsRow B e sz v n xs) (hk : ∀ g, v.ownBlock = some g → w'.heap[g]? = w.heap[g]?) : w'.ownsRow B e sz v n xs := by
  refine ⟨h.1, ?_⟩
  rcases h.2 with h0 | ⟨g, cap, cur, h1, h2, h3, h4⟩
  · exact .inl h0
  · exact .inr ⟨g, cap, cur, h1, h2, (hk g (by rw [h1]; rfl)).trans h3, h4⟩
theorem RowV.keep {w w' : World} {B : Nat} {S : Nat → Prop} {v : Value} {ts : List VT} (h : RowV w B S v ts) (hv : ∀ g, v.ownBlock = some g → w'.heap[g]? = w.heap[g]?) (hS : ∀ b, S b → w'.heap[b]? = w.heap[b]?) : RowV w' B S v ts := by
  obtain ⟨xs, h1, h2⟩ := h
  refine ⟨xs, ownsRow_keep h1 hv, fun j hj => ?_⟩
  obtain ⟨c0, c1, c2, c3, c4, e, hx⟩ := h2 j hj
  exact ⟨c0, c1, c2, c3, c4, e, hx.keep hS⟩
/-- A row that got one more, behind the others. -/
theorem RowV.more {w w' : World} {B : Nat} {S S' : Nat → Prop} {v v' : Value} {ts : List VT} {t : VT} {xs : List Value} {c0 c1 c2 c3 c4 : Value} (h1 : w.ownsRow B 29 5 v ts.length xs)
    (h2 : ∀ j (h : j < ts.length), ∃ c0 c1 c2 c3 c4, (xs.drop (j * 5)).take 5 = [c0, c1, c2, c3, c4] ∧ LV w S ts[j] (.agg #[c0, c1, c2, c3, c4]))
    (hk : ∀ b, S b → w'.heap[b]? = w.heap[b]?) (hS : ∀ b, S b → S' b) (ho : w'.ownsRow B 29 5 v' (ts.length + 1) (xs ++ [c0, c1, c2, c3, c4])) (ht : LV w' S' t (.agg #[c0, c1, c2, c3, c4])) : RowV w' B S' v' (ts ++ [t]) := by
  have hx : xs.length = ts.length * 5 := h1.1
  refine ⟨xs ++ [c0, c1, c2, c3, c4], by rw [List.length_append]; exact ho, fun j hj => ?_⟩
  by_cases hjl : j < ts.length
  · obtain ⟨d0, d1, d2, d3, d4, e, hx'⟩ := h2 j hjl
    refine ⟨d0, d1, d2, d3, d4, ?_, ?_⟩
    · rw [List.drop_append_of_le_length (by omega), List.take_append_of_le_length (by rw [List.length_drop]; omega)]
      exact e
    · rw [List.getElem_append_left hjl]
      exact (hx'.keep hk).imp hS
  · obtain rfl : j = ts.length := by simp at hj; omega
    refine ⟨c0, c1, c2, c3, c4, ?_, ?_⟩
    · rw [← hx, List.drop_left]; rfl
    · rw [List.getElem_append_right (Nat.le_refl _)]
      simpa using ht
theorem set_five (xs : List Value) (z0 z1 z2 z3 z4 c0 c1 c2 c3 c4 : Value) (n : Nat) (hn : n = xs.length) :
    (((((xs ++ [z0, z1, z2, z3, z4]).set n c0).set (n + 1) c1).set (n + 2) c2).set (n + 3) c3).set (n + 4) c4 = xs ++ [c0, c1, c2, c3, c4] := by
  subst hn
  rw [List.set_append_right _ _ (by omega), List.set_append_right _ _ (by omega), List.set_append_right _ _ (by omega), List.set_append_right _ _ (by omega), List.set_append_right _ _ (by omega)]
  simp
/-- Five cells are stored behind one another in a row of the call's own. -/
theorem store_five {w : World} {B q cap n : Nat} {xs : List Value} {z0 z1 z2 z3 z4 : Value} (c0 c1 c2 c3 c4 : Value) (h : w.ownsRow B 29 5 (.slice (some ⟨q, 0, none⟩) (n + 1) cap) (n + 1) (xs ++ [z0, z1, z2, z3, z4])) (hx : xs.length = n * 5) :
    (((((w.setCell ⟨q, n * 5, none⟩ c0).setCell ⟨q, n * 5 + 1, none⟩ c1).setCell ⟨q, n * 5 + 2, none⟩ c2).setCell ⟨q, n * 5 + 3, none⟩ c3).setCell ⟨q, n * 5 + 4, none⟩ c4).ownsRow B 29 5 (.slice (some ⟨q, 0, none⟩) (n + 1) cap) (n + 1) (xs ++ [c0, c1, c2, c3, c4]) := by
  have h0 := (World.ownsRow.stored h (n * 5) c0).1
  have h1 := (World.ownsRow.stored h0 (n * 5 + 1) c1).1
  have h2 := (World.ownsRow.stored h1 (n * 5 + 2) c2).1
  have h3 := (World.ownsRow.stored h2 (n * 5 + 3) c3).1
  have h4 := (World.ownsRow.stored h3 (n * 5 + 4) c4).1
  rw [set_five _ _ _ _ _ _ _ _ _ _ _ _ hx.symm] at h4
  exact h4

/-- The variable that a value is read into. -/
structure PV (w : World) (B vb : Nat) (k : Int) (ts : List VT) (ns : List ByteArray) (VI VN : Value) (S : Nat → Prop) : Prop where
  box : Box w vb (.int .i64 k) (.int .i64 0) (.string eS) VI VN
  items : RowV w B S VI ts
  names : w.ownsRow B 9 1 VN ns.length (ns.map Value.string)
  small : ∀ s ∈ ns, s.size ≤ 140737488351232
  new : ∀ b, S b → B ≤ b ∧ b < w.heap.size ∧ some b ≠ VI.ownBlock ∧ some b ≠ VN.ownBlock
  vb : vb < B

/-- Reading a value. -/
def ValR (d g : Nat) (least : Int) (st : Option (List UInt8)) (w : World) (e : Ending) (w' : World) : Prop :=
  ∃ v t st', e = .returned v ∧ SrcL w' g st' ∧ Only w w' g ∧ LV w' (NewB w.heap.size w') t v ∧ Rel d least st t st'
def ValOK (d : Nat) : Prop := ∀ (D g : Nat) (least : Int) (st : Option (List UInt8)) (w : World), Dec w D g least (8 - (d : Int)) → SrcL w g st → D ≠ g →
  Calls Tryz.prog 145 #[.pointer (some ⟨D, 0, none⟩)] w (ValR d g least st w)

/-- What must stay while the parts of an append are waited for. -/
def KeepR (vb bb : Nat) (w w' : World) : Prop := w'.heap[vb]? = w.heap[vb]? ∧ w'.heap[bb]? = w.heap[bb]?
theorem KeepR.refl (vb bb : Nat) (w : World) : KeepR vb bb w w := ⟨rfl, rfl⟩
theorem KeepR.trans {vb bb : Nat} {a b c : World} (h : KeepR vb bb a b) (k : KeepR vb bb b c) : KeepR vb bb a c := ⟨k.1.trans h.1, k.2.trans h.2⟩
instance (vb bb : Nat) (w : World) : Inhabited (LaterR (KeepR vb bb) w) := ⟨⟨w, KeepR.refl vb bb w⟩⟩
theorem keep_cells {vb bb : Nat} {w : World} : (∀ p : LaterR (KeepR vb bb) w, ∀ o, p.u.cell? ⟨vb, o, none⟩ = w.cell? ⟨vb, o, none⟩) ∧ (∀ p : LaterR (KeepR vb bb) w, ∀ o, p.u.cell? ⟨bb, o, none⟩ = w.cell? ⟨bb, o, none⟩) :=
  ⟨fun p o => World.cell?_of_block (a := ⟨vb, o, none⟩) p.h.1, fun p o => World.cell?_of_block (a := ⟨bb, o, none⟩) p.h.2⟩

/-- Another value is read behind the others. -/
def ItemR (d g vb B : Nat) (k : Int) (least : Int) (st : Option (List UInt8)) (ts : List VT) (ns : List ByteArray) (w : World) (e : Ending) (w' : World) : Prop :=
  ∃ t st' VI VN S, e = .returned (.tuple #[]) ∧ PV w' B vb k (ts ++ [t]) ns VI VN S ∧ SrcL w' g st' ∧ Far vb g w w' ∧ Rel d least st t st'
/-- An item is read and its variable holds the longer row. -/
theorem item_end {d g vb B : Nat} {k least : Int} {st st' : Option (List UInt8)} {ts : List VT} {ns : List ByteArray} {VI VN : Value} {S : Nat → Prop} {w w4 : World} {xs : List Value} {p cap : Nat} {t : VT} {c0 c1 c2 c3 c4 : Value}
    (hpv : PV w B vb k ts ns VI VN S) (hown : w.ownsRow B 29 5 VI ts.length xs)
    (hitems : ∀ j (h : j < ts.length), ∃ c0 c1 c2 c3 c4, (xs.drop (j * 5)).take 5 = [c0, c1, c2, c3, c4] ∧ LV w S ts[j] (.agg #[c0, c1, c2, c3, c4]))
    (hg : g < vb) (ho : w4.os = w.os) (htp : w4.tape = w.tape) (hot : w4.output = w.output) (hsz : w.heap.size ≤ w4.heap.size)
    (hold : ∀ b, b < w.heap.size → b ≠ g → b ≠ vb → some b ≠ VI.ownBlock → w4.heap[b]? = w.heap[b]?)
    (hp : VI.ownBlock = some p ∨ w.heap.size ≤ p)
    (hown4 : w4.ownsRow B 29 5 (.slice (some ⟨p, 0, none⟩) (ts.length + 1) cap) (ts.length + 1) (xs ++ [c0, c1, c2, c3, c4]))
    (hbox : Box w4 vb (.int .i64 k) (.int .i64 0) (.string eS) (.slice (some ⟨p, 0, none⟩) (ts.length + 1) cap) VN)
    (ht : LV w4 (fun b => w.heap.size ≤ b ∧ b < w4.heap.size ∧ b ≠ p) t (.agg #[c0, c1, c2, c3, c4])) (hs : SrcL w4 g st') (hrel : Rel d least st t st') (hB : B ≤ w.heap.size) :
    ItemR d g vb B k least st ts ns w (.returned (.tuple #[])) w4 := by
  have hvb := hpv.vb
  have hVI : ∀ q, VI.ownBlock = some q → B ≤ q ∧ q < w.heap.size := fun q hq => World.ownsRow.lt hown q hq
  have hVN : ∀ q, VN.ownBlock = some q → B ≤ q ∧ q < w.heap.size := fun q hq => World.ownsRow.lt hpv.names q hq
  have hap : ∀ q, VN.ownBlock = some q → VI.ownBlock ≠ some q := by
    intro q hq hq'
    rcases hown.2 with ⟨rfl, -⟩ | ⟨g1, cap1, cur1, rfl, -, h1, -⟩
    · simp [Value.ownBlock] at hq'
    · rcases hpv.names.2 with ⟨rfl, -⟩ | ⟨g2, cap2, cur2, rfl, -, h2, -⟩
      · simp [Value.ownBlock] at hq
      · simp only [Value.ownBlock, Option.some.injEq] at hq hq'
        subst hq hq'
        rw [h1] at h2
        simp at h2
  have hSk : ∀ b, S b → w4.heap[b]? = w.heap[b]? := fun b hb => by
    obtain ⟨h1, h2, h3, h4⟩ := hpv.new b hb
    exact hold b h2 (by omega) (by omega) h3
  refine ⟨t, st', .slice (some ⟨p, 0, none⟩) (ts.length + 1) cap, VN, fun b => S b ∨ (w.heap.size ≤ b ∧ b < w4.heap.size ∧ b ≠ p), rfl, ⟨hbox, ?_, ?_, hpv.small, ?_, hvb⟩, hs, ⟨ho, htp, hot, hsz, fun b hb hbg => ?_⟩, hrel⟩
  · exact RowV.more hown hitems hSk (fun _ h => .inl h) hown4 (ht.imp fun _ h => .inr h)
  · refine ownsRow_keep hpv.names fun q hq => ?_
    have := hVN q hq
    exact hold q this.2 (by omega) (by omega) (fun e => hap q hq e.symm)
  · rintro b (hb | ⟨h1, h2, h3⟩)
    · obtain ⟨h1, h2, h3, h4⟩ := hpv.new b hb
      refine ⟨h1, by omega, fun e => ?_, h4⟩
      obtain rfl : b = p := by simpa [Value.ownBlock] using e
      rcases hp with hp | hp
      · exact h3 hp.symm
      · omega
    · refine ⟨by omega, h2, fun e => h3 (by cases e; rfl), fun e => ?_⟩
      have := hVN b e.symm
      omega
  · refine hold b (by omega) hbg (by omega) fun e => ?_
    have := hVI b e.symm
    omega
end Go.Proofs.YtnamdlljdgllmaaGreat
