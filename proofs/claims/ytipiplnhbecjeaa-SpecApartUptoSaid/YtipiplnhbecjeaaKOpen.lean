/- A value that came in reads as a tree: of the row's reading. -/
import Derived.Test.YtipiplnhbecjeaaKVal
import Derived.Test.YtipiplnhbecjeaaKOpenS
import Derived.Test.YtipiplnhbecjeaaKCmpL
import Derived.Test.YtipiplnhbecjeaaKValK
import Derived.Deep.Slices
import Derived.SliceStrings
import Derived.SizedLaws
import Derived.Lib.SmallJoins
import Derived.Laws.OwnMore
import Derived.Laws.AppendOwn
namespace Go.Proofs.Ytipiplnhbecjeaa
set_option linter.unusedVariables false
set_option linter.unusedSimpArgs false
set_option maxRecDepth 100000
open Go.ChangeShapes Go.WideShapes Go.RowKit Go.Joins Go.Deep

theorem cellsVal : Try.prog.cellsOf 25 = 5 := by kernel_rfl
theorem cellsI : Try.prog.cellsOf 3 = 1 := by kernel_rfl
theorem cellsVals : Try.prog.cellsOf 23 = 1 := by kernel_rfl
theorem cellsStrs : Try.prog.cellsOf 22 = 1 := by kernel_rfl
theorem bytesVal : Try.prog.bytesOf 25 = 80 := by kernel_rfl
theorem fieldsVal : ∃ f0 f1 f2 f3 f4 : Field, Try.prog.underlying 25 = some (.struct #[f0, f1, f2, f3, f4]) ∧ f0.type = 3 ∧ f1.type = 3 ∧ f2.type = 9 ∧ f3.type = 23 ∧ f4.type = 22 ∧ f0.offset = 0 ∧ f1.offset = 1 ∧ f2.offset = 2 ∧ f3.offset = 3 ∧ f4.offset = 4 :=
  ⟨_, _, _, _, _, Try.underlying25, rfl, rfl, rfl, rfl, rfl, rfl, rfl, rfl, rfl, rfl⟩

theorem LVs.intro {w : World} {S : Nat → Prop} {b : Nat} : ∀ {l : List VT} {off : Nat}, (∀ j (h : j < l.length), ∃ c0 c1 c2 c3 c4, w.cell? ⟨b, off + j * 5, none⟩ = some c0 ∧ w.cell? ⟨b, off + j * 5 + 1, none⟩ = some c1 ∧ w.cell? ⟨b, off + j * 5 + 2, none⟩ = some c2 ∧
    w.cell? ⟨b, off + j * 5 + 3, none⟩ = some c3 ∧ w.cell? ⟨b, off + j * 5 + 4, none⟩ = some c4 ∧ LV w S l[j] (.agg #[c0, c1, c2, c3, c4])) → LVs w S b off l
  | [], _, _ => by unfold LVs; trivial
  | t :: r, off, h => by
    unfold LVs
    have h0 := h 0 (by simp)
    simp only [Nat.zero_mul, Nat.add_zero] at h0
    refine ⟨h0, LVs.intro fun j hj => ?_⟩
    have := h (j + 1) (by simpa using hj)
    have e : off + (j + 1) * 5 = off + 5 + j * 5 := by omega
    rw [e] at this
    simpa using this

section
variable {H : Type} {enc : TypeId × Value → H} {W : World} {sp : Nat → Bool}

theorem rng_of_wf {k : Int} (h : (Lit.int .i64 k).wf = true) : Rng k := in64_of_wf h

theorem open_val : ∀ (fuel : Nat) (cs : List Value) (x : DataW H × List MemPlace), DataW.trod enc Try.prog W 0 sp true fuel 25 cs = some x → (∀ n ∈ x.1.weights Try.prog 25, n ≤ reachBytes) →
    ∃ t, LV W (fun b => b < W.heap.size) t (.agg cs.toArray) := by
  intro fuel
  induction fuel using Nat.strongRecOn with
  | _ fuel ih =>
    intro cs x h hw
    obtain ⟨f0, f1, f2, f3, f4, hu, t0, t1, t2, t3, t4, o0, o1, o2, o3, o4⟩ := fieldsVal
    obtain ⟨xs, n, hfu, hx, hlen, hxl, hg⟩ := DataW.trod_struct hu h
    rw [cellsVal] at hlen
    match cs, hlen with
    | [c0, c1, c2, c3, c4], _ =>
      match xs, hxl with
      | [y0, y1, y2, y3, y4], _ =>
        have g0 := hg 0 f0 rfl
        have g1 := hg 1 f1 rfl
        have g2 := hg 2 f2 rfl
        have g3 := hg 3 f3 rfl
        have g4 := hg 4 f4 rfl
        rw [t0, o0, cellsI] at g0
        rw [t1, o1, cellsI] at g1
        rw [t2, o2, cellsStr] at g2
        rw [t3, o3, cellsVals] at g3
        rw [t4, o4, cellsStrs] at g4
        have hws := hw
        rw [hx] at hws
        simp only [DataW.weights, hu, List.map_cons, List.map_nil, t0, t1, t2, t3, t4] at hws
        obtain ⟨k, e0, -, w0⟩ := DataW.trod_int Try.underlying3 g0
        obtain ⟨i, e1, -, w1⟩ := DataW.trod_int Try.underlying3 g1
        obtain ⟨s, e2, x2, w2⟩ := DataW.trod_string Try.underlying9 g2
        simp at e0 e1 e2
        subst e0 e1 e2
        have hs : s.size ≤ 140737488351232 := by
          have := hws s.data.toList.length (by rw [DataW.weightsEach, DataW.weightsEach, DataW.weightsEach]; refine List.mem_append_right _ (List.mem_append_right _ (List.mem_append_left _ ?_)); rw [x2]; simp [DataW.weights])
          simpa [reachBytes] using this
        obtain ⟨A', c', ns, e4, hn4, hns⟩ := open_names g4 (fun n hn => hws n (by rw [DataW.weightsEach, DataW.weightsEach, DataW.weightsEach, DataW.weightsEach, DataW.weightsEach]; exact List.mem_append_right _ (List.mem_append_right _ (List.mem_append_right _ (List.mem_append_right _ (List.mem_append_left _ hn))))))
        simp at e4
        subst e4
        have hw3 : ∀ n ∈ y3.1.weights Try.prog 23, n ≤ reachBytes := fun n hn => hws n (by rw [DataW.weightsEach, DataW.weightsEach, DataW.weightsEach, DataW.weightsEach]; exact List.mem_append_right _ (List.mem_append_right _ (List.mem_append_right _ (List.mem_append_left _ hn))))
        rcases DataW.trod_slice Try.underlying23 g3 with ⟨e3, -⟩ | ⟨a, len, cap, elems, rest, m, hm, e3, x3, -, hlc, -, hel, hat, -, -⟩
        · simp at e3
          subst e3
          exact ⟨.mk k i s [] ns, LV.mk (rng_of_wf w0) (rng_of_wf w1) hs (by simp) hn4 hns (fun h => absurd h (by simp))⟩
        · simp at e3
          subst e3
          simp at x3
          rw [x3] at hw3
          simp only [DataW.weights, Try.underlying23] at hw3
          have hl : len ≤ 1759218604390 := by
            have h1 := hw3 _ (List.mem_cons_self ..)
            rw [bytesVal] at h1
            simp only [List.length_map, hel, reachBytes] at h1
            omega
          have hT : ∀ j, ∃ t : VT, j < len → ∃ c0 c1 c2 c3 c4, W.cell? (a.add (j * 5)) = some c0 ∧ W.cell? ((a.add (j * 5)).add 1) = some c1 ∧ W.cell? ((a.add (j * 5)).add 2) = some c2 ∧ W.cell? ((a.add (j * 5)).add 3) = some c3 ∧ W.cell? ((a.add (j * 5)).add 4) = some c4 ∧
              LV W (fun b => b < W.heap.size) t (.agg #[c0, c1, c2, c3, c4]) := by
            intro j
            by_cases hj : j < len
            · have h1 := hat j hj
              rw [cellsVal, List.getElem?_eq_getElem (by omega)] at h1
              obtain ⟨cs', hc, ht⟩ := Option.bind_eq_some_iff.1 h1
              obtain ⟨-, hcl, hcat⟩ := World.cells?_some hc
              obtain ⟨t, htv⟩ := ih m (by omega) cs' _ ht (fun n hn => hw3 n (List.mem_cons_of_mem _ (List.mem_append_left _ (mem_weightsAll (List.mem_map.2 ⟨_, List.getElem_mem (by omega), rfl⟩) n hn))))
              match cs', hcl with
              | [u0, u1, u2, u3, u4], _ =>
                refine ⟨t, fun _ => ⟨u0, u1, u2, u3, u4, ?_, ?_, ?_, ?_, ?_, htv⟩⟩
                · simpa [Addr.add] using hcat 0 (by omega)
                · simpa using hcat 1 (by omega)
                · simpa using hcat 2 (by omega)
                · simpa using hcat 3 (by omega)
                · simpa using hcat 4 (by omega)
            · exact ⟨.mk 0 0 ⟨#[]⟩ [] [], fun h => absurd h hj⟩
          obtain ⟨T, hT⟩ := Classical.skolem.1 hT
          have hlm : ((List.range len).map T).length = len := by simp
          refine ⟨.mk k i s ((List.range len).map T) ns, ?_⟩
          have := LV.mk (w := W) (S := fun b => b < W.heap.size) (k := k) (i := i) (s := s) (l := (List.range len).map T) (ns := ns) (A := some a) (A' := A') (c := cap) (c' := c') (rng_of_wf w0) (rng_of_wf w1) hs (by rw [hlm]; exact hl) hn4 hns ?_
          · rw [hlm] at this; exact this
          · intro hp
            rw [hlm] at hp
            obtain ⟨b, off, spot⟩ := a
            obtain ⟨q0, q1, q2, q3, q4, h0, -⟩ := hT 0 hp
            obtain rfl : spot = none := by simpa [Addr.add] using World.cell?_spot h0
            refine ⟨b, off, rfl, ?_, LVs.intro fun j hj => ?_⟩
            · rw [add_at] at h0; exact World.block_lt_of_cell? W _ h0
            · rw [hlm] at hj
              obtain ⟨q0, q1, q2, q3, q4, h0, h1, h2, h3, h4, hv⟩ := hT j hj
              simp only [add_at] at h0 h1 h2 h3 h4
              exact ⟨q0, q1, q2, q3, q4, h0, h1, h2, h3, h4, by simpa using hv⟩
end
end Go.Proofs.Ytipiplnhbecjeaa

/- Values laid behind one another in a row of one's own; a slice of values that came in. -/
namespace Go.Proofs.Ytipiplnhbecjeaa
set_option linter.unusedVariables false
set_option linter.unusedSimpArgs false
set_option maxRecDepth 100000
open Go.RowKit

theorem run_append_none5 (g : Nat) (A : Option Addr) (c : Nat) (w : World) (ty : TypeId) : (Builtin.append_ #[23, 23] ty #[.slice (some ⟨g, 0, none⟩) 0 0, .slice A 0 c]).run Try.prog w = .ok (.slice (some ⟨g, 0, none⟩) 0 0) w := by
  obtain ⟨i0, hi, -, -, -⟩ := info_parts Try.infoVal
  cases A <;> simp [Builtin.append_, run_underlying Try.underlying23, sizeOf, typeInfo, hi, Builtin.lenOf, Builtin.firstCells, loadCells, loadCellsFrom, storeCells]

theorem cell_in {w : World} {S : Nat → Prop} {b off : Nat} {l : List VT} (h : LVs w S b off l) (j : Nat) (hj : j < l.length * 5) : ∃ u, w.cell? ⟨b, off + j, none⟩ = some u ∧ u.oneCell' = true := by
  have hi : j / 5 < l.length := by omega
  obtain ⟨c0, c1, c2, c3, c4, h0, h1, h2, h3, h4, hx⟩ := h.at (j / 5) hi
  obtain ⟨A2, e2, A3, e3, hag, -⟩ := hx.shape
  injection hag with hag; injection hag with hag
  injection hag with y0 hag; injection hag with y1 hag; injection hag with y2 hag; injection hag with y3 hag; injection hag with y4 hag
  subst y0 y1 y2 y3 y4
  have hk : j % 5 = 0 ∨ j % 5 = 1 ∨ j % 5 = 2 ∨ j % 5 = 3 ∨ j % 5 = 4 := by omega
  rcases hk with e | e | e | e | e
  · have e' : off + j = off + j / 5 * 5 := by omega
    exact ⟨_, by rw [e']; exact h0, rfl⟩
  · have e' : off + j = off + j / 5 * 5 + 1 := by omega
    exact ⟨_, by rw [e']; exact h1, rfl⟩
  · have e' : off + j = off + j / 5 * 5 + 2 := by omega
    exact ⟨_, by rw [e']; exact h2, rfl⟩
  · have e' : off + j = off + j / 5 * 5 + 3 := by omega
    exact ⟨_, by rw [e']; exact h3, rfl⟩
  · have e' : off + j = off + j / 5 * 5 + 4 := by omega
    exact ⟨_, by rw [e']; exact h4, rfl⟩

theorem wpList_append_vals {w : World} {ops : Array Oper} {rest : List Oper} {o : Oper} {a : Act} {Q : Exit → Act → World → Prop} (hgd : o.guard = none) (s x : Operand)
    (ho : o.op = .call { callee := .builtin .append, args := #[s, x], argTypes := #[23, 23] }) (B g : Nat) (hg : w.heap[g]? = some (.cells #[] 25 (0, 0))) (hBg : B ≤ g) (hs : a.eval s = .slice (some ⟨g, 0, none⟩) 0 0)
    (A : Option Addr) (c : Nat) (l : List VT) (hx : a.eval x = .slice A l.length c) (h : LVA w (fun b => b < B) A l) (hl : l.length ≤ 1759218604390)
    (K : ∀ (G cap : Nat) (w' : World) (f : Nat → Value), B ≤ G → w'.rowIs G 25 (cap * 5) f → l.length ≤ cap → LVA w' (fun b => b < w'.heap.size) (some ⟨G, 0, none⟩) l → Below B w w' → wpList Try.prog ops Q rest (a.put o.dst (.slice (some ⟨G, 0, none⟩) l.length cap)) w') :
    wpList Try.prog ops Q (o :: rest) a w := by
  have hgs : g < w.heap.size := (Array.getElem?_eq_some_iff.1 hg).1
  by_cases hn : l.length = 0
  · have hrun := run_append_none5 g A c w o.type
    rw [hn] at hx
    have hnil := List.eq_nil_of_length_eq_zero hn
    have hK := K g 0 w (fun _ => undef) hBg ⟨#[], hg, rfl, fun i hi => absurd hi (by omega)⟩ (by omega) (by rw [hnil]; exact fun h => absurd h (Nat.lt_irrefl 0)) (Below.refl _ _)
    rw [hn] at hK
    refine wpList_plain hgd fun K' hK' => ?_
    unfold Oper.wp
    simp [execOp, ho, resolve, invoke, builtin, hs, hx, hrun, Result.andThen]
    exact hK' _ _ hK
  · obtain ⟨b, off, rfl, hb, hls⟩ := h (by omega)
    obtain ⟨i0, hi, hz0, hz1, hz2⟩ := info_parts Try.infoVal
    obtain ⟨news, hnews⟩ : ∃ news : List Value, news = (List.range (l.length * 5)).map fun q => (w.cell? ⟨b, off + q, none⟩).getD undef := ⟨_, rfl⟩
    have hnl : news.length = l.length * 5 := by rw [hnews]; simp
    have hat : ∀ q, q < l.length * 5 → ∃ u, news[q]? = some u ∧ w.cell? ⟨b, off + q, none⟩ = some u ∧ u.oneCell' = true := fun q hq => by
      obtain ⟨u, hu, ho⟩ := cell_in hls q hq
      refine ⟨u, ?_, hu, ho⟩
      rw [hnews]
      simp [List.getElem?_map, List.getElem?_range hq, hu]
    refine wpList_append_own _ hgd s x 23 ho g 25 i0 _ 5 80 Try.underlying23 hi hz0 hz1 hz2 rfl (by decide) _ 0 [] hs ⟨rfl, .inr ⟨g, 0, #[], rfl, Nat.le_refl _, hg, Nat.le_refl _, by decide, rfl, rfl⟩⟩ ⟨b, off, none⟩ l.length c news hx hnl ?_ ?_ ?_ ?_ (by omega) ?_
    · intro j u hj
      have hjl := (List.getElem?_eq_some_iff.1 hj).1
      obtain ⟨u', h1, h2, -⟩ := hat j (by omega)
      rw [addr_at, h2, ← h1, hj]
    · intro u hu
      obtain ⟨j, hj, rfl⟩ := List.mem_iff_getElem.1 hu
      obtain ⟨u', h1, -, h3⟩ := hat j (by omega)
      rw [List.getElem?_eq_getElem hj] at h1
      injection h1 with h1
      rw [h1]; exact h3
    · unfold maxLen; omega
    · omega
    · intro v' w' hown hgr hnil
      have hbel : Below B w w' := below_of_grown hgr (by omega) (fun k hk => by
        have : g = k := by simpa [Value.ownBlock] using hk
        omega)
      rcases hown.2 with ⟨-, h0⟩ | ⟨G, cap, cur, rfl, hG, hh, hcap, -, hsz, htk⟩
      · omega
      · have hrow : w'.rowIs G 25 (cap * 5) (fun i => cur[i]?.getD undef) := ⟨cur, hh, hsz, fun i hi => by show cur[i]? = some (cur[i]?.getD undef); rw [Array.getElem?_eq_getElem (by omega)]; rfl⟩
        have hcur : ∀ q, q < l.length * 5 → ∃ u, cur[q]?.getD undef = u ∧ w.cell? ⟨b, off + q, none⟩ = some u := fun q hq => by
          obtain ⟨u, h1, h2, -⟩ := hat q hq
          refine ⟨u, ?_, h2⟩
          have h3 := congrArg (fun l => l[q]?) htk
          simp only [List.nil_append] at h3
          rw [h1, List.getElem?_take_of_lt (by omega)] at h3
          have h4 : cur[q]? = some u := by simpa using h3
          rw [h4]; rfl
        have e0 : 0 + l.length = l.length := Nat.zero_add _
        rw [e0] at hcap ⊢
        refine K G cap w' _ (Nat.le_trans hBg hG) hrow hcap ?_ hbel
        refine fun _ => ⟨G, 0, rfl, (Array.getElem?_eq_some_iff.1 hh).1, LVs_of_row hrow l 0 (by omega) fun i hi => ?_⟩
        obtain ⟨c0, c1, c2, c3, c4, h0, h1, h2, h3, h4, hv⟩ := hls.at i hi
        obtain ⟨u0, g0, k0⟩ := hcur (i * 5) (by omega)
        obtain ⟨u1, g1, k1⟩ := hcur (i * 5 + 1) (by omega)
        obtain ⟨u2, g2, k2⟩ := hcur (i * 5 + 2) (by omega)
        obtain ⟨u3, g3, k3⟩ := hcur (i * 5 + 3) (by omega)
        obtain ⟨u4, g4, k4⟩ := hcur (i * 5 + 4) (by omega)
        simp only [Nat.zero_add]
        rw [g0, g1, g2, g3, g4]
        rw [← Nat.add_assoc, h1] at k1
        rw [← Nat.add_assoc, h2] at k2
        rw [← Nat.add_assoc, h3] at k3
        rw [← Nat.add_assoc, h4] at k4
        rw [h0] at k0
        injection k0 with k0; injection k1 with k1; injection k2 with k2; injection k3 with k3; injection k4 with k4
        subst k0 k1 k2 k3 k4
        exact (hv.keep fun b hb => hbel.block b hb).imp fun b hb => Nat.lt_of_lt_of_le (Nat.lt_of_lt_of_le hb (by omega : B ≤ w.heap.size)) hbel.size

section
open Go.ChangeShapes Go.WideShapes Go.Joins Go.Deep
variable {H : Type} {enc : TypeId × Value → H} {W : World} {sp : Nat → Bool}
theorem open_vals {fuel : Nat} {cs : List Value} {x : DataW H × List MemPlace} (h : DataW.trod enc Try.prog W 0 sp true fuel 23 cs = some x) (hw3 : ∀ n ∈ x.1.weights Try.prog 23, n ≤ reachBytes) :
    ∃ A c, ∃ l : List VT, cs = [.slice A l.length c] ∧ l.length ≤ 1759218604390 ∧ LVA W (fun b => b < W.heap.size) A l := by
  rcases DataW.trod_slice Try.underlying23 h with ⟨rfl, -⟩ | ⟨a, len, cap, elems, rest, m, hm, rfl, x3, -, hlc, -, hel, hat, -, -⟩
  · exact ⟨none, 0, [], rfl, by simp, fun h => absurd h (by simp)⟩
  · rw [x3] at hw3
    simp only [DataW.weights, Try.underlying23] at hw3
    have hl : len ≤ 1759218604390 := by
      have h1 := hw3 _ (List.mem_cons_self ..)
      rw [bytesVal] at h1
      simp only [List.length_map, hel, reachBytes] at h1
      omega
    have hT : ∀ j, ∃ t : VT, j < len → ∃ c0 c1 c2 c3 c4, W.cell? (a.add (j * 5)) = some c0 ∧ W.cell? ((a.add (j * 5)).add 1) = some c1 ∧ W.cell? ((a.add (j * 5)).add 2) = some c2 ∧ W.cell? ((a.add (j * 5)).add 3) = some c3 ∧ W.cell? ((a.add (j * 5)).add 4) = some c4 ∧
        LV W (fun b => b < W.heap.size) t (.agg #[c0, c1, c2, c3, c4]) := by
      intro j
      by_cases hj : j < len
      · have h1 := hat j hj
        rw [cellsVal, List.getElem?_eq_getElem (by omega)] at h1
        obtain ⟨cs', hc, ht⟩ := Option.bind_eq_some_iff.1 h1
        obtain ⟨-, hcl, hcat⟩ := World.cells?_some hc
        obtain ⟨t, htv⟩ := open_val m cs' _ ht (fun n hn => hw3 n (List.mem_cons_of_mem _ (List.mem_append_left _ (mem_weightsAll (List.mem_map.2 ⟨_, List.getElem_mem (by omega), rfl⟩) n hn))))
        match cs', hcl with
        | [u0, u1, u2, u3, u4], _ =>
          refine ⟨t, fun _ => ⟨u0, u1, u2, u3, u4, ?_, ?_, ?_, ?_, ?_, htv⟩⟩
          · simpa [Addr.add] using hcat 0 (by omega)
          · simpa using hcat 1 (by omega)
          · simpa using hcat 2 (by omega)
          · simpa using hcat 3 (by omega)
          · simpa using hcat 4 (by omega)
      · exact ⟨.mk 0 0 ⟨#[]⟩ [] [], fun h => absurd h hj⟩
    obtain ⟨T, hT⟩ := Classical.skolem.1 hT
    have hlm : ((List.range len).map T).length = len := by simp
    refine ⟨some a, cap, (List.range len).map T, by rw [hlm], by rw [hlm]; exact hl, ?_⟩
    intro hp
    rw [hlm] at hp
    obtain ⟨b, off, spot⟩ := a
    obtain ⟨q0, q1, q2, q3, q4, h0, -⟩ := hT 0 hp
    obtain rfl : spot = none := by simpa [Addr.add] using World.cell?_spot h0
    refine ⟨b, off, rfl, ?_, LVs.intro fun j hj => ?_⟩
    · rw [add_at] at h0; exact World.block_lt_of_cell? W _ h0
    · rw [hlm] at hj
      obtain ⟨q0, q1, q2, q3, q4, h0, h1, h2, h3, h4, hv⟩ := hT j hj
      simp only [add_at] at h0 h1 h2 h3 h4
      exact ⟨q0, q1, q2, q3, q4, h0, h1, h2, h3, h4, by simpa using hv⟩
end
end Go.Proofs.Ytipiplnhbecjeaa

/- append, and where the new row lies. -/
namespace Go.Proofs.Ytipiplnhbecjeaa
set_option linter.unusedVariables false
set_option linter.unusedSimpArgs false
open Go
variable {P : Program} (w : World)

/-- The new row lies where the old one lay, or behind all. -/
def WhereRow (w : World) (v v' : Value) : Prop := v'.ownBlock = v.ownBlock ∨ ∃ q, w.heap.size ≤ q ∧ v'.ownBlock = some q

theorem run_append_moved (base : Nat) (t ty e : TypeId) (i : TypeInfo) (z : Value) (size bytes : Nat) (ht : P.underlying t = some (.slice e)) (hi : P.info? e = some i) (hz : i.zero = some z)
    (hsize : i.size = size) (hby : i.bytes = bytes) (hzs : z.cells.size = size) (hsz : 0 < size)
    (v : Value) (n : Nat) (xs : List Value) (hown : w.ownsRow base e size v n xs)
    (a : Addr) (m c : Nat) (news : List Value) (hl : news.length = m * size) (hnews : ∀ j u, news[j]? = some u → w.cell? (a.add j) = some u) (h1 : ∀ u ∈ news, u.oneCell' = true)
    (h63 : n + m ≤ maxLen) (hbytes : (n + m) * bytes ≤ 140737488355328) (hbase : base ≤ w.heap.size) :
    ∃ v' w', (Builtin.append_ #[t, t] ty #[v, .slice (some a) m c]).run P w = .ok v' w' ∧ w'.ownsRow base e size v' (n + m) (xs ++ news) ∧ w.grownBy w' v.ownBlock ∧ WhereRow w v v' := by
  obtain ⟨v', w', hr, h2, h3, h4⟩ := run_append_own (P := P) w base t ty e i z size bytes ht hi hz hsize hby hzs hsz v n xs hown a m c news hl hnews h1 h63 hbytes hbase
  refine ⟨v', w', hr, h2, h3, ?_⟩
  subst hsize
  subst hby
  have hsmall : n + m ≤ 9223372036854775807 := by simp only [maxLen] at h63; omega
  rcases hown.2 with ⟨rfl, rfl⟩ | ⟨g, cap, cur, rfl, hbg, hg, hnc, hcm, hcs, htake⟩
  · by_cases hm : m = 0
    · exact .inl (by rw [h4.2 ⟨rfl, hm⟩])
    · have hr2 := run_append_nil (P := P) w t ty e i z ht hi hz a m c news hl hnews (by omega) (by omega) (by have hb := hbytes; simp only [Nat.zero_add] at hb; omega)
      rw [hr] at hr2
      simp only [Result.ok.injEq] at hr2
      exact .inr ⟨w.heap.size, Nat.le_refl _, by rw [hr2.1]; rfl⟩
  · by_cases hroom : n + m ≤ cap
    · obtain ⟨w2, hr2, -⟩ := run_append_fits (P := P) w base t ty e i i.size ht hi rfl g n cap xs hown a m c news hl hnews h1 hroom
      rw [hr] at hr2
      simp only [Result.ok.injEq] at hr2
      exact .inl (by rw [hr2.1]; rfl)
    · have holds : ∀ j u, xs[j]? = some u → w.cell? ((⟨g, 0, none⟩ : Addr).add j) = some u := hown.cells (g := g) rfl
      have hr2 := run_append_grow (P := P) w t ty e i z ht hi hz ⟨g, 0, none⟩ n cap xs hown.1 holds a m c news hl hnews (by omega) (by omega) (growslice_fits (by omega) hbytes)
      rw [hr] at hr2
      simp only [Result.ok.injEq] at hr2
      exact .inr ⟨w.heap.size, Nat.le_refl _, by rw [hr2.1]; rfl⟩

theorem wp_append_moved {o : Oper} {a : Act} {K : Act → World → Prop} {Q : Exit → Act → World → Prop} (s x : Operand) (t : TypeId)
    (ho : o.op = .call { callee := .builtin .append, args := #[s, x], argTypes := #[t, t] })
    (base : Nat) (e : TypeId) (i : TypeInfo) (z : Value) (size bytes : Nat) (ht : P.underlying t = some (.slice e)) (hi : P.info? e = some i) (hz : i.zero = some z)
    (hsize : i.size = size) (hby : i.bytes = bytes) (hzs : z.cells.size = size) (hsz : 0 < size)
    (v : Value) (n : Nat) (xs : List Value) (hs : a.eval s = v) (hown : w.ownsRow base e size v n xs)
    (ad : Addr) (m c : Nat) (news : List Value) (hx : a.eval x = .slice (some ad) m c) (hl : news.length = m * size) (hnews : ∀ j u, news[j]? = some u → w.cell? (ad.add j) = some u) (h1 : ∀ u ∈ news, u.oneCell' = true)
    (h63 : n + m ≤ maxLen) (hbytes : (n + m) * bytes ≤ 140737488355328) (hbase : base ≤ w.heap.size)
    (h : ∀ v' w', w'.ownsRow base e size v' (n + m) (xs ++ news) → w.grownBy w' v.ownBlock → WhereRow w v v' → K (a.put o.dst v') w') : o.wp P a w K Q := by
  obtain ⟨v', w', hr, h2, h3, h4⟩ := run_append_moved (P := P) w base t o.type e i z size bytes ht hi hz hsize hby hzs hsz v n xs hown ad m c news hl hnews h1 h63 hbytes hbase
  unfold Oper.wp execOp
  simp only [ho, resolve, invoke, builtin, Sem.run_bind, Sem.run_pure, Result.andThen_ok, List.map_toArray, List.map_cons, List.map_nil, hs, hx, hr]
  exact h v' w' h2 h3 h4
end Go.Proofs.Ytipiplnhbecjeaa
