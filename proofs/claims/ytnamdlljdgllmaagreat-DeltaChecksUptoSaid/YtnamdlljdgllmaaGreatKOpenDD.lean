/- Changes that came in, with a bound of their depth: what their reading holds. -/
import Derived.Test.YtnamdlljdgllmaaGreatKOpenDl
import Derived.Test.YtnamdlljdgllmaaGreatKValO
import Derived.Test.YtnamdlljdgllmaaGreatRows
namespace Go.Proofs.YtnamdlljdgllmaaGreat
set_option linter.unusedVariables false
set_option linter.unusedSimpArgs false
set_option maxRecDepth 100000
set_option linter.unusedVariables false
open Go.ChangeShapes Go.WideShapes Go.RowKit Go.Joins Go.Deep
theorem bulkD_mem {H : Type} {d : DataW H} : ∀ {l : List (DataW H)}, d ∈ l → Rows.uptoBulk d ≤ Rows.uptoBulkAll l
  | x :: r, h => by
    simp only [Rows.uptoBulkAll]
    rcases List.mem_cons.1 h with rfl | h
    · omega
    · have := bulkD_mem h; omega
theorem depthL_nilD : depthL [] = 0 := by unfold depthL; rfl
theorem depthL_allD {n : Nat} : ∀ {l : List VT}, (∀ t ∈ l, depthT t ≤ n) → depthL l ≤ n
  | [], _ => by rw [depthL_nilD]; omega
  | x :: r, h => by
    have h1 := h x (List.mem_cons_self ..)
    have h2 := depthL_allD (l := r) fun t ht => h t (List.mem_cons_of_mem _ ht)
    unfold depthL
    omega
section
variable {H : Type} {enc : TypeId × Value → H} {W : World} {sp : Nat → Bool}
theorem open_valD : ∀ (fuel : Nat) (cs : List Value) (x : DataW H × List MemPlace), DataW.trod enc Tryz.prog W 0 sp true fuel 29 cs = some x → (∀ n ∈ x.1.weights Tryz.prog 29, n ≤ reachBytes) →
    ∃ t, depthT t ≤ Rows.uptoBulk x.1 ∧ LV W (fun b => b < W.heap.size) t (.agg cs.toArray) := by
  intro fuel
  induction fuel using Nat.strongRecOn with
  | _ fuel ih =>
    intro cs x h hw
    obtain ⟨f0, f1, f2, f3, f4, hu, t0, t1, t2, t3, t4, o0, o1, o2, o3, o4⟩ := fieldsVal
    obtain ⟨xs, n, hfu, hx, hlen, hxl, hg⟩ := DataW.trod_struct hu h
    rw [cellsVal] at hlen
    match cs, hlen with
    | [c0, c1, c2, c3, c4], _ =>
      match xs, hxl with
      | [y0, y1, y2, y3, y4], _ =>
        have g0 := hg 0 f0 rfl
        have g1 := hg 1 f1 rfl
        have g2 := hg 2 f2 rfl
        have g3 := hg 3 f3 rfl
        have g4 := hg 4 f4 rfl
        rw [t0, o0, cellsI] at g0
        rw [t1, o1, cellsI] at g1
        rw [t2, o2, cellsStr] at g2
        rw [t3, o3, cellsVals] at g3
        rw [t4, o4, cellsStrs] at g4
        have hws := hw
        rw [hx] at hws
        simp only [DataW.weights, hu, List.map_cons, List.map_nil, t0, t1, t2, t3, t4] at hws
        obtain ⟨k, e0, -, w0⟩ := DataW.trod_int Tryz.underlying3 g0
        obtain ⟨i, e1, -, w1⟩ := DataW.trod_int Tryz.underlying3 g1
        obtain ⟨s, e2, x2, w2⟩ := DataW.trod_string Tryz.underlying9 g2
        simp at e0 e1 e2
        subst e0 e1 e2
        have hs : s.size ≤ 140737488351232 := by
          have := hws s.data.toList.length (by rw [DataW.weightsEach, DataW.weightsEach, DataW.weightsEach]; refine List.mem_append_right _ (List.mem_append_right _ (List.mem_append_left _ ?_)); rw [x2]; simp [DataW.weights])
          simpa [reachBytes] using this
        obtain ⟨A', c', ns, e4, hn4, hns⟩ := open_names g4 (fun n hn => hws n (by rw [DataW.weightsEach, DataW.weightsEach, DataW.weightsEach, DataW.weightsEach, DataW.weightsEach]; exact List.mem_append_right _ (List.mem_append_right _ (List.mem_append_right _ (List.mem_append_right _ (List.mem_append_left _ hn))))))
        simp at e4
        subst e4
        have hw3 : ∀ n ∈ y3.1.weights Tryz.prog 27, n ≤ reachBytes := fun n hn => hws n (by rw [DataW.weightsEach, DataW.weightsEach, DataW.weightsEach, DataW.weightsEach]; exact List.mem_append_right _ (List.mem_append_right _ (List.mem_append_right _ (List.mem_append_left _ hn))))
        rcases DataW.trod_slice Tryz.underlying27 g3 with ⟨e3, -⟩ | ⟨a, len, cap, elems, rest, m, hm, e3, x3, -, hlc, -, hel, hat, -, -⟩
        · simp at e3
          subst e3
          exact ⟨.mk k i s [] ns, by rw [hx, depthT_mk, depthL_nilD]; simp only [Rows.uptoBulk]; omega, LV.mk (rng_of_wf w0) (rng_of_wf w1) hs (by simp) hn4 hns (fun h => absurd h (by simp))⟩
        · simp at e3
          subst e3
          simp at x3
          rw [x3] at hw3
          simp only [DataW.weights, Tryz.underlying27] at hw3
          have hl : len ≤ 1759218604390 := by
            have h1 := hw3 _ (List.mem_cons_self ..)
            rw [bytesVal] at h1
            simp only [List.length_map, hel, reachBytes] at h1
            omega
          have hT : ∀ j, ∃ t : VT, j < len → depthT t ≤ Rows.uptoBulkAll (elems.map (·.1)) ∧ ∃ c0 c1 c2 c3 c4, W.cell? (a.add (j * 5)) = some c0 ∧ W.cell? ((a.add (j * 5)).add 1) = some c1 ∧ W.cell? ((a.add (j * 5)).add 2) = some c2 ∧ W.cell? ((a.add (j * 5)).add 3) = some c3 ∧ W.cell? ((a.add (j * 5)).add 4) = some c4 ∧
              LV W (fun b => b < W.heap.size) t (.agg #[c0, c1, c2, c3, c4]) := by
            intro j
            by_cases hj : j < len
            · have h1 := hat j hj
              rw [cellsVal, List.getElem?_eq_getElem (by omega)] at h1
              obtain ⟨cs', hc, ht⟩ := Option.bind_eq_some_iff.1 h1
              obtain ⟨-, hcl, hcat⟩ := World.cells?_some hc
              obtain ⟨t, htd, htv⟩ := ih m (by omega) cs' _ ht (fun n hn => hw3 n (List.mem_cons_of_mem _ (List.mem_append_left _ (mem_weightsAll (List.mem_map.2 ⟨_, List.getElem_mem (by omega), rfl⟩) n hn))))
              match cs', hcl with
              | [u0, u1, u2, u3, u4], _ =>
                refine ⟨t, fun _ => ⟨Nat.le_trans htd (bulkD_mem (List.mem_map.2 ⟨_, List.getElem_mem (by omega), rfl⟩)), u0, u1, u2, u3, u4, ?_, ?_, ?_, ?_, ?_, htv⟩⟩
                · simpa [Addr.add] using hcat 0 (by omega)
                · simpa using hcat 1 (by omega)
                · simpa using hcat 2 (by omega)
                · simpa using hcat 3 (by omega)
                · simpa using hcat 4 (by omega)
            · exact ⟨.mk 0 0 ⟨#[]⟩ [] [], fun h => absurd h hj⟩
          obtain ⟨T, hT⟩ := Classical.skolem.1 hT
          have hlm : ((List.range len).map T).length = len := by simp
          refine ⟨.mk k i s ((List.range len).map T) ns, ?_, ?_⟩
          · rw [hx, depthT_mk]
            have h1 : depthL ((List.range len).map T) ≤ Rows.uptoBulkAll (elems.map (·.1)) := depthL_allD fun t ht => by
              obtain ⟨j, hj, rfl⟩ := List.mem_map.1 ht
              exact (hT j (List.mem_range.1 hj)).1
            simp only [Rows.uptoBulk, List.map_cons, List.map_nil, Rows.uptoBulkAll]
            rw [x3]
            simp only [Rows.uptoBulk]
            omega
          have := LV.mk (w := W) (S := fun b => b < W.heap.size) (k := k) (i := i) (s := s) (l := (List.range len).map T) (ns := ns) (A := some a) (A' := A') (c := cap) (c' := c') (rng_of_wf w0) (rng_of_wf w1) hs (by rw [hlm]; exact hl) hn4 hns ?_
          · rw [hlm] at this; exact this
          · intro hp
            rw [hlm] at hp
            obtain ⟨b, off, spot⟩ := a
            obtain ⟨-, q0, q1, q2, q3, q4, h0, -⟩ := hT 0 hp
            obtain rfl : spot = none := by simpa [Addr.add] using World.cell?_spot h0
            refine ⟨b, off, rfl, ?_, LVs.intro fun j hj => ?_⟩
            · rw [add_at] at h0; exact World.block_lt_of_cell? W _ h0
            · rw [hlm] at hj
              obtain ⟨-, q0, q1, q2, q3, q4, h0, h1, h2, h3, h4, hv⟩ := hT j hj
              simp only [add_at] at h0 h1 h2 h3 h4
              exact ⟨q0, q1, q2, q3, q4, h0, h1, h2, h3, h4, by simpa using hv⟩
theorem open_delD {fuel : Nat} {cs : List Value} {x : DataW H × List MemPlace} (h : DataW.trod enc Tryz.prog W 0 sp true fuel 31 cs = some x) (hw : ∀ n ∈ x.1.weights Tryz.prog 31, n ≤ reachBytes) :
    ∃ d : DelT, depthT d.val ≤ Rows.uptoBulk x.1 ∧ DelL W (fun b => b < W.heap.size) d cs.toArray ∧ ∀ PA n pc, cs.toArray[1]? = some (.slice PA n pc) → pc ≤ 9223372036854775807 := by
  obtain ⟨f0, f1, f2, f3, hu, t0, t1, t2, t3, o0, o1, o2, o3⟩ := fieldsDlt
  obtain ⟨xs, n, hfu, hx, hlen, hxl, hg⟩ := DataW.trod_struct hu h
  rw [cellsDlt] at hlen
  match cs, hlen with
  | [c0, c1, c2, c3, c4, c5, c6, c7], _ =>
    match xs, hxl with
    | [y0, y1, y2, y3], _ =>
      have g0 := hg 0 f0 rfl
      have g1 := hg 1 f1 rfl
      have g2 := hg 2 f2 rfl
      have g3 := hg 3 f3 rfl
      rw [t0, o0, cellsI] at g0
      rw [t1, o1, cellsStrs] at g1
      rw [t2, o2, cellsVal] at g2
      rw [t3, o3, cellsI] at g3
      have hws := hw
      rw [hx] at hws
      simp only [DataW.weights, hu, List.map_cons, List.map_nil, t0, t1, t2, t3] at hws
      obtain ⟨k, e0, -, w0⟩ := DataW.trod_int Tryz.underlying3 g0
      obtain ⟨m, e3, -, w3⟩ := DataW.trod_int Tryz.underlying3 g3
      simp at e0 e3
      subst e0 e3
      have hw1 : ∀ n ∈ y1.1.weights Tryz.prog 23, n ≤ reachBytes := fun n hn => hws n (by rw [DataW.weightsEach, DataW.weightsEach]; exact List.mem_append_right _ (List.mem_append_left _ hn))
      have hw2 : ∀ n ∈ y2.1.weights Tryz.prog 29, n ≤ reachBytes := fun n hn => hws n (by rw [DataW.weightsEach, DataW.weightsEach, DataW.weightsEach]; exact List.mem_append_right _ (List.mem_append_right _ (List.mem_append_left _ hn)))
      obtain ⟨PA, pc, ps, e1, hpc, hpo, h63, hpn, hps⟩ := open_names6 g1 hw1
      obtain ⟨t, htd, ht⟩ := open_valD _ _ _ g2 hw2
      simp at e1
      subst e1
      obtain ⟨VA, vc, VA', vc', hvs, -⟩ := ht.shape
      simp at hvs
      obtain ⟨rfl, rfl, rfl, rfl, rfl⟩ := hvs
      refine ⟨⟨k, ps, t, m⟩, by rw [hx]; simp only [Rows.uptoBulk, List.map_cons, List.map_nil, Rows.uptoBulkAll]; omega, ⟨PA, pc, VA, vc, VA', vc', rfl, ht, hps, hpc, hpo, in64_of_wf w0, in64_of_wf w3, hpn⟩, fun PA' n' pc' e => ?_⟩
      injection e with e
      injection e with _ _ e
      omega
theorem open_delsD {fuel : Nat} {cs : List Value} {x : DataW H × List MemPlace} (h : DataW.trod enc Tryz.prog W 0 sp true fuel 22 cs = some x) (hw : ∀ n ∈ x.1.weights Tryz.prog 22, n ≤ reachBytes) :
    ∃ A c, ∃ os : List DelT, cs = [.slice A os.length c] ∧ (A = none → c = 0 ∧ os = []) ∧ os.length ≤ c ∧ os.length ≤ 1172812402961 ∧ DelsL W (fun b => b < W.heap.size) A os ∧ ∀ d ∈ os, depthT d.val ≤ Rows.uptoBulk x.1 := by
  rcases DataW.trod_slice Tryz.underlying22 h with ⟨e3, -⟩ | ⟨a, len, cap, elems, rest, m, hm, e3, x3, -, hlc, -, hel, hat, -, -⟩
  · exact ⟨none, 0, [], e3, fun _ => ⟨rfl, rfl⟩, by simp, by simp, fun h => absurd h (by simp), fun d hd => absurd hd List.not_mem_nil⟩
  · have hws := hw
    rw [x3] at hws
    simp only [DataW.weights, Tryz.underlying22] at hws
    have hl : len ≤ 1172812402961 := by
      have h1 := hws _ (List.mem_cons_self ..)
      rw [bytesDlt] at h1
      simp only [List.length_map, hel, reachBytes] at h1
      omega
    have hT : ∀ j, ∃ o : DelT, j < len → ∃ cs : Array Value, (∀ i v, cs[i]? = some v → W.cell? ((a.add (j * 8)).add i) = some v) ∧ DelL W (fun b => b < W.heap.size) o cs ∧ depthT o.val ≤ Rows.uptoBulkAll (elems.map (·.1)) := by
      intro j
      by_cases hj : j < len
      · have h1 := hat j hj
        rw [cellsDlt, List.getElem?_eq_getElem (by omega)] at h1
        obtain ⟨cs', hc, ht⟩ := Option.bind_eq_some_iff.1 h1
        obtain ⟨-, hcl, hcat⟩ := World.cells?_some hc
        obtain ⟨o, hod, ho, -⟩ := open_delD ht (fun n hn => hws n (List.mem_cons_of_mem _ (List.mem_append_left _ (mem_weightsAll (List.mem_map.2 ⟨_, List.getElem_mem (by omega), rfl⟩) n hn))))
        refine ⟨o, fun _ => ⟨cs'.toArray, fun i v hv => ?_, ho, Nat.le_trans hod (bulkD_mem (List.mem_map.2 ⟨_, List.getElem_mem (by omega), rfl⟩))⟩⟩
        have hi := (Array.getElem?_eq_some_iff.1 hv).1
        have hi' : i < cs'.length := by simpa using hi
        rw [hcat i (by omega)]
        simpa using hv
      · exact ⟨⟨0, [], .mk 0 0 ⟨#[]⟩ [] [], 0⟩, fun h => absurd h hj⟩
    obtain ⟨T, hT⟩ := Classical.skolem.1 hT
    have hlm : ((List.range len).map T).length = len := by simp
    by_cases hp0 : 0 < len
    · obtain ⟨b, off, spot⟩ := a
      obtain ⟨cs0, h0, hok0, -⟩ := hT 0 hp0
      obtain ⟨PA0, pc0, VA0, vc0, VA1, vc1, hcs0, -⟩ := hok0
      have h00 := h0 0 (.int .i64 (T 0).kind) (by rw [hcs0]; rfl)
      obtain rfl : spot = none := by simpa [Addr.add] using World.cell?_spot h00
      refine ⟨some ⟨b, off, none⟩, cap, (List.range len).map T, by rw [hlm]; exact e3, (fun h => by cases h), by omega, by omega, fun hp => ?_, fun d hd => ?_⟩
      · refine ⟨b, off, rfl, ?_, fun j hj => ?_⟩
        · rw [addr_add6, addr_add6] at h00; exact World.block_lt_of_cell? W _ h00
        · rw [hlm] at hj
          obtain ⟨cs, h0, h1, -⟩ := hT j hj
          refine ⟨cs, fun i v hv => ?_, by simpa using h1⟩
          have := h0 i v hv
          rw [addr_add6, addr_add6] at this
          exact this
      · obtain ⟨k, hk, rfl⟩ := List.mem_map.1 hd
        have h1 := (hT k (List.mem_range.1 hk)).choose_spec.2.2
        rw [x3]
        simp only [Rows.uptoBulk]
        omega
    · have hl0 : len = 0 := by omega
      subst hl0
      exact ⟨some a, cap, [], by simpa using e3, (fun h => by cases h), by simp, by simp, fun h => absurd h (by simp), fun d hd => absurd hd List.not_mem_nil⟩
end
end Go.Proofs.YtnamdlljdgllmaaGreat
