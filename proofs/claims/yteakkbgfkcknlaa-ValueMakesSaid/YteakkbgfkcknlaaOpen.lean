/- A value that came in reads as a tree: of the row's reading. -/
import Derived.Test.YteakkbgfkcknlaaVal
import Derived.Deep.Slices
import Derived.SliceStrings
import Derived.SizedLaws
import Derived.Lib.SmallJoins
namespace Go.Proofs.Yteakkbgfkcknlaa
open Go.ChangeShapes Go.WideShapes Go.RowKit Go.Joins Go.Deep

theorem cellsVal : Try.prog.cellsOf 49 = 5 := by kernel_rfl
theorem cellsI : Try.prog.cellsOf 3 = 1 := by kernel_rfl
theorem cellsStr : Try.prog.cellsOf 9 = 1 := by kernel_rfl
theorem cellsVals : Try.prog.cellsOf 46 = 1 := by kernel_rfl
theorem cellsStrs : Try.prog.cellsOf 47 = 1 := by kernel_rfl
theorem bytesVal : Try.prog.bytesOf 49 = 80 := by kernel_rfl
theorem bytesStr : Try.prog.bytesOf 9 = 16 := by kernel_rfl
theorem fieldsVal : ∃ f0 f1 f2 f3 f4 : Field, Try.prog.underlying 49 = some (.struct #[f0, f1, f2, f3, f4]) ∧ f0.type = 3 ∧ f1.type = 3 ∧ f2.type = 9 ∧ f3.type = 46 ∧ f4.type = 47 ∧ f0.offset = 0 ∧ f1.offset = 1 ∧ f2.offset = 2 ∧ f3.offset = 3 ∧ f4.offset = 4 :=
  ⟨_, _, _, _, _, Try.underlying49, rfl, rfl, rfl, rfl, rfl, rfl, rfl, rfl, rfl, rfl⟩

theorem add_at (b off i : Nat) : ((⟨b, off, none⟩ : Addr).add i) = ⟨b, off + i, none⟩ := by
  unfold Addr.add
  split
  · next h => simp [h]
  · rfl

theorem LVs.intro {w : World} {S : Nat → Prop} {b : Nat} : ∀ {l : List VT} {off : Nat}, (∀ j (h : j < l.length), ∃ c0 c1 c2 c3 c4, w.cell? ⟨b, off + j * 5, none⟩ = some c0 ∧ w.cell? ⟨b, off + j * 5 + 1, none⟩ = some c1 ∧ w.cell? ⟨b, off + j * 5 + 2, none⟩ = some c2 ∧
    w.cell? ⟨b, off + j * 5 + 3, none⟩ = some c3 ∧ w.cell? ⟨b, off + j * 5 + 4, none⟩ = some c4 ∧ LV w S l[j] (.agg #[c0, c1, c2, c3, c4])) → LVs w S b off l
  | [], _, _ => by unfold LVs; trivial
  | t :: r, off, h => by
    unfold LVs
    have h0 := h 0 (by simp)
    simp only [Nat.zero_mul, Nat.add_zero] at h0
    refine ⟨h0, LVs.intro fun j hj => ?_⟩
    have := h (j + 1) (by simpa using hj)
    have e : off + (j + 1) * 5 = off + 5 + j * 5 := by omega
    rw [e] at this
    simpa using this

section
variable {H : Type} {enc : TypeId × Value → H} {W : World} {sp : Nat → Bool}

theorem mem_weightsAll {P : Program} {e : TypeId} : ∀ {l : List (DataW H)} {d : DataW H}, d ∈ l → ∀ n ∈ d.weights P e, n ∈ DataW.weightsAll P e l
  | a :: r, d, hd, n, hn => by
    unfold DataW.weightsAll
    rw [List.mem_append]
    rcases List.mem_cons.1 hd with rfl | hd
    · exact .inl hn
    · exact .inr (mem_weightsAll hd n hn)

theorem rng_of_wf {k : Int} (h : (Lit.int .i64 k).wf = true) : Rng k := in64_of_wf h

/-- Texts of a slice. -/
theorem open_names {fuel : Nat} {cs : List Value} {x : DataW H × List MemPlace} (h : DataW.trod enc Try.prog W 0 sp true fuel 47 cs = some x) (hw : ∀ n ∈ x.1.weights Try.prog 47, n ≤ reachBytes) :
    ∃ A c, ∃ ns : List ByteArray, cs = [.slice A ns.length c] ∧ ns.length ≤ 8796093021952 ∧ StrsAt W (fun b => b < W.heap.size) A ns := by
  rcases open_strings Try.underlying47 Try.underlying9 cellsStr h with ⟨rfl, _⟩ | ⟨a, len, cap, ss, rfl, -, hl, hm, hsl, hx, hc, hs⟩
  · exact ⟨none, 0, [], rfl, by simp, fun h => absurd h (by simp)⟩
  · have hle : len ≤ ss.length := by rw [hsl]; split <;> omega
    have hlen : (ss.take len).length = len := by simp; omega
    have hws := hw
    rw [hx] at hws
    simp only [DataW.weights, Try.underlying47] at hws
    have h1 : len ≤ 8796093021952 := by
      have h1 := hws _ (List.mem_cons_self ..)
      rw [bytesStr] at h1
      simp only [strs, List.length_map, hlen, reachBytes] at h1
      omega
    refine ⟨some a, cap, ss.take len, by rw [hlen], by rw [hlen]; exact h1, fun hp => ?_⟩
    rw [hlen] at hp
    obtain ⟨b, off, spot⟩ := a
    have h0 := hc 0 (by omega)
    obtain rfl : spot = none := by simpa [Addr.add] using World.cell?_spot h0
    refine ⟨b, off, rfl, ?_, fun i hi => ?_⟩
    · rw [add_at] at h0; exact World.block_lt_of_cell? W _ h0
    · rw [hlen] at hi
      have hi2 : i < ss.length := by omega
      have h2 := hc i hi2
      rw [add_at] at h2
      refine ⟨?_, ?_⟩
      · rw [h2]; simp [List.getD, List.getElem?_eq_getElem hi2]
      · have hmem : ((.lit (.string ((ss.take len)[i]'(by omega)).data.toList) : DataW H)) ∈ strs (H := H) (ss.take len) := by
          unfold strs
          exact List.mem_map.2 ⟨_, List.getElem_mem _, rfl⟩
        have h3 := hws ((ss.take len)[i]'(by omega)).data.toList.length (List.mem_cons_of_mem _ (List.mem_append_left _ (mem_weightsAll hmem _ (by simp [DataW.weights]))))
        simpa [reachBytes] using h3

theorem open_val : ∀ (fuel : Nat) (cs : List Value) (x : DataW H × List MemPlace), DataW.trod enc Try.prog W 0 sp true fuel 49 cs = some x → (∀ n ∈ x.1.weights Try.prog 49, n ≤ reachBytes) →
    ∃ t, LV W (fun b => b < W.heap.size) t (.agg cs.toArray) := by
  intro fuel
  induction fuel using Nat.strongRecOn with
  | _ fuel ih =>
    intro cs x h hw
    obtain ⟨f0, f1, f2, f3, f4, hu, t0, t1, t2, t3, t4, o0, o1, o2, o3, o4⟩ := fieldsVal
    obtain ⟨xs, n, hfu, hx, hlen, hxl, hg⟩ := DataW.trod_struct hu h
    rw [cellsVal] at hlen
    match cs, hlen with
    | [c0, c1, c2, c3, c4], _ =>
      match xs, hxl with
      | [y0, y1, y2, y3, y4], _ =>
        have g0 := hg 0 f0 rfl
        have g1 := hg 1 f1 rfl
        have g2 := hg 2 f2 rfl
        have g3 := hg 3 f3 rfl
        have g4 := hg 4 f4 rfl
        rw [t0, o0, cellsI] at g0
        rw [t1, o1, cellsI] at g1
        rw [t2, o2, cellsStr] at g2
        rw [t3, o3, cellsVals] at g3
        rw [t4, o4, cellsStrs] at g4
        have hws := hw
        rw [hx] at hws
        simp only [DataW.weights, hu, List.map_cons, List.map_nil, t0, t1, t2, t3, t4] at hws
        obtain ⟨k, e0, -, w0⟩ := DataW.trod_int Try.underlying3 g0
        obtain ⟨i, e1, -, w1⟩ := DataW.trod_int Try.underlying3 g1
        obtain ⟨s, e2, x2, w2⟩ := DataW.trod_string Try.underlying9 g2
        simp at e0 e1 e2
        subst e0 e1 e2
        have hs : s.size ≤ 140737488351232 := by
          have := hws s.data.toList.length (by rw [DataW.weightsEach, DataW.weightsEach, DataW.weightsEach]; refine List.mem_append_right _ (List.mem_append_right _ (List.mem_append_left _ ?_)); rw [x2]; simp [DataW.weights])
          simpa [reachBytes] using this
        obtain ⟨A', c', ns, e4, hn4, hns⟩ := open_names g4 (fun n hn => hws n (by rw [DataW.weightsEach, DataW.weightsEach, DataW.weightsEach, DataW.weightsEach, DataW.weightsEach]; exact List.mem_append_right _ (List.mem_append_right _ (List.mem_append_right _ (List.mem_append_right _ (List.mem_append_left _ hn))))))
        simp at e4
        subst e4
        have hw3 : ∀ n ∈ y3.1.weights Try.prog 46, n ≤ reachBytes := fun n hn => hws n (by rw [DataW.weightsEach, DataW.weightsEach, DataW.weightsEach, DataW.weightsEach]; exact List.mem_append_right _ (List.mem_append_right _ (List.mem_append_right _ (List.mem_append_left _ hn))))
        rcases DataW.trod_slice Try.underlying46 g3 with ⟨e3, -⟩ | ⟨a, len, cap, elems, rest, m, hm, e3, x3, -, hlc, -, hel, hat, -, -⟩
        · simp at e3
          subst e3
          exact ⟨.mk k i s [] ns, LV.mk (rng_of_wf w0) (rng_of_wf w1) hs (by simp) hn4 hns (fun h => absurd h (by simp))⟩
        · simp at e3
          subst e3
          simp at x3
          rw [x3] at hw3
          simp only [DataW.weights, Try.underlying46] at hw3
          have hl : len ≤ 1759218604390 := by
            have h1 := hw3 _ (List.mem_cons_self ..)
            rw [bytesVal] at h1
            simp only [List.length_map, hel, reachBytes] at h1
            omega
          have hT : ∀ j, ∃ t : VT, j < len → ∃ c0 c1 c2 c3 c4, W.cell? (a.add (j * 5)) = some c0 ∧ W.cell? ((a.add (j * 5)).add 1) = some c1 ∧ W.cell? ((a.add (j * 5)).add 2) = some c2 ∧ W.cell? ((a.add (j * 5)).add 3) = some c3 ∧ W.cell? ((a.add (j * 5)).add 4) = some c4 ∧
              LV W (fun b => b < W.heap.size) t (.agg #[c0, c1, c2, c3, c4]) := by
            intro j
            by_cases hj : j < len
            · have h1 := hat j hj
              rw [cellsVal, List.getElem?_eq_getElem (by omega)] at h1
              obtain ⟨cs', hc, ht⟩ := Option.bind_eq_some_iff.1 h1
              obtain ⟨-, hcl, hcat⟩ := World.cells?_some hc
              obtain ⟨t, htv⟩ := ih m (by omega) cs' _ ht (fun n hn => hw3 n (List.mem_cons_of_mem _ (List.mem_append_left _ (mem_weightsAll (List.mem_map.2 ⟨_, List.getElem_mem (by omega), rfl⟩) n hn))))
              match cs', hcl with
              | [u0, u1, u2, u3, u4], _ =>
                refine ⟨t, fun _ => ⟨u0, u1, u2, u3, u4, ?_, ?_, ?_, ?_, ?_, htv⟩⟩
                · simpa [Addr.add] using hcat 0 (by omega)
                · simpa using hcat 1 (by omega)
                · simpa using hcat 2 (by omega)
                · simpa using hcat 3 (by omega)
                · simpa using hcat 4 (by omega)
            · exact ⟨.mk 0 0 ⟨#[]⟩ [] [], fun h => absurd h hj⟩
          obtain ⟨T, hT⟩ := Classical.skolem.1 hT
          have hlm : ((List.range len).map T).length = len := by simp
          refine ⟨.mk k i s ((List.range len).map T) ns, ?_⟩
          have := LV.mk (w := W) (S := fun b => b < W.heap.size) (k := k) (i := i) (s := s) (l := (List.range len).map T) (ns := ns) (A := some a) (A' := A') (c := cap) (c' := c') (rng_of_wf w0) (rng_of_wf w1) hs (by rw [hlm]; exact hl) hn4 hns ?_
          · rw [hlm] at this; exact this
          · intro hp
            rw [hlm] at hp
            obtain ⟨b, off, spot⟩ := a
            obtain ⟨q0, q1, q2, q3, q4, h0, -⟩ := hT 0 hp
            obtain rfl : spot = none := by simpa [Addr.add] using World.cell?_spot h0
            refine ⟨b, off, rfl, ?_, LVs.intro fun j hj => ?_⟩
            · rw [add_at] at h0; exact World.block_lt_of_cell? W _ h0
            · rw [hlm] at hj
              obtain ⟨q0, q1, q2, q3, q4, h0, h1, h2, h3, h4, hv⟩ := hT j hj
              simp only [add_at] at h0 h1 h2 h3 h4
              exact ⟨q0, q1, q2, q3, q4, h0, h1, h2, h3, h4, by simpa using hv⟩
end
end Go.Proofs.Yteakkbgfkcknlaa
