/- Keeps, and calls of a disk, that came in. -/
import Derived.Test.YtclgekmpldeedaaOpenB
import Derived.Test.YtclgekmpldeedaaOpenS
import Derived.Test.YtclgekmpldeedaaFlN
namespace Go.Proofs.Ytclgekmpldeedaa
set_option linter.unusedVariables false
set_option linter.unusedSimpArgs false
open Go.ChangeShapes Go.WideShapes Go.RowKit Go.Joins Go.Deep
set_option linter.unusedVariables false
theorem cellsI9 : Try.prog.cellsOf 3 = 1 := by kernel_rfl
theorem cellsBy9 : Try.prog.cellsOf 22 = 1 := by kernel_rfl
theorem cellsKs9 : Try.prog.cellsOf 24 = 1 := by kernel_rfl
theorem cellsKeep : Try.prog.cellsOf 52 = 2 := by kernel_rfl
theorem bytesKeep : Try.prog.bytesOf 52 = 24 := by kernel_rfl
theorem cellsOp9 : Try.prog.cellsOf 32 = 7 := by kernel_rfl
theorem fieldsKeep : ∃ f0 f1 : Field, Try.prog.underlying 52 = some (.struct #[f0, f1]) ∧ f0.type = 9 ∧ f1.type = 3 ∧ f0.offset = 0 ∧ f1.offset = 1 := ⟨_, _, Try.underlying52, rfl, rfl, rfl, rfl⟩
theorem fieldsOp9 : ∃ f0 f1 f2 f3 f4 f5 f6 : Field, Try.prog.underlying 32 = some (.struct #[f0, f1, f2, f3, f4, f5, f6]) ∧ f0.type = 3 ∧ f1.type = 9 ∧ f2.type = 9 ∧ f3.type = 22 ∧ f4.type = 3 ∧ f5.type = 3 ∧ f6.type = 24 ∧ f0.offset = 0 ∧ f1.offset = 1 ∧ f2.offset = 2 ∧ f3.offset = 3 ∧ f4.offset = 4 ∧ f5.offset = 5 ∧ f6.offset = 6 :=
  ⟨_, _, _, _, _, _, _, Try.underlying32, rfl, rfl, rfl, rfl, rfl, rfl, rfl, rfl, rfl, rfl, rfl, rfl, rfl, rfl⟩
/-- A call of a disk. -/
structure OpV where
  k : Int
  nm : ByteArray
  to : ByteArray
  A : Option Addr
  l : List UInt8
  c : Nat
  n : Int
  m : Int
  KA : Option Addr
  kn : Nat
  kc : Nat
def OpV.cells (o : OpV) : List Value := [.int .i64 o.k, .string o.nm, .string o.to, .slice o.A o.l.length o.c, .int .i64 o.n, .int .i64 o.m, .slice o.KA o.kn o.kc]
structure OpV.Ok (w : World) (o : OpV) : Prop where
  k : -9223372036854775808 ≤ o.k ∧ o.k ≤ 9223372036854775807
  n : -9223372036854775808 ≤ o.n ∧ o.n ≤ 9223372036854775807
  m : -9223372036854775808 ≤ o.m ∧ o.m ≤ 9223372036854775807
  nm : o.nm.size ≤ 140737488351232
  rd : Rd w w.heap.size (.slice o.A o.l.length o.c) o.l
section
variable {H : Type} {enc : TypeId × Value → H} {W : World} {sp : Nat → Bool}
theorem open_keep {fuel : Nat} {cs : List Value} {x : DataW H × List MemPlace} (h : DataW.trod enc Try.prog W 0 sp true fuel 52 cs = some x) (hw : ∀ n ∈ x.1.weights Try.prog 52, n ≤ reachBytes) :
    ∃ (s : ByteArray) (n : Int), cs = [.string s, .int .i64 n] ∧ s.size ≤ 140737488351232 ∧ (-9223372036854775808 ≤ n ∧ n ≤ 9223372036854775807) := by
  obtain ⟨f0, f1, hu, t0, t1, o0, o1⟩ := fieldsKeep
  obtain ⟨xs, n, hfu, hx, hlen, hxl, hg⟩ := DataW.trod_struct hu h
  rw [cellsKeep] at hlen
  match cs, hlen with
  | [c0, c1], _ =>
    match xs, hxl with
    | [y0, y1], _ =>
      have g0 := hg 0 f0 rfl
      have g1 := hg 1 f1 rfl
      rw [t0, o0, cellsStr] at g0
      rw [t1, o1, cellsI9] at g1
      have hws := hw
      rw [hx] at hws
      simp only [DataW.weights, hu, List.map_cons, List.map_nil, t0, t1] at hws
      obtain ⟨s, e0, x0, w0⟩ := DataW.trod_string Try.underlying9 g0
      obtain ⟨i, e1, -, w1⟩ := DataW.trod_int Try.underlying3 g1
      simp at e0 e1
      subst e0 e1
      have hs : s.size ≤ 140737488351232 := by
        have := hws s.data.toList.length (by rw [DataW.weightsEach]; refine List.mem_append_left _ ?_; rw [x0]; simp [DataW.weights])
        simpa [reachBytes] using this
      exact ⟨s, i, rfl, hs, in64_of_wf w1⟩
theorem open_keeps {fuel : Nat} {cs : List Value} {x : DataW H × List MemPlace} (h : DataW.trod enc Try.prog W 0 sp true fuel 24 cs = some x) (hw : ∀ n ∈ x.1.weights Try.prog 24, n ≤ reachBytes) :
    ∃ A c, ∃ ls : List (ByteArray × Int), cs = [.slice A ls.length c] ∧ ls.length ≤ 5864062014805 ∧ KeepsAt W (fun b => b < W.heap.size) A ls := by
  rcases DataW.trod_slice Try.underlying24 h with ⟨e3, -⟩ | ⟨a, len, cap, elems, rest, m, hm, e3, x3, -, hlc, -, hel, hat, -, -⟩
  · exact ⟨none, 0, [], e3, by simp, fun h => absurd h (by simp)⟩
  · have hws := hw
    rw [x3] at hws
    simp only [DataW.weights, Try.underlying24] at hws
    have hl : len ≤ 5864062014805 := by
      have h1 := hws _ (List.mem_cons_self ..)
      rw [bytesKeep] at h1
      simp only [List.length_map, hel, reachBytes] at h1
      omega
    have hT : ∀ j, ∃ t : ByteArray × Int, j < len → W.cell? (a.add (j * 2)) = some (.string t.1) ∧ W.cell? ((a.add (j * 2)).add 1) = some (.int .i64 t.2) ∧ t.1.size ≤ 140737488351232 ∧ (-9223372036854775808 ≤ t.2 ∧ t.2 ≤ 9223372036854775807) := by
      intro j
      by_cases hj : j < len
      · have h1 := hat j hj
        rw [cellsKeep, List.getElem?_eq_getElem (by omega)] at h1
        obtain ⟨cs', hc, ht⟩ := Option.bind_eq_some_iff.1 h1
        obtain ⟨-, hcl, hcat⟩ := World.cells?_some hc
        obtain ⟨s, n, rfl, h2, h3⟩ := open_keep ht (fun n hn => hws n (List.mem_cons_of_mem _ (List.mem_append_left _ (mem_weightsAll (List.mem_map.2 ⟨_, List.getElem_mem (by omega), rfl⟩) n hn))))
        exact ⟨(s, n), fun _ => ⟨by simpa [Addr.add] using hcat 0 (by omega), by simpa using hcat 1 (by omega), h2, h3⟩⟩
      · exact ⟨(⟨#[]⟩, 0), fun h => absurd h hj⟩
    obtain ⟨T, hT⟩ := Classical.skolem.1 hT
    have hlm : ((List.range len).map T).length = len := by simp
    refine ⟨some a, cap, (List.range len).map T, by rw [hlm]; exact e3, by rw [hlm]; exact hl, fun hp => ?_⟩
    rw [hlm] at hp
    obtain ⟨b, off, spot⟩ := a
    obtain ⟨h0, -⟩ := hT 0 hp
    obtain rfl : spot = none := by simpa [Addr.add] using World.cell?_spot h0
    refine ⟨b, off, rfl, ?_, fun j hj => ?_⟩
    · rw [addr_addY] at h0; exact World.block_lt_of_cell? W _ h0
    · rw [hlm] at hj
      obtain ⟨h0, h1, h2, h3⟩ := hT j hj
      simp only [addr_addY] at h0 h1
      exact ⟨by simpa using h0, by simpa using h1, by simpa using h2, by simpa using h3⟩
theorem slice_shape {P : Program} {t e : TypeId} {fuel : Nat} {cs : List Value} {x : DataW H × List MemPlace} (ht : P.underlying t = some (.slice e)) (h : DataW.trod enc P W 0 sp true fuel t cs = some x) : ∃ A n c, cs = [.slice A n c] := by
  rcases DataW.trod_slice ht h with ⟨e3, -⟩ | ⟨a, len, cap, elems, rest, m, hm, e3, -⟩
  · exact ⟨_, _, _, e3⟩
  · exact ⟨_, _, _, e3⟩
theorem open_op9 {fuel : Nat} {cs : List Value} {x : DataW H × List MemPlace} (h : DataW.trod enc Try.prog W 0 sp true fuel 32 cs = some x) (hw : ∀ n ∈ x.1.weights Try.prog 32, n ≤ reachBytes) :
    ∃ o : OpV, cs = o.cells ∧ o.Ok W := by
  obtain ⟨f0, f1, f2, f3, f4, f5, f6, hu, t0, t1, t2, t3, t4, t5, t6, o0, o1, o2, o3, o4, o5, o6⟩ := fieldsOp9
  obtain ⟨xs, n, hfu, hx, hlen, hxl, hg⟩ := DataW.trod_struct hu h
  rw [cellsOp9] at hlen
  match cs, hlen with
  | [c0, c1, c2, c3, c4, c5, c6], _ =>
    match xs, hxl with
    | [y0, y1, y2, y3, y4, y5, y6], _ =>
      have g0 := hg 0 f0 rfl
      have g1 := hg 1 f1 rfl
      have g2 := hg 2 f2 rfl
      have g3 := hg 3 f3 rfl
      have g4 := hg 4 f4 rfl
      have g5 := hg 5 f5 rfl
      have g6 := hg 6 f6 rfl
      rw [t0, o0, cellsI9] at g0
      rw [t1, o1, cellsStr] at g1
      rw [t2, o2, cellsStr] at g2
      rw [t3, o3, cellsBy9] at g3
      rw [t4, o4, cellsI9] at g4
      rw [t5, o5, cellsI9] at g5
      rw [t6, o6, cellsKs9] at g6
      have hws := hw
      rw [hx] at hws
      simp only [DataW.weights, hu, List.map_cons, List.map_nil, t0, t1, t2, t3, t4, t5, t6] at hws
      obtain ⟨k, e0, -, w0⟩ := DataW.trod_int Try.underlying3 g0
      obtain ⟨s, e1, x1, w1⟩ := DataW.trod_string Try.underlying9 g1
      obtain ⟨s2, e2, x2, w2⟩ := DataW.trod_string Try.underlying9 g2
      obtain ⟨A3, n3, k3, e3⟩ := slice_shape Try.underlying22 g3
      obtain ⟨n, e4, -, w4⟩ := DataW.trod_int Try.underlying3 g4
      obtain ⟨m, e5, -, w5⟩ := DataW.trod_int Try.underlying3 g5
      obtain ⟨A6, n6, k6, e6⟩ := slice_shape Try.underlying24 g6
      rw [e3] at g3
      simp at e0 e1 e2 e3 e4 e5 e6
      subst e0 e1 e2 e3 e4 e5 e6
      obtain ⟨⟨l, hl, hr⟩, -⟩ := OpenB.open_bytes g3
      subst hl
      have hs : s.size ≤ 140737488351232 := by
        have := hws s.data.toList.length (by rw [DataW.weightsEach, DataW.weightsEach]; refine List.mem_append_right _ (List.mem_append_left _ ?_); rw [x1]; simp [DataW.weights])
        simpa [reachBytes] using this
      exact ⟨⟨k, s, s2, A3, l, k3, n, m, A6, n6, k6⟩, rfl, in64_of_wf w0, in64_of_wf w4, in64_of_wf w5, hs, hr⟩
/-- Calls that lie in memory. -/
def OpsAt (w : World) (A : Option Addr) (os : List OpV) : Prop :=
  0 < os.length → ∃ b off, A = some ⟨b, off, none⟩ ∧ b < w.heap.size ∧ ∀ i (h : i < os.length), (∀ j v, (os[i].cells)[j]? = some v → w.cell? ⟨b, off + i * 7 + j, none⟩ = some v) ∧ os[i].Ok w
theorem open_ops9 {fuel : Nat} {cs : List Value} {x : DataW H × List MemPlace} (h : DataW.trod enc Try.prog W 0 sp true fuel 23 cs = some x) (hw : ∀ n ∈ x.1.weights Try.prog 23, n ≤ reachBytes) :
    ∃ A c, ∃ os : List OpV, cs = [.slice A os.length c] ∧ OpsAt W A os := by
  rcases DataW.trod_slice Try.underlying23 h with ⟨e3, -⟩ | ⟨a, len, cap, elems, rest, m, hm, e3, x3, -, hlc, -, hel, hat, -, -⟩
  · exact ⟨none, 0, [], e3, fun h => absurd h (by simp)⟩
  · have hws := hw
    rw [x3] at hws
    simp only [DataW.weights, Try.underlying23] at hws
    have hT : ∀ j, ∃ o : OpV, j < len → (∀ i v, o.cells[i]? = some v → W.cell? ((a.add (j * 7)).add i) = some v) ∧ o.Ok W := by
      intro j
      by_cases hj : j < len
      · have h1 := hat j hj
        rw [cellsOp9, List.getElem?_eq_getElem (by omega)] at h1
        obtain ⟨cs', hc, ht⟩ := Option.bind_eq_some_iff.1 h1
        obtain ⟨-, hcl, hcat⟩ := World.cells?_some hc
        obtain ⟨o, rfl, hok⟩ := open_op9 ht (fun n hn => hws n (List.mem_cons_of_mem _ (List.mem_append_left _ (mem_weightsAll (List.mem_map.2 ⟨_, List.getElem_mem (by omega), rfl⟩) n hn))))
        refine ⟨o, fun _ => ⟨fun i v hv => ?_, hok⟩⟩
        have hi := (List.getElem?_eq_some_iff.1 hv).1
        rw [hcat i (by omega)]
        exact hv
      · exact ⟨⟨0, ⟨#[]⟩, ⟨#[]⟩, none, [], 0, 0, 0, none, 0, 0⟩, fun h => absurd h hj⟩
    obtain ⟨T, hT⟩ := Classical.skolem.1 hT
    have hlm : ((List.range len).map T).length = len := by simp
    refine ⟨some a, cap, (List.range len).map T, by rw [hlm]; exact e3, fun hp => ?_⟩
    rw [hlm] at hp
    obtain ⟨b, off, spot⟩ := a
    obtain ⟨h0, -⟩ := hT 0 hp
    have h00 := h0 0 (.int .i64 (T 0).k) rfl
    obtain rfl : spot = none := by simpa [Addr.add] using World.cell?_spot h00
    refine ⟨b, off, rfl, ?_, fun j hj => ?_⟩
    · rw [addr_addY, addr_addY] at h00; exact World.block_lt_of_cell? W _ h00
    · rw [hlm] at hj
      obtain ⟨h0, h1⟩ := hT j hj
      refine ⟨fun i v hv => ?_, by simpa using h1⟩
      have := h0 i v (by simpa using hv)
      rw [addr_addY, addr_addY] at this
      exact this
end
end Go.Proofs.Ytclgekmpldeedaa
