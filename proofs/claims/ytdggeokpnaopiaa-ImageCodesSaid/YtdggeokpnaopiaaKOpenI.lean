/- Calls of images that came in. -/
import Derived.Test.YtdggeokpnaopiaaKMath
import Derived.Test.YtdggeokpnaopiaaKOpen
import Derived.Test.YtdggeokpnaopiaaKOpenS
namespace Go.Proofs.Ytdggeokpnaopiaa
set_option linter.unusedVariables false
set_option linter.unusedSimpArgs false
open Go.ChangeShapes Go.WideShapes Go.RowKit Go.Joins Go.Deep
set_option linter.unusedVariables false
set_option maxRecDepth 100000
theorem cellsOp16 : Try.prog.cellsOf 38 = 7 := by kernel_rfl
theorem cellsOps16 : Try.prog.cellsOf 22 = 1 := by kernel_rfl
theorem cellsBool16 : Try.prog.cellsOf 4 = 1 := by kernel_rfl
theorem bytesOp16 : Try.prog.bytesOf 38 = 96 := by kernel_rfl
theorem addr_add16 (b o j : Nat) : (Addr.add ⟨b, o, none⟩ j : Addr) = ⟨b, o + j, none⟩ := by cases j <;> simp [Addr.add]
theorem fieldsOp16 : ∃ f0 f1 f2 : Field, Try.prog.underlying 38 = some (.struct #[f0, f1, f2]) ∧ f0.type = 3 ∧ f1.type = 36 ∧ f2.type = 4 ∧ f0.offset = 0 ∧ f1.offset = 1 ∧ f2.offset = 6 :=
  ⟨_, _, _, Try.underlying38, rfl, rfl, rfl, rfl, rfl, rfl⟩
/-- A call of images. -/
structure OpI where
  kind : Int
  val : VT
  is : Bool
/-- It lies in cells, its value in blocks of S. -/
def OpIL (w : World) (S : Nat → Prop) (o : OpI) (cs : Array Value) : Prop := ∃ a b c d e, cs = #[.int .i64 o.kind, a, b, c, d, e, .bool o.is] ∧ LV w S o.val (.agg #[a, b, c, d, e]) ∧ Rng o.kind
def OpsI (w : World) (S : Nat → Prop) (A : Option Addr) (os : List OpI) : Prop :=
  0 < os.length → ∃ b off, A = some ⟨b, off, none⟩ ∧ S b ∧ ∀ i (h : i < os.length), ∃ cs : Array Value, (∀ j v, cs[j]? = some v → w.cell? ⟨b, off + i * 7 + j, none⟩ = some v) ∧ OpIL w S os[i] cs
theorem OpIL.keep {w w' : World} {S : Nat → Prop} {o : OpI} {cs : Array Value} (h : OpIL w S o cs) (hk : ∀ b, S b → w'.heap[b]? = w.heap[b]?) : OpIL w' S o cs := by
  obtain ⟨a, b, c, d, e, h1, h2, h3⟩ := h
  exact ⟨a, b, c, d, e, h1, h2.keep hk, h3⟩
theorem OpsI.keep {w w' : World} {S : Nat → Prop} {A : Option Addr} {os : List OpI} (h : OpsI w S A os) (hk : ∀ b, S b → w'.heap[b]? = w.heap[b]?) : OpsI w' S A os := fun hp => by
  obtain ⟨b, off, h1, h2, h3⟩ := h hp
  refine ⟨b, off, h1, h2, fun i hi => ?_⟩
  obtain ⟨cs, h4, h5⟩ := h3 i hi
  exact ⟨cs, fun j v hj => (World.cell?_of_block (a := ⟨b, off + i * 7 + j, none⟩) (hk b h2)).trans (h4 j v hj), h5.keep hk⟩
section
variable {H : Type} {enc : TypeId × Value → H} {W : World} {sp : Nat → Bool}
theorem open_op16 {fuel : Nat} {cs : List Value} {x : DataW H × List MemPlace} (h : DataW.trod enc Try.prog W 0 sp true fuel 38 cs = some x) (hw : ∀ n ∈ x.1.weights Try.prog 38, n ≤ reachBytes) :
    ∃ o : OpI, OpIL W (fun b => b < W.heap.size) o cs.toArray := by
  obtain ⟨f0, f1, f2, hu, t0, t1, t2, o0, o1, o2⟩ := fieldsOp16
  obtain ⟨xs, n, hfu, hx, hlen, hxl, hg⟩ := DataW.trod_struct hu h
  rw [cellsOp16] at hlen
  match cs, hlen with
  | [c0, c1, c2, c3, c4, c5, c6], _ =>
    match xs, hxl with
    | [y0, y1, y2], _ =>
      have g0 := hg 0 f0 rfl
      have g1 := hg 1 f1 rfl
      have g2 := hg 2 f2 rfl
      rw [t0, o0, cellsI] at g0
      rw [t1, o1, cellsVal] at g1
      rw [t2, o2, cellsBool16] at g2
      have hws := hw
      rw [hx] at hws
      simp only [DataW.weights, hu, List.map_cons, List.map_nil, t0, t1, t2] at hws
      have hw1 : ∀ n ∈ y1.1.weights Try.prog 36, n ≤ reachBytes := fun n hn => hws n (by rw [DataW.weightsEach, DataW.weightsEach]; exact List.mem_append_right _ (List.mem_append_left _ hn))
      obtain ⟨k, e0, -, w0⟩ := DataW.trod_int Try.underlying3 g0
      obtain ⟨t, ht⟩ := open_val _ _ _ g1 hw1
      obtain ⟨r, e2, -⟩ := DataW.trod_bool Try.underlying4 g2
      simp at e0 e2
      subst e0 e2
      exact ⟨⟨k, t, r⟩, c1, c2, c3, c4, c5, rfl, ht, in64_of_wf w0⟩
theorem open_ops16 {fuel : Nat} {cs : List Value} {x : DataW H × List MemPlace} (h : DataW.trod enc Try.prog W 0 sp true fuel 22 cs = some x) (hw : ∀ n ∈ x.1.weights Try.prog 22, n ≤ reachBytes) :
    ∃ A c, ∃ os : List OpI, cs = [.slice A os.length c] ∧ os.length ≤ 1466015503658 ∧ OpsI W (fun b => b < W.heap.size) A os := by
  rcases DataW.trod_slice Try.underlying22 h with ⟨e3, -⟩ | ⟨a, len, cap, elems, rest, m, hm, e3, x3, -, hlc, -, hel, hat, -, -⟩
  · exact ⟨none, 0, [], e3, by simp, fun h => absurd h (by simp)⟩
  · have hws := hw
    rw [x3] at hws
    simp only [DataW.weights, Try.underlying22] at hws
    have hl : len ≤ 1466015503658 := by
      have h1 := hws _ (List.mem_cons_self ..)
      rw [bytesOp16] at h1
      simp only [List.length_map, hel, reachBytes] at h1
      omega
    have hT : ∀ j, ∃ o : OpI, j < len → ∃ cs : Array Value, (∀ i v, cs[i]? = some v → W.cell? ((a.add (j * 7)).add i) = some v) ∧ OpIL W (fun b => b < W.heap.size) o cs := by
      intro j
      by_cases hj : j < len
      · have h1 := hat j hj
        rw [cellsOp16, List.getElem?_eq_getElem (by omega)] at h1
        obtain ⟨cs', hc, ht⟩ := Option.bind_eq_some_iff.1 h1
        obtain ⟨-, hcl, hcat⟩ := World.cells?_some hc
        obtain ⟨o, ho⟩ := open_op16 ht (fun n hn => hws n (List.mem_cons_of_mem _ (List.mem_append_left _ (mem_weightsAll (List.mem_map.2 ⟨_, List.getElem_mem (by omega), rfl⟩) n hn))))
        refine ⟨o, fun _ => ⟨cs'.toArray, fun i v hv => ?_, ho⟩⟩
        have hi := (Array.getElem?_eq_some_iff.1 hv).1
        have hi' : i < cs'.length := by simpa using hi
        rw [hcat i (by omega)]
        simpa using hv
      · exact ⟨⟨0, .mk 0 0 ⟨#[]⟩ [] [], false⟩, fun h => absurd h hj⟩
    obtain ⟨T, hT⟩ := Classical.skolem.1 hT
    have hlm : ((List.range len).map T).length = len := by simp
    refine ⟨some a, cap, (List.range len).map T, by rw [hlm]; exact e3, by omega, fun hp => ?_⟩
    rw [hlm] at hp
    obtain ⟨b, off, spot⟩ := a
    obtain ⟨cs0, h0, hok0⟩ := hT 0 hp
    obtain ⟨a0, b0, c0, d0, e0, hcs0, -⟩ := hok0
    have h00 := h0 0 (.int .i64 (T 0).kind) (by rw [hcs0]; rfl)
    obtain rfl : spot = none := by simpa [Addr.add] using World.cell?_spot h00
    refine ⟨b, off, rfl, ?_, fun j hj => ?_⟩
    · rw [addr_add16, addr_add16] at h00; exact World.block_lt_of_cell? W _ h00
    · rw [hlm] at hj
      obtain ⟨cs, h0, h1⟩ := hT j hj
      refine ⟨cs, fun i v hv => ?_, by simpa using h1⟩
      have := h0 i v hv
      rw [addr_add16, addr_add16] at this
      exact this
end
end Go.Proofs.Ytdggeokpnaopiaa
