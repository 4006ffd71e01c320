/- The document's code of a path. -/
import Derived.Test.YtipiplnhbecjeaaKSpU
import Derived.Test.YtipiplnhbecjeaaKCodX
import Derived.Test.YtipiplnhbecjeaaKSpA
import Derived.Test.YtipiplnhbecjeaaKOpen
import Derived.Test.YtipiplnhbecjeaaKOpenS
import Derived.Test.YtipiplnhbecjeaaKSpM
namespace Go.Proofs.Ytipiplnhbecjeaa
set_option linter.unusedVariables false
set_option linter.unusedSimpArgs false
open Go.RowKit
set_option maxRecDepth 100000
end Go.Proofs.Ytipiplnhbecjeaa

/- The document's code of an update. -/
namespace Go.Proofs.Ytipiplnhbecjeaa
set_option linter.unusedVariables false
set_option linter.unusedSimpArgs false
open Go.RowKit
set_option maxRecDepth 100000
theorem bcells_app (a b : List UInt8) : bcells (a ++ b) = bcells a ++ bcells b := by unfold bcells; rw [List.map_append]
/-- An append of bytes as one step of a region. -/
theorem wp_append_bytesR {w : World} {o : Oper} {a : Act} {K : Act → World → Prop} {Q : Exit → Act → World → Prop} (s x : Operand)
    (ho : o.op = .call { callee := .builtin .append, args := #[s, x], argTypes := #[39, 39] }) (B : Nat) (v : Value) (l : List UInt8) (hs : a.eval s = v) (hown : OwnB w B v l)
    (D : Nat) (vx : Value) (m : List UInt8) (hx : a.eval x = vx) (hrd : Rd w D vx m) (hp : 0 < m.length) (hB : B ≤ w.heap.size) (hl : l.length + m.length ≤ 140737488355328)
    (K' : ∀ v' w', OwnB w' B v' (l ++ m) → w.grownBy w' v.ownBlock → K (a.put o.dst v') w') : o.wp Try.prog a w K Q := by
  obtain ⟨i0, hi, hz0, hz1, hz2⟩ := info_parts Try.infoU8
  obtain ⟨A, cap, rfl, hcap, -, hc⟩ := hrd
  obtain ⟨b, off, rfl, -, hcell⟩ := hc hp
  refine wp_append_moved _ s x 39 ho B 5 i0 (.int .u8 0) 1 1 Try.underlying39 hi hz0 hz1 hz2 rfl (by decide) v l.length (bcells l) hs hown ⟨b, off, none⟩ m.length cap (bcells m) hx (by simp [bcells]) (fun j u hj => ?_) (fun u hu => ?_) (by unfold maxLen; omega) (by omega) hB fun v' w' h1 h2 _ => K' v' w' (by unfold OwnB; rw [List.length_append, bcells_app]; exact h1) h2
  · have hj' := (List.getElem?_eq_some_iff.1 hj)
    obtain ⟨hlt, he⟩ := hj'
    have hlm : j < m.length := by simpa [bcells] using hlt
    have := hcell j hlm
    simp only [bcells, List.getElem_map] at he
    rw [← he]
    rw [show (Addr.add ⟨b, off, none⟩ j : Addr) = ⟨b, off + j, none⟩ from by cases j <;> simp [Addr.add]]
    exact this
  · obtain ⟨y, -, rfl⟩ := List.mem_map.1 hu
    rfl
theorem pathC_pos (p : List ByteArray) : 0 < (pathC p).length := by
  have := (grp_length p.length).2
  unfold pathC
  rw [List.length_append]
  omega
theorem check_zero_rep {s : SpecT} (h : checkS s = 0) (hr : s.rep = true) : checkT s.doc = 0 := by
  unfold checkS at h
  by_cases hf : formedS s = true
  · unfold formedS at hf
    rw [hr] at hf
    simp only [if_true, Bool.and_eq_true, decide_eq_true_eq] at hf
    exact hf.2
  · rw [if_neg hf] at h
    cases h
theorem mayO_val {o : OpT} (h : mayO o = true) (h2 : o.kind ≠ 2) (h6 : o.kind ≠ 6) : checkT o.val = 0 := by
  unfold mayO at h
  rw [Bool.and_eq_true] at h
  have h3 := h.2
  split at h3
  · simp only [Bool.and_eq_true, decide_eq_true_eq] at h3; exact h3.1.2
  split at h3
  · simp only [Bool.and_eq_true, decide_eq_true_eq] at h3; exact h3.1
  · simp [h2, h6] at h3
theorem mayO_kind {o : OpT} (h : mayO o = true) : 1 ≤ o.kind ∧ o.kind ≤ 8 := by
  unfold mayO at h
  rw [Bool.and_eq_true] at h
  have h2 := h.2
  split at h2
  · omega
  split at h2
  · omega
  split at h2
  · omega
  split at h2
  · omega
  · cases h2
end Go.Proofs.Ytipiplnhbecjeaa

/- Updates that came in. -/
namespace Go.Proofs.Ytipiplnhbecjeaa
set_option linter.unusedVariables false
set_option linter.unusedSimpArgs false
open Go.ChangeShapes Go.WideShapes Go.RowKit Go.Joins Go.Deep
set_option linter.unusedVariables false
set_option maxRecDepth 100000
theorem cellsAOp : Try.prog.cellsOf 27 = 8 := by kernel_rfl
theorem cellsAOps : Try.prog.cellsOf 33 = 1 := by kernel_rfl
theorem cellsSpec : Try.prog.cellsOf 35 = 7 := by kernel_rfl
theorem cellsBool7 : Try.prog.cellsOf 4 = 1 := by kernel_rfl
theorem bytesAOp : Try.prog.bytesOf 27 = 136 := by kernel_rfl
theorem addr_add7 (b o j : Nat) : (Addr.add ⟨b, o, none⟩ j : Addr) = ⟨b, o + j, none⟩ := by cases j <;> simp [Addr.add]
theorem fieldsAOp : ∃ f0 f1 f2 f3 : Field, Try.prog.underlying 27 = some (.struct #[f0, f1, f2, f3]) ∧ f0.type = 3 ∧ f1.type = 22 ∧ f2.type = 25 ∧ f3.type = 22 ∧ f0.offset = 0 ∧ f1.offset = 1 ∧ f2.offset = 2 ∧ f3.offset = 7 :=
  ⟨_, _, _, _, Try.underlying27, rfl, rfl, rfl, rfl, rfl, rfl, rfl, rfl⟩
theorem fieldsSpec : ∃ f0 f1 f2 : Field, Try.prog.underlying 35 = some (.struct #[f0, f1, f2]) ∧ f0.type = 4 ∧ f1.type = 25 ∧ f2.type = 33 ∧ f0.offset = 0 ∧ f1.offset = 1 ∧ f2.offset = 6 :=
  ⟨_, _, _, Try.underlying35, rfl, rfl, rfl, rfl, rfl, rfl⟩
section
variable {H : Type} {enc : TypeId × Value → H} {W : World} {sp : Nat → Bool}
theorem open_aop {fuel : Nat} {cs : List Value} {x : DataW H × List MemPlace} (h : DataW.trod enc Try.prog W 0 sp true fuel 27 cs = some x) (hw : ∀ n ∈ x.1.weights Try.prog 27, n ≤ reachBytes) :
    ∃ o : OpT, OpL W (fun b => b < W.heap.size) o cs.toArray := by
  obtain ⟨f0, f1, f2, f3, hu, t0, t1, t2, t3, o0, o1, o2, o3⟩ := fieldsAOp
  obtain ⟨xs, n, hfu, hx, hlen, hxl, hg⟩ := DataW.trod_struct hu h
  rw [cellsAOp] at hlen
  match cs, hlen with
  | [c0, c1, c2, c3, c4, c5, c6, c7], _ =>
    match xs, hxl with
    | [y0, y1, y2, y3], _ =>
      have g0 := hg 0 f0 rfl
      have g1 := hg 1 f1 rfl
      have g2 := hg 2 f2 rfl
      have g3 := hg 3 f3 rfl
      rw [t0, o0, cellsI] at g0
      rw [t1, o1, cellsStrs] at g1
      rw [t2, o2, cellsVal] at g2
      rw [t3, o3, cellsStrs] at g3
      have hws := hw
      rw [hx] at hws
      simp only [DataW.weights, hu, List.map_cons, List.map_nil, t0, t1, t2, t3] at hws
      obtain ⟨k, e0, -, w0⟩ := DataW.trod_int Try.underlying3 g0
      simp at e0
      subst e0
      have hw1 : ∀ n ∈ y1.1.weights Try.prog 22, n ≤ reachBytes := fun n hn => hws n (by rw [DataW.weightsEach, DataW.weightsEach]; exact List.mem_append_right _ (List.mem_append_left _ hn))
      have hw2 : ∀ n ∈ y2.1.weights Try.prog 25, n ≤ reachBytes := fun n hn => hws n (by rw [DataW.weightsEach, DataW.weightsEach, DataW.weightsEach]; exact List.mem_append_right _ (List.mem_append_right _ (List.mem_append_left _ hn)))
      have hw3 : ∀ n ∈ y3.1.weights Try.prog 22, n ≤ reachBytes := fun n hn => hws n (by rw [DataW.weightsEach, DataW.weightsEach, DataW.weightsEach, DataW.weightsEach]; exact List.mem_append_right _ (List.mem_append_right _ (List.mem_append_right _ (List.mem_append_left _ hn))))
      obtain ⟨PA, pc, ps, e1, hpc, -, hpn, hps⟩ := open_names2 g1 hw1
      obtain ⟨TA, tc, ts, e3, htc, -, htn, hts⟩ := open_names2 g3 hw3
      obtain ⟨t, ht⟩ := open_val _ _ _ g2 hw2
      simp at e1 e3
      subst e1 e3
      exact ⟨⟨k, ps, t, ts⟩, PA, pc, c2, c3, c4, c5, c6, TA, tc, rfl, ht, hps, hts, hpc, htc, in64_of_wf w0, hpn, htn⟩
theorem open_aops {fuel : Nat} {cs : List Value} {x : DataW H × List MemPlace} (h : DataW.trod enc Try.prog W 0 sp true fuel 33 cs = some x) (hw : ∀ n ∈ x.1.weights Try.prog 33, n ≤ reachBytes) :
    ∃ A c, ∃ os : List OpT, cs = [.slice A os.length c] ∧ os.length ≤ c ∧ os.length ≤ 1099511627776 ∧ OpsL W (fun b => b < W.heap.size) A os := by
  rcases DataW.trod_slice Try.underlying33 h with ⟨e3, -⟩ | ⟨a, len, cap, elems, rest, m, hm, e3, x3, -, hlc, -, hel, hat, -, -⟩
  · exact ⟨none, 0, [], e3, by simp, by simp, fun h => absurd h (by simp)⟩
  · have hws := hw
    rw [x3] at hws
    simp only [DataW.weights, Try.underlying33] at hws
    have hl : len ≤ 1099511627776 := by
      have h1 := hws _ (List.mem_cons_self ..)
      rw [bytesAOp] at h1
      simp only [List.length_map, hel, reachBytes] at h1
      omega
    have hT : ∀ j, ∃ o : OpT, j < len → ∃ cs : Array Value, (∀ i v, cs[i]? = some v → W.cell? ((a.add (j * 8)).add i) = some v) ∧ OpL W (fun b => b < W.heap.size) o cs := by
      intro j
      by_cases hj : j < len
      · have h1 := hat j hj
        rw [cellsAOp, List.getElem?_eq_getElem (by omega)] at h1
        obtain ⟨cs', hc, ht⟩ := Option.bind_eq_some_iff.1 h1
        obtain ⟨-, hcl, hcat⟩ := World.cells?_some hc
        obtain ⟨o, ho⟩ := open_aop ht (fun n hn => hws n (List.mem_cons_of_mem _ (List.mem_append_left _ (mem_weightsAll (List.mem_map.2 ⟨_, List.getElem_mem (by omega), rfl⟩) n hn))))
        refine ⟨o, fun _ => ⟨cs'.toArray, fun i v hv => ?_, ho⟩⟩
        have hi := (Array.getElem?_eq_some_iff.1 hv).1
        have hi' : i < cs'.length := by simpa using hi
        rw [hcat i (by omega)]
        simpa using hv
      · exact ⟨⟨0, [], .mk 0 0 ⟨#[]⟩ [] [], []⟩, fun h => absurd h hj⟩
    obtain ⟨T, hT⟩ := Classical.skolem.1 hT
    have hlm : ((List.range len).map T).length = len := by simp
    refine ⟨some a, cap, (List.range len).map T, by rw [hlm]; exact e3, by omega, by omega, fun hp => ?_⟩
    rw [hlm] at hp
    obtain ⟨b, off, spot⟩ := a
    obtain ⟨cs0, h0, hok0⟩ := hT 0 hp
    obtain ⟨PA0, pc0, a0, b0, c0, d0, e0, TA0, tc0, hcs0, -⟩ := hok0
    have h00 := h0 0 (.int .i64 (T 0).kind) (by rw [hcs0]; rfl)
    obtain rfl : spot = none := by simpa [Addr.add] using World.cell?_spot h00
    refine ⟨b, off, rfl, ?_, fun j hj => ?_⟩
    · rw [addr_add7, addr_add7] at h00; exact World.block_lt_of_cell? W _ h00
    · rw [hlm] at hj
      obtain ⟨cs, h0, h1⟩ := hT j hj
      refine ⟨cs, fun i v hv => ?_, by simpa using h1⟩
      have := h0 i v hv
      rw [addr_add7, addr_add7] at this
      exact this
theorem open_spec {fuel : Nat} {cs : List Value} {x : DataW H × List MemPlace} (h : DataW.trod enc Try.prog W 0 sp true fuel 35 cs = some x) (hw : ∀ n ∈ x.1.weights Try.prog 35, n ≤ reachBytes) :
    ∃ s : SpecT, SpecL W (fun b => b < W.heap.size) s cs.toArray := by
  obtain ⟨f0, f1, f2, hu, t0, t1, t2, o0, o1, o2⟩ := fieldsSpec
  obtain ⟨xs, n, hfu, hx, hlen, hxl, hg⟩ := DataW.trod_struct hu h
  rw [cellsSpec] at hlen
  match cs, hlen with
  | [c0, c1, c2, c3, c4, c5, c6], _ =>
    match xs, hxl with
    | [y0, y1, y2], _ =>
      have g0 := hg 0 f0 rfl
      have g1 := hg 1 f1 rfl
      have g2 := hg 2 f2 rfl
      rw [t0, o0, cellsBool7] at g0
      rw [t1, o1, cellsVal] at g1
      rw [t2, o2, cellsAOps] at g2
      have hws := hw
      rw [hx] at hws
      simp only [DataW.weights, hu, List.map_cons, List.map_nil, t0, t1, t2] at hws
      have hw1 : ∀ n ∈ y1.1.weights Try.prog 25, n ≤ reachBytes := fun n hn => hws n (by rw [DataW.weightsEach, DataW.weightsEach]; exact List.mem_append_right _ (List.mem_append_left _ hn))
      have hw2 : ∀ n ∈ y2.1.weights Try.prog 33, n ≤ reachBytes := fun n hn => hws n (by rw [DataW.weightsEach, DataW.weightsEach, DataW.weightsEach]; exact List.mem_append_right _ (List.mem_append_right _ (List.mem_append_left _ hn)))
      obtain ⟨OA, oc, os, e2, hoc, hol, hos⟩ := open_aops g2 hw2
      obtain ⟨t, ht⟩ := open_val _ _ _ g1 hw1
      obtain ⟨r, e0, -⟩ := DataW.trod_bool Try.underlying4 g0
      simp at e0 e2
      subst e0 e2
      obtain ⟨DA, dc, DA', dc', hts, -⟩ := ht.shape
      simp at hts
      obtain ⟨rfl, rfl, rfl, rfl, rfl⟩ := hts
      exact ⟨⟨r, t, os⟩, DA, dc, DA', dc', OA, oc, rfl, ht, hos, hoc, hol⟩
end
end Go.Proofs.Ytipiplnhbecjeaa

/- An update that is not large is small enough for all walks. -/
namespace Go.Proofs.Ytipiplnhbecjeaa
set_option linter.unusedVariables false
set_option linter.unusedSimpArgs false
open Go.RowKit
theorem small_all {w : World} {S : Nat → Prop} {s : SpecT} {cs : Array Value} (h : SpecL w S s cs) (hl : largeS s = false) : SmallS s ∧ SmallZ s := by
  obtain ⟨h1, h2, h3⟩ := largeS_small hl
  obtain ⟨DA, dc, DA', dc', OA, oc, -, hv, ho, -, -⟩ := h
  have hd : largeT s.doc = false := by
    unfold largeS at hl
    simp only [Bool.or_eq_false_iff] at hl
    exact hl.2
  refine ⟨⟨by omega, fun o ho => by have := (h3 o ho).1; omega⟩, size_small hv hd, fun o hmem => ?_⟩
  obtain ⟨i, hi, rfl⟩ := List.getElem_of_mem hmem
  obtain ⟨b, off, -, -, hc⟩ := ho (by omega)
  obtain ⟨cs', -, hop⟩ := hc i hi
  obtain ⟨PA, pc, a, b2, c, d, e, TA, tc, -, hlv, -⟩ := hop
  refine size_small hlv ?_
  unfold largeS at hl
  simp only [Bool.or_eq_false_iff, List.any_eq_false] at hl
  have h4 := hl.1.1 s.ops[i] (by rw [List.take_of_length_le (by omega)]; exact List.getElem_mem hi)
  unfold bigO at h4
  simp at h4
  simp [h4]
end Go.Proofs.Ytipiplnhbecjeaa

/- The law's own update. -/
namespace Go.Proofs.Ytipiplnhbecjeaa
set_option linter.unusedVariables false
set_option linter.unusedSimpArgs false
open Go.RowKit
set_option maxRecDepth 100000
def twoS : SpecT := ⟨false, .mk 0 0 ⟨#[]⟩ [] [], [⟨1, [⟨#[97]⟩], .mk 3 1 ⟨#[]⟩ [] [], []⟩, ⟨6, [⟨#[98]⟩], .mk 0 0 ⟨#[]⟩ [] [], [⟨#[99]⟩, ⟨#[100]⟩]⟩]⟩
theorem results_cell_s {fn : Func} {p : Tmp} (h : fn.results = #[.cell p 35]) (tmps : Array Value) (w : World) (g : Nat) (t : TypeId) (cs : Array Value) (fr : Nat × Nat)
    (hp : tmps.getD p undef = .pointer (some ⟨g, 0, none⟩)) (hg : w.heap[g]? = some (.cells cs t fr)) (hi : (Try.prog.info? 35).map (·.size) = some cs.size) :
    (results fn tmps).run Try.prog w = .ok (.agg cs) w := by
  have hp' : tmps[p]?.getD undef = .pointer (some ⟨g, 0, none⟩) := by simpa using hp
  have e := run_loadVar_row w g t 35 cs fr _ hg Try.underlying35 rfl hi
  simp [results, h, hp', asAddr, Sem.run_bind, Result.andThen, e]
theorem strs_new1 {w : World} {S : Nat → Prop} {g : Nat} {t : TypeId} {fr : Nat × Nat} {s : ByteArray} (hg : w.heap[g]? = some (.cells #[.string s] t fr)) (hS : S g) (hs : s.size ≤ 140737488351232) : StrsAt w S (some ⟨g, 0, none⟩) [s] := fun _ =>
  ⟨g, 0, rfl, hS, fun i hi => by
    obtain rfl : i = 0 := by simpa using hi
    exact ⟨Go.Joins.cell_of_block hg 0, hs⟩⟩
theorem strs_new2 {w : World} {S : Nat → Prop} {g : Nat} {t : TypeId} {fr : Nat × Nat} {s s' : ByteArray} (hg : w.heap[g]? = some (.cells #[.string s, .string s'] t fr)) (hS : S g) (hs : s.size ≤ 140737488351232) (hs' : s'.size ≤ 140737488351232) : StrsAt w S (some ⟨g, 0, none⟩) [s, s'] := fun _ =>
  ⟨g, 0, rfl, hS, fun i hi => by
    match i, hi with
    | 0, _ => exact ⟨Go.Joins.cell_of_block hg 0, hs⟩
    | 1, _ => exact ⟨Go.Joins.cell_of_block hg 1, hs'⟩⟩
set_option maxHeartbeats 4000000 in
theorem two7_any (w : World) : Calls Try.prog 11 #[] w fun e w' => ∃ cs, e = .returned (.agg cs) ∧ SpecL w' (fun b => w.heap.size ≤ b ∧ b < w'.heap.size) twoS cs ∧ Below w.heap.size w w' := by
  go_enter Try.func11, Try.ntmps11
  go_wp2_with fail
  obtain ⟨x0, hx0⟩ : ∃ x : Obj, x = .cells #[.bool false, .int .i64 0, .int .i64 0, .string ⟨#[]⟩, .slice none 0 0, .slice none 0 0, .slice (some ⟨w.heap.size + 1 + 1 + 1 + 1, 0, none⟩) 2 2] 35 := ⟨_, rfl⟩
  obtain ⟨x4, hx4⟩ : ∃ x : Obj, x = .cells #[.int .i64 1, .slice (some ⟨w.heap.size + 1, 0, none⟩) 1 1, .int .i64 3, .int .i64 1, .string ⟨#[]⟩, .slice none 0 0, .slice none 0 0, .slice none 0 0, .int .i64 6, .slice (some ⟨w.heap.size + 1 + 1, 0, none⟩) 1 1, .int .i64 0, .int .i64 0, .string ⟨#[]⟩, .slice none 0 0, .slice none 0 0, .slice (some ⟨w.heap.size + 1 + 1 + 1, 0, none⟩) 2 2] 27 := ⟨_, rfl⟩
  rw [← hx0, ← hx4]
  obtain ⟨s1, hs1⟩ : ∃ x : Obj, x = .cells #[.string ⟨#[97]⟩] 9 := ⟨_, rfl⟩
  obtain ⟨s2, hs2⟩ : ∃ x : Obj, x = .cells #[.string ⟨#[98]⟩] 9 := ⟨_, rfl⟩
  obtain ⟨s3, hs3⟩ : ∃ x : Obj, x = .cells #[.string ⟨#[99]⟩, .string ⟨#[100]⟩] 9 := ⟨_, rfl⟩
  rw [← hs1, ← hs2, ← hs3]
  obtain ⟨v1, hv1⟩ : ∃ v, v = w.alloc x0 := ⟨_, rfl⟩
  rw [← hv1]
  obtain ⟨v2, hv2⟩ : ∃ v, v = v1.alloc s1 := ⟨_, rfl⟩
  rw [← hv2]
  obtain ⟨v3, hv3⟩ : ∃ v, v = v2.alloc s2 := ⟨_, rfl⟩
  rw [← hv3]
  obtain ⟨v4, hv4⟩ : ∃ v, v = v3.alloc s3 := ⟨_, rfl⟩
  rw [← hv4]
  obtain ⟨w5, hv5⟩ : ∃ v, v = v4.alloc x4 := ⟨_, rfl⟩
  rw [← hv5]
  have z1 : v1.heap.size = w.heap.size + 1 := by rw [hv1]; simp
  have z2 : v2.heap.size = w.heap.size + 2 := by rw [hv2]; simp; omega
  have z3 : v3.heap.size = w.heap.size + 3 := by rw [hv3]; simp; omega
  have z4 : v4.heap.size = w.heap.size + 4 := by rw [hv4]; simp; omega
  have hz : w5.heap.size = w.heap.size + 5 := by rw [hv5]; simp; omega
  have p2 : ∀ b, b < v1.heap.size → v2.heap[b]? = v1.heap[b]? := fun b hb => by rw [hv2]; exact Below.heap_alloc v1 _ b hb
  have p3 : ∀ b, b < v2.heap.size → v3.heap[b]? = v2.heap[b]? := fun b hb => by rw [hv3]; exact Below.heap_alloc v2 _ b hb
  have p4 : ∀ b, b < v3.heap.size → v4.heap[b]? = v3.heap[b]? := fun b hb => by rw [hv4]; exact Below.heap_alloc v3 _ b hb
  have p5 : ∀ b, b < v4.heap.size → w5.heap[b]? = v4.heap[b]? := fun b hb => by rw [hv5]; exact Below.heap_alloc v4 _ b hb
  have hb : Below w.heap.size w w5 := by
    rw [hv5, hv4, hv3, hv2, hv1]
    exact (((((Below.refl _ _).alloc (Nat.le_refl _) _).alloc (by simp) _).alloc (by simp; omega) _).alloc (by simp; omega) _).alloc (by simp; omega) _
  have n0 : v1.heap[w.heap.size]? = some x0 := by rw [hv1]; exact heap_alloc_new w x0
  have n1 : v2.heap[w.heap.size + 1]? = some s1 := by rw [hv2, ← z1]; exact heap_alloc_new v1 s1
  have n2 : v3.heap[w.heap.size + 1 + 1]? = some s2 := by rw [hv3, show w.heap.size + 1 + 1 = v2.heap.size from z2.symm]; exact heap_alloc_new v2 s2
  have n3 : v4.heap[w.heap.size + 1 + 1 + 1]? = some s3 := by rw [hv4, show w.heap.size + 1 + 1 + 1 = v3.heap.size from z3.symm]; exact heap_alloc_new v3 s3
  have g4 : w5.heap[w.heap.size + 1 + 1 + 1 + 1]? = some x4 := by rw [hv5, show w.heap.size + 1 + 1 + 1 + 1 = v4.heap.size from z4.symm]; exact heap_alloc_new v4 x4
  have g0 : w5.heap[w.heap.size]? = some x0 := (p5 _ (by omega)).trans ((p4 _ (by omega)).trans ((p3 _ (by omega)).trans ((p2 _ (by omega)).trans n0)))
  have g1 : w5.heap[w.heap.size + 1]? = some s1 := (p5 _ (by omega)).trans ((p4 _ (by omega)).trans ((p3 _ (by omega)).trans n1))
  have g2 : w5.heap[w.heap.size + 1 + 1]? = some s2 := (p5 _ (by omega)).trans ((p4 _ (by omega)).trans n2)
  have g3 : w5.heap[w.heap.size + 1 + 1 + 1]? = some s3 := (p5 _ (by omega)).trans n3
  rw [hx0] at g0
  rw [hs1] at g1
  rw [hs2] at g2
  rw [hs3] at g3
  rw [hx4] at g4
  clear n0 n1 n2 n3 p2 p3 p4 p5 hv1 hv2 hv3 hv4 hv5 hx0 hx4 hs1 hs2 hs3
  refine bodyPost_ret (results_cell_s rfl _ _ _ _ _ _ rfl g0 (by kernel_rfl)) rfl ⟨_, rfl, ?_, hb⟩
  have hS : ∀ i, i < 5 → w.heap.size ≤ w.heap.size + i ∧ w.heap.size + i < w5.heap.size := fun i hi => by omega
  refine ⟨none, 0, none, 0, some ⟨w.heap.size + 1 + 1 + 1 + 1, 0, none⟩, 2, rfl, leaf_lv _ _ _ _ _ (by unfold Rng; omega) (by unfold Rng; omega) (by decide), fun _ => ⟨w.heap.size + 1 + 1 + 1 + 1, 0, rfl, hS 4 (by omega), fun i hi => ?_⟩, by simp [twoS], by simp [twoS]⟩
  have hi2 : i < 2 := hi
  match i, hi2 with
  | 0, _ =>
    exact ⟨#[.int .i64 1, .slice (some ⟨w.heap.size + 1, 0, none⟩) 1 1, .int .i64 3, .int .i64 1, .string ⟨#[]⟩, .slice none 0 0, .slice none 0 0, .slice none 0 0], fun j v hj => by
      have hj' : j < 8 := (Array.getElem?_eq_some_iff.1 hj).1
      rw [Go.Joins.cell_of_block g4 (0 + 0 * 8 + j)]
      match j, hj' with
      | 0, _ | 1, _ | 2, _ | 3, _ | 4, _ | 5, _ | 6, _ | 7, _ => exact hj,
      ⟨_, _, _, _, _, _, _, none, 0, rfl, leaf_lv _ _ _ _ _ (by unfold Rng; omega) (by unfold Rng; omega) (by decide), strs_new1 g1 (hS 1 (by omega)) (by decide), strs_nil _ _ _, by simp [twoS], by simp [twoS], by unfold Rng; simp [twoS], by simp [twoS], by simp [twoS]⟩⟩
  | 1, _ =>
    exact ⟨#[.int .i64 6, .slice (some ⟨w.heap.size + 1 + 1, 0, none⟩) 1 1, .int .i64 0, .int .i64 0, .string ⟨#[]⟩, .slice none 0 0, .slice none 0 0, .slice (some ⟨w.heap.size + 1 + 1 + 1, 0, none⟩) 2 2], fun j v hj => by
      have hj' : j < 8 := (Array.getElem?_eq_some_iff.1 hj).1
      rw [Go.Joins.cell_of_block g4 (0 + 1 * 8 + j)]
      match j, hj' with
      | 0, _ | 1, _ | 2, _ | 3, _ | 4, _ | 5, _ | 6, _ | 7, _ => exact hj,
      ⟨_, _, _, _, _, _, _, _, _, rfl, leaf_lv _ _ _ _ _ (by unfold Rng; omega) (by unfold Rng; omega) (by decide), strs_new1 g2 (hS 2 (by omega)) (by decide), strs_new2 g3 (hS 3 (by omega)) (by decide) (by decide), by simp [twoS], by simp [twoS], by unfold Rng; simp [twoS], by simp [twoS], by simp [twoS]⟩⟩
end Go.Proofs.Ytipiplnhbecjeaa
