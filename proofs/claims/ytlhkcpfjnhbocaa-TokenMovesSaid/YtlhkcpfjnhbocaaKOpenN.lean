/- Tokens, and entries, that came in. -/
import Derived.Test.YtlhkcpfjnhbocaaKTkF
import Derived.Deep.Slices
import Derived.SliceStrings
import Derived.SizedLaws
import Derived.Lib.SmallJoins
namespace Go.Proofs.Ytlhkcpfjnhbocaa
set_option linter.unusedVariables false
set_option linter.unusedSimpArgs false
open Go.ChangeShapes Go.WideShapes Go.RowKit Go.Joins Go.Deep
set_option linter.unusedVariables false
set_option maxRecDepth 100000
theorem cellsTokN : Try.prog.cellsOf 37 = 3 := by kernel_rfl
theorem cellsIN : Try.prog.cellsOf 3 = 1 := by kernel_rfl
theorem cellsStrN : Try.prog.cellsOf 9 = 1 := by kernel_rfl
theorem cellsValN : Try.prog.cellsOf 50 = 5 := by kernel_rfl
theorem cellsValsN : Try.prog.cellsOf 47 = 1 := by kernel_rfl
theorem cellsStrsN : Try.prog.cellsOf 48 = 1 := by kernel_rfl
theorem cellsDeltasN : Try.prog.cellsOf 51 = 1 := by kernel_rfl
theorem cellsEntN : Try.prog.cellsOf 53 = 17 := by kernel_rfl
theorem bytesEntN : Try.prog.bytesOf 53 = 248 := by kernel_rfl
theorem addr_addN (b o j : Nat) : (Addr.add ⟨b, o, none⟩ j : Addr) = ⟨b, o + j, none⟩ := by cases j <;> simp [Addr.add]
theorem fieldsTokN : ∃ f0 f1 f2 : Field, Try.prog.underlying 37 = some (.struct #[f0, f1, f2]) ∧ f0.type = 3 ∧ f1.type = 3 ∧ f2.type = 3 ∧ f0.offset = 0 ∧ f1.offset = 1 ∧ f2.offset = 2 :=
  ⟨_, _, _, Try.underlying37, rfl, rfl, rfl, rfl, rfl, rfl⟩
theorem fieldsValN : ∃ f0 f1 f2 f3 f4 : Field, Try.prog.underlying 50 = some (.struct #[f0, f1, f2, f3, f4]) ∧ f0.type = 3 ∧ f1.type = 3 ∧ f2.type = 9 ∧ f3.type = 47 ∧ f4.type = 48 ∧ f0.offset = 0 ∧ f1.offset = 1 ∧ f2.offset = 2 ∧ f3.offset = 3 ∧ f4.offset = 4 :=
  ⟨_, _, _, _, _, Try.underlying50, rfl, rfl, rfl, rfl, rfl, rfl, rfl, rfl, rfl, rfl⟩
theorem fieldsEntN : ∃ f0 f1 f2 f3 f4 f5 f6 f7 f8 : Field, Try.prog.underlying 53 = some (.struct #[f0, f1, f2, f3, f4, f5, f6, f7, f8]) ∧ f0.type = 3 ∧ f1.type = 3 ∧ f2.type = 9 ∧ f3.type = 9 ∧ f4.type = 50 ∧ f5.type = 50 ∧ f6.type = 51 ∧ f7.type = 3 ∧ f8.type = 3 ∧
    f0.offset = 0 ∧ f1.offset = 1 ∧ f2.offset = 2 ∧ f3.offset = 3 ∧ f4.offset = 4 ∧ f5.offset = 9 ∧ f6.offset = 14 ∧ f7.offset = 15 ∧ f8.offset = 16 :=
  ⟨_, _, _, _, _, _, _, _, _, Try.underlying53, rfl, rfl, rfl, rfl, rfl, rfl, rfl, rfl, rfl, rfl, rfl, rfl, rfl, rfl, rfl, rfl, rfl, rfl⟩
/-- An entry's cells, by its term. -/
def EntL (t : Int) (cs : Array Value) : Prop := cs.size = 17 ∧ cs[0]? = some (.int .i64 t) ∧ (∀ u ∈ cs.toList, u.oneCell' = true) ∧ -9223372036854775808 ≤ t ∧ t ≤ 9223372036854775807
/-- A row of entries, by their terms and cells. -/
def EntsAt (w : World) (B : Nat) (A : Option Addr) (ts : List Int) (cs : List (Array Value)) : Prop :=
  cs.length = ts.length ∧ (0 < ts.length → ∃ b off, A = some ⟨b, off, none⟩ ∧ b < B ∧ ∀ i (h : i < ts.length) (h' : i < cs.length), EntL ts[i] cs[i] ∧ ∀ j v, cs[i][j]? = some v → w.cell? ⟨b, off + i * 17 + j, none⟩ = some v)
theorem EntsAt.terms {w : World} {B : Nat} {A : Option Addr} {ts : List Int} {cs : List (Array Value)} (h : EntsAt w B A ts cs) : TermsAt w B A ts := fun hl => by
  obtain ⟨h0, h1⟩ := h
  obtain ⟨b, off, h2, h3, h4⟩ := h1 hl
  exact ⟨b, off, h2, h3, fun i hi => (h4 i hi (by omega)).2 0 _ (h4 i hi (by omega)).1.2.1⟩
theorem EntsAt.keep {w w' : World} {B : Nat} {A : Option Addr} {ts : List Int} {cs : List (Array Value)} (h : EntsAt w B A ts cs) (hb : Below B w w') : EntsAt w' B A ts cs := ⟨h.1, fun hl => by
  obtain ⟨b, off, h2, h3, h4⟩ := h.2 hl
  exact ⟨b, off, h2, h3, fun i hi hi' => ⟨(h4 i hi hi').1, fun j v hv => (hb.cell (p := ⟨b, off + i * 17 + j, none⟩) h3).trans ((h4 i hi hi').2 j v hv)⟩⟩⟩
section
variable {H : Type} {enc : TypeId × Value → H} {W : World} {sp : Nat → Bool}
theorem open_tok {fuel : Nat} {cs : List Value} {x : DataW H × List MemPlace} (h : DataW.trod enc Try.prog W 0 sp true fuel 37 cs = some x) :
    ∃ k i t : Int, cs = [.int .i64 k, .int .i64 i, .int .i64 t] ∧ (-9223372036854775808 ≤ k ∧ k ≤ 9223372036854775807) ∧ (-9223372036854775808 ≤ i ∧ i ≤ 9223372036854775807) ∧ (-9223372036854775808 ≤ t ∧ t ≤ 9223372036854775807) := by
  obtain ⟨f0, f1, f2, hu, t0, t1, t2, o0, o1, o2⟩ := fieldsTokN
  obtain ⟨xs, n, hfu, hx, hlen, hxl, hg⟩ := DataW.trod_struct hu h
  rw [cellsTokN] at hlen
  match cs, hlen with
  | [c0, c1, c2], _ =>
    match xs, hxl with
    | [y0, y1, y2], _ =>
      have g0 := hg 0 f0 rfl
      have g1 := hg 1 f1 rfl
      have g2 := hg 2 f2 rfl
      rw [t0, o0, cellsIN] at g0
      rw [t1, o1, cellsIN] at g1
      rw [t2, o2, cellsIN] at g2
      obtain ⟨k, e0, -, w0⟩ := DataW.trod_int Try.underlying3 g0
      obtain ⟨i, e1, -, w1⟩ := DataW.trod_int Try.underlying3 g1
      obtain ⟨t, e2, -, w2⟩ := DataW.trod_int Try.underlying3 g2
      simp at e0 e1 e2
      subst e0 e1 e2
      exact ⟨k, i, t, rfl, bounds_i64 w0, bounds_i64 w1, bounds_i64 w2⟩
theorem one_int {fuel : Nat} {cs : List Value} {x : DataW H × List MemPlace} (h : DataW.trod enc Try.prog W 0 sp true fuel 3 cs = some x) : ∀ u ∈ cs, u.oneCell' = true := by
  obtain ⟨k, e, -⟩ := DataW.trod_int Try.underlying3 h
  rw [e]; intro u hu; simp at hu; subst hu; rfl
theorem one_str {fuel : Nat} {cs : List Value} {x : DataW H × List MemPlace} (h : DataW.trod enc Try.prog W 0 sp true fuel 9 cs = some x) : ∀ u ∈ cs, u.oneCell' = true := by
  obtain ⟨k, e, -⟩ := DataW.trod_string Try.underlying9 h
  rw [e]; intro u hu; simp at hu; subst hu; rfl
theorem one_sl {t e : TypeId} (ht : Try.prog.underlying t = some (.slice e)) {fuel : Nat} {cs : List Value} {x : DataW H × List MemPlace} (h : DataW.trod enc Try.prog W 0 sp true fuel t cs = some x) : ∀ u ∈ cs, u.oneCell' = true := by
  rcases DataW.trod_slice ht h with ⟨e3, -⟩ | ⟨a, len, cap, elems, rest, m, hm, e3, -⟩
  · rw [e3]; intro u hu; simp at hu; subst hu; rfl
  · rw [e3]; intro u hu; simp at hu; subst hu; rfl
theorem one_val {fuel : Nat} {cs : List Value} {x : DataW H × List MemPlace} (h : DataW.trod enc Try.prog W 0 sp true fuel 50 cs = some x) : ∀ u ∈ cs, u.oneCell' = true := by
  obtain ⟨f0, f1, f2, f3, f4, hu, t0, t1, t2, t3, t4, o0, o1, o2, o3, o4⟩ := fieldsValN
  obtain ⟨xs, n, hfu, hx, hlen, hxl, hg⟩ := DataW.trod_struct hu h
  rw [cellsValN] at hlen
  match cs, hlen with
  | [c0, c1, c2, c3, c4], _ =>
    match xs, hxl with
    | [y0, y1, y2, y3, y4], _ =>
      have g0 := hg 0 f0 rfl
      have g1 := hg 1 f1 rfl
      have g2 := hg 2 f2 rfl
      have g3 := hg 3 f3 rfl
      have g4 := hg 4 f4 rfl
      rw [t0, o0, cellsIN] at g0
      rw [t1, o1, cellsIN] at g1
      rw [t2, o2, cellsStrN] at g2
      rw [t3, o3, cellsValsN] at g3
      rw [t4, o4, cellsStrsN] at g4
      have m0 := one_int g0 c0 (by simp)
      have m1 := one_int g1 c1 (by simp)
      have m2 := one_str g2 c2 (by simp)
      have m3 := one_sl Try.underlying47 g3 c3 (by simp)
      have m4 := one_sl Try.underlying48 g4 c4 (by simp)
      intro u hu
      simp only [List.mem_cons, List.not_mem_nil, or_false] at hu
      rcases hu with rfl | rfl | rfl | rfl | rfl <;> assumption
theorem open_ent {fuel : Nat} {cs : List Value} {x : DataW H × List MemPlace} (h : DataW.trod enc Try.prog W 0 sp true fuel 53 cs = some x) : ∃ t : Int, EntL t cs.toArray := by
  obtain ⟨f0, f1, f2, f3, f4, f5, f6, f7, f8, hu, t0, t1, t2, t3, t4, t5, t6, t7, t8, o0, o1, o2, o3, o4, o5, o6, o7, o8⟩ := fieldsEntN
  obtain ⟨xs, n, hfu, hx, hlen, hxl, hg⟩ := DataW.trod_struct hu h
  rw [cellsEntN] at hlen
  match cs, hlen with
  | [c0, c1, c2, c3, c4, c5, c6, c7, c8, c9, c10, c11, c12, c13, c14, c15, c16], _ =>
    match xs, hxl with
    | [y0, y1, y2, y3, y4, y5, y6, y7, y8], _ =>
      have g0 := hg 0 f0 rfl
      have g1 := hg 1 f1 rfl
      have g2 := hg 2 f2 rfl
      have g3 := hg 3 f3 rfl
      have g4 := hg 4 f4 rfl
      have g5 := hg 5 f5 rfl
      have g6 := hg 6 f6 rfl
      have g7 := hg 7 f7 rfl
      have g8 := hg 8 f8 rfl
      rw [t0, o0, cellsIN] at g0
      rw [t1, o1, cellsIN] at g1
      rw [t2, o2, cellsStrN] at g2
      rw [t3, o3, cellsStrN] at g3
      rw [t4, o4, cellsValN] at g4
      rw [t5, o5, cellsValN] at g5
      rw [t6, o6, cellsDeltasN] at g6
      rw [t7, o7, cellsIN] at g7
      rw [t8, o8, cellsIN] at g8
      obtain ⟨k, e0, -, w0⟩ := DataW.trod_int Try.underlying3 g0
      simp at e0
      subst e0
      have m1 := one_int g1 c1 (by simp)
      have m2 := one_str g2 c2 (by simp)
      have m3 := one_str g3 c3 (by simp)
      have m4 := one_val g4
      have m5 := one_val g5
      have m6 := one_sl Try.underlying51 g6 c14 (by simp)
      have m7 := one_int g7 c15 (by simp)
      have m8 := one_int g8 c16 (by simp)
      have m40 := m4 c4 (by simp)
      have m41 := m4 c5 (by simp)
      have m42 := m4 c6 (by simp)
      have m43 := m4 c7 (by simp)
      have m44 := m4 c8 (by simp)
      have m50 := m5 c9 (by simp)
      have m51 := m5 c10 (by simp)
      have m52 := m5 c11 (by simp)
      have m53 := m5 c12 (by simp)
      have m54 := m5 c13 (by simp)
      refine ⟨k, rfl, rfl, ?_, bounds_i64 w0⟩
      intro u hu
      simp only [List.mem_cons, List.not_mem_nil, or_false] at hu
      rcases hu with rfl | rfl | rfl | rfl | rfl | rfl | rfl | rfl | rfl | rfl | rfl | rfl | rfl | rfl | rfl | rfl | rfl
      · rfl
      all_goals assumption
theorem open_ents {fuel : Nat} {cs : List Value} {x : DataW H × List MemPlace} (h : DataW.trod enc Try.prog W 0 sp true fuel 45 cs = some x) (hw : ∀ n ∈ x.1.weights Try.prog 45, n ≤ reachBytes) :
    ∃ A c, ∃ ts : List Int, ∃ ds : List (Array Value), cs = [.slice A ts.length c] ∧ (A = none → c = 0) ∧ ts.length ≤ 567493904640 ∧ EntsAt W W.heap.size A ts ds := by
  rcases DataW.trod_slice Try.underlying45 h with ⟨e3, -⟩ | ⟨a, len, cap, elems, rest, m, hm, e3, x3, -, hlc, -, hel, hat, -, -⟩
  · exact ⟨none, 0, [], [], e3, fun _ => rfl, by simp, rfl, fun h => absurd h (by simp)⟩
  · have hws := hw
    rw [x3] at hws
    simp only [DataW.weights, Try.underlying45] at hws
    have hl : len ≤ 567493904640 := by
      have h1 := hws _ (List.mem_cons_self ..)
      rw [bytesEntN] at h1
      simp only [List.length_map, hel, reachBytes] at h1
      omega
    have hT : ∀ j, ∃ tc : Int × Array Value, j < len → EntL tc.1 tc.2 ∧ (∀ i v, tc.2[i]? = some v → W.cell? ((a.add (j * 17)).add i) = some v) := by
      intro j
      by_cases hj : j < len
      · have h1 := hat j hj
        rw [cellsEntN, List.getElem?_eq_getElem (by omega)] at h1
        obtain ⟨cs', hc, ht⟩ := Option.bind_eq_some_iff.1 h1
        obtain ⟨-, hcl, hcat⟩ := World.cells?_some hc
        obtain ⟨t, ho⟩ := open_ent ht
        refine ⟨(t, cs'.toArray), fun _ => ⟨ho, fun i v hv => ?_⟩⟩
        have hi := (Array.getElem?_eq_some_iff.1 hv).1
        have hi' : i < cs'.length := by simpa using hi
        rw [hcat i (by omega)]
        simpa using hv
      · exact ⟨(0, #[]), fun h => absurd h hj⟩
    obtain ⟨T, hT⟩ := Classical.skolem.1 hT
    have hlm : ((List.range len).map fun j => (T j).1).length = len := by simp
    have hlm2 : ((List.range len).map fun j => (T j).2).length = len := by simp
    refine ⟨some a, cap, (List.range len).map fun j => (T j).1, (List.range len).map fun j => (T j).2, by rw [hlm]; exact e3, (fun h => by cases h), by omega, by omega, fun hp => ?_⟩
    rw [hlm] at hp
    obtain ⟨b, off, spot⟩ := a
    obtain ⟨h1, h2⟩ := hT 0 hp
    have h00 := h2 0 _ h1.2.1
    obtain rfl : spot = none := by simpa [Addr.add] using World.cell?_spot h00
    refine ⟨b, off, rfl, ?_, fun j hj hj' => ?_⟩
    · rw [addr_addN, addr_addN] at h00; exact World.block_lt_of_cell? W _ h00
    · rw [hlm] at hj
      obtain ⟨h0, h1⟩ := hT j hj
      refine ⟨by simpa using h0, fun i v hv => ?_⟩
      have := h1 i v (by simpa using hv)
      rw [addr_addN, addr_addN] at this
      exact this
end
end Go.Proofs.Ytlhkcpfjnhbocaa
