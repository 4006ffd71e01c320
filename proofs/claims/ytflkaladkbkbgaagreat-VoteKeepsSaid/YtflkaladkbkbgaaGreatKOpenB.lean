/- Bytes that came in. -/
import Derived.Test.YtflkaladkbkbgaaGreatKRefA
import Derived.Test.YtflkaladkbkbgaaGreatKMath
import Derived.Test.YtflkaladkbkbgaaGreatKFlN
import Derived.Deep.Slices
import Derived.SizedLaws
import Derived.ProofKit
import Derived.OpenShut
import Derived.ChangeOld
import Derived.SliceStrings
import Derived.Lib.SmallJoins
namespace Go.Proofs.YtflkaladkbkbgaaGreat.OpenB
set_option linter.unusedVariables false
set_option linter.unusedSimpArgs false
open Go.ChangeShapes Go.WideShapes Go.ChangeAt Go.RowKit Go.Joins Go.Deep
set_option linter.unusedVariables false
section
variable {H : Type} {enc : TypeId × Value → H} {W : World} {sp : Nat → Bool}
theorem add_at (b off i : Nat) : ((⟨b, off, none⟩ : Addr).add i) = ⟨b, off + i, none⟩ := by
  unfold Addr.add
  split
  · next h => simp [h]
  · rfl

theorem open_bytes {fuel : Nat} {A : Option Addr} {len cap : Nat} {x : DataW H × List MemPlace} (h : DataW.trod enc Tryz.prog W 0 sp true fuel 33 [.slice A len cap] = some x) :
    (∃ l : List UInt8, len = l.length ∧ Rd W W.heap.size (.slice A l.length cap) l) ∧ (len = 0 ∨ ∃ es rs, x.1 = .slice es rs ∧ es.length = len) := by
  rcases open_ints Tryz.underlying33 Tryz.underlying5 (by kernel_rfl) h with ⟨hcs, _⟩ | ⟨a, len', cap', zs, hcs, _, hl, hm, hz, hxx, hcell, hwf⟩
  · simp only [List.cons.injEq, Value.slice.injEq, and_true] at hcs
    obtain ⟨rfl, rfl, rfl⟩ := hcs
    exact ⟨⟨[], rfl, none, 0, rfl, by simp, ⟨by decide, fun _ => rfl⟩, fun h => absurd h (by simp)⟩, .inl rfl⟩
  · simp only [List.cons.injEq, Value.slice.injEq, and_true] at hcs
    obtain ⟨rfl, rfl, rfl⟩ := hcs
    have hzl : len ≤ zs.length := by rw [hz]; split <;> omega
    have hlen : len = ((zs.take len).map fun z => UInt8.ofNat z.toNat).length := by simp; omega
    refine ⟨⟨(zs.take len).map fun z => UInt8.ofNat z.toNat, hlen, some a, cap, rfl, by rw [← hlen]; exact hl, ⟨by unfold maxLen at hm; omega, fun h => by cases h⟩, fun hp => ?_⟩, .inr ⟨_, _, by rw [hxx], by simp [lits]; omega⟩⟩
    rw [← hlen] at hp
    obtain ⟨b, off, spot⟩ := a
    have h0 := hcell 0 (by omega)
    obtain rfl : spot = none := by simpa [Addr.add] using World.cell?_spot h0
    refine ⟨b, off, rfl, ?_, fun i hi => ?_⟩
    · rw [add_at] at h0; exact World.block_lt_of_cell? W _ h0
    · rw [← hlen] at hi
      have hi2 : i < zs.length := by omega
      have h1 := hcell i hi2
      rw [add_at] at h1
      rw [h1]
      have hb := bounds_u8 (hwf zs[i] (List.getElem_mem hi2))
      have e : zs.getD i 0 = zs[i] := by simp [List.getD, List.getElem?_eq_getElem hi2]
      rw [e]
      simp only [List.getElem_map, List.getElem_take]
      rw [ofNat_toNat _ (by omega)]
      congr 2
      omega
end
end Go.Proofs.YtflkaladkbkbgaaGreat.OpenB

/- A slice of texts that came in, read. -/
namespace Go.Proofs.YtflkaladkbkbgaaGreat
set_option linter.unusedVariables false
set_option linter.unusedSimpArgs false
open Go.ChangeShapes Go.WideShapes Go.RowKit Go.Joins Go.Deep

theorem cellsStr : Tryz.prog.cellsOf 9 = 1 := by kernel_rfl
theorem bytesStr : Tryz.prog.bytesOf 9 = 16 := by kernel_rfl
section
variable {H : Type} {enc : TypeId × Value → H} {W : World} {sp : Nat → Bool}

theorem mem_weightsAll {P : Program} {e : TypeId} : ∀ {l : List (DataW H)} {d : DataW H}, d ∈ l → ∀ n ∈ d.weights P e, n ∈ DataW.weightsAll P e l
  | a :: r, d, hd, n, hn => by
    unfold DataW.weightsAll
    rw [List.mem_append]
    rcases List.mem_cons.1 hd with rfl | hd
    · exact .inl hn
    · exact .inr (mem_weightsAll hd n hn)

/-- Texts of a slice. -/
theorem open_names2 {fuel : Nat} {cs : List Value} {x : DataW H × List MemPlace} (h : DataW.trod enc Tryz.prog W 0 sp true fuel 60 cs = some x) (hw : ∀ n ∈ x.1.weights Tryz.prog 60, n ≤ reachBytes) :
    ∃ A c, ∃ ns : List ByteArray, cs = [.slice A ns.length c] ∧ ns.length ≤ c ∧ (A = none → c = 0) ∧ ns.length ≤ 8796093021952 ∧ StrsAt W (fun b => b < W.heap.size) A ns := by
  rcases open_strings Tryz.underlying60 Tryz.underlying9 cellsStr h with ⟨rfl, _⟩ | ⟨a, len, cap, ss, rfl, -, hl, hm, hsl, hx, hc, hs⟩
  · exact ⟨none, 0, [], rfl, by simp, fun _ => rfl, by simp, fun h => absurd h (by simp)⟩
  · have hle : len ≤ ss.length := by rw [hsl]; split <;> omega
    have hlen : (ss.take len).length = len := by simp; omega
    have hws := hw
    rw [hx] at hws
    simp only [DataW.weights, Tryz.underlying60] at hws
    have h1 : len ≤ 8796093021952 := by
      have h1 := hws _ (List.mem_cons_self ..)
      rw [bytesStr] at h1
      simp only [strs, List.length_map, hlen, reachBytes] at h1
      omega
    refine ⟨some a, cap, ss.take len, by rw [hlen], by rw [hlen]; exact hl, (fun h => by cases h), by rw [hlen]; exact h1, fun hp => ?_⟩
    rw [hlen] at hp
    obtain ⟨b, off, spot⟩ := a
    have h0 := hc 0 (by omega)
    obtain rfl : spot = none := by simpa [Addr.add] using World.cell?_spot h0
    refine ⟨b, off, rfl, ?_, fun i hi => ?_⟩
    · rw [add_at] at h0; exact World.block_lt_of_cell? W _ h0
    · rw [hlen] at hi
      have hi2 : i < ss.length := by omega
      have h2 := hc i hi2
      rw [add_at] at h2
      refine ⟨?_, ?_⟩
      · rw [h2]; simp [List.getD, List.getElem?_eq_getElem hi2]
      · have hmem : ((.lit (.string ((ss.take len)[i]'(by omega)).data.toList) : DataW H)) ∈ strs (H := H) (ss.take len) := by
          unfold strs
          exact List.mem_map.2 ⟨_, List.getElem_mem _, rfl⟩
        have h3 := hws ((ss.take len)[i]'(by omega)).data.toList.length (List.mem_cons_of_mem _ (List.mem_append_left _ (mem_weightsAll hmem _ (by simp [DataW.weights]))))
        simpa [reachBytes] using h3

theorem open_names {fuel : Nat} {cs : List Value} {x : DataW H × List MemPlace} (h : DataW.trod enc Tryz.prog W 0 sp true fuel 60 cs = some x) (hw : ∀ n ∈ x.1.weights Tryz.prog 60, n ≤ reachBytes) :
    ∃ A c, ∃ ns : List ByteArray, cs = [.slice A ns.length c] ∧ ns.length ≤ 8796093021952 ∧ StrsAt W (fun b => b < W.heap.size) A ns := by
  obtain ⟨A, c, ns, h1, -, -, h2, h3⟩ := open_names2 h hw
  exact ⟨A, c, ns, h1, h2, h3⟩
end
end Go.Proofs.YtflkaladkbkbgaaGreat

/- Keeps, and calls of a disk, that came in. -/
namespace Go.Proofs.YtflkaladkbkbgaaGreat
set_option linter.unusedVariables false
set_option linter.unusedSimpArgs false
open Go.ChangeShapes Go.WideShapes Go.RowKit Go.Joins Go.Deep
set_option linter.unusedVariables false
set_option maxRecDepth 100000
theorem cellsI9 : Tryz.prog.cellsOf 3 = 1 := by kernel_rfl
theorem cellsBy9 : Tryz.prog.cellsOf 33 = 1 := by kernel_rfl
theorem cellsKs9 : Tryz.prog.cellsOf 23 = 1 := by kernel_rfl
theorem cellsKeep : Tryz.prog.cellsOf 64 = 2 := by kernel_rfl
theorem bytesKeep : Tryz.prog.bytesOf 64 = 24 := by kernel_rfl
theorem fieldsKeep : ∃ f0 f1 : Field, Tryz.prog.underlying 64 = some (.struct #[f0, f1]) ∧ f0.type = 9 ∧ f1.type = 3 ∧ f0.offset = 0 ∧ f1.offset = 1 := ⟨_, _, Tryz.underlying64, rfl, rfl, rfl, rfl⟩
/-- A call of a disk. -/
structure OpV where
  k : Int
  nm : ByteArray
  to : ByteArray
  A : Option Addr
  l : List UInt8
  c : Nat
  n : Int
  m : Int
  KA : Option Addr
  kn : Nat
  kc : Nat
def OpV.cells (o : OpV) : List Value := [.int .i64 o.k, .string o.nm, .string o.to, .slice o.A o.l.length o.c, .int .i64 o.n, .int .i64 o.m, .slice o.KA o.kn o.kc]
structure OpV.Ok (w : World) (o : OpV) : Prop where
  k : -9223372036854775808 ≤ o.k ∧ o.k ≤ 9223372036854775807
  n : -9223372036854775808 ≤ o.n ∧ o.n ≤ 9223372036854775807
  m : -9223372036854775808 ≤ o.m ∧ o.m ≤ 9223372036854775807
  nm : o.nm.size ≤ 140737488351232
  rd : Rd w w.heap.size (.slice o.A o.l.length o.c) o.l
section
variable {H : Type} {enc : TypeId × Value → H} {W : World} {sp : Nat → Bool}
theorem open_keep {fuel : Nat} {cs : List Value} {x : DataW H × List MemPlace} (h : DataW.trod enc Tryz.prog W 0 sp true fuel 64 cs = some x) (hw : ∀ n ∈ x.1.weights Tryz.prog 64, n ≤ reachBytes) :
    ∃ (s : ByteArray) (n : Int), cs = [.string s, .int .i64 n] ∧ s.size ≤ 140737488351232 ∧ (-9223372036854775808 ≤ n ∧ n ≤ 9223372036854775807) := by
  obtain ⟨f0, f1, hu, t0, t1, o0, o1⟩ := fieldsKeep
  obtain ⟨xs, n, hfu, hx, hlen, hxl, hg⟩ := DataW.trod_struct hu h
  rw [cellsKeep] at hlen
  match cs, hlen with
  | [c0, c1], _ =>
    match xs, hxl with
    | [y0, y1], _ =>
      have g0 := hg 0 f0 rfl
      have g1 := hg 1 f1 rfl
      rw [t0, o0, cellsStr] at g0
      rw [t1, o1, cellsI9] at g1
      have hws := hw
      rw [hx] at hws
      simp only [DataW.weights, hu, List.map_cons, List.map_nil, t0, t1] at hws
      obtain ⟨s, e0, x0, w0⟩ := DataW.trod_string Tryz.underlying9 g0
      obtain ⟨i, e1, -, w1⟩ := DataW.trod_int Tryz.underlying3 g1
      simp at e0 e1
      subst e0 e1
      have hs : s.size ≤ 140737488351232 := by
        have := hws s.data.toList.length (by rw [DataW.weightsEach]; refine List.mem_append_left _ ?_; rw [x0]; simp [DataW.weights])
        simpa [reachBytes] using this
      exact ⟨s, i, rfl, hs, in64_of_wf w1⟩
theorem open_keeps {fuel : Nat} {cs : List Value} {x : DataW H × List MemPlace} (h : DataW.trod enc Tryz.prog W 0 sp true fuel 23 cs = some x) (hw : ∀ n ∈ x.1.weights Tryz.prog 23, n ≤ reachBytes) :
    ∃ A c, ∃ ls : List (ByteArray × Int), cs = [.slice A ls.length c] ∧ ls.length ≤ 5864062014805 ∧ KeepsAt W (fun b => b < W.heap.size) A ls := by
  rcases DataW.trod_slice Tryz.underlying23 h with ⟨e3, -⟩ | ⟨a, len, cap, elems, rest, m, hm, e3, x3, -, hlc, -, hel, hat, -, -⟩
  · exact ⟨none, 0, [], e3, by simp, fun h => absurd h (by simp)⟩
  · have hws := hw
    rw [x3] at hws
    simp only [DataW.weights, Tryz.underlying23] at hws
    have hl : len ≤ 5864062014805 := by
      have h1 := hws _ (List.mem_cons_self ..)
      rw [bytesKeep] at h1
      simp only [List.length_map, hel, reachBytes] at h1
      omega
    have hT : ∀ j, ∃ t : ByteArray × Int, j < len → W.cell? (a.add (j * 2)) = some (.string t.1) ∧ W.cell? ((a.add (j * 2)).add 1) = some (.int .i64 t.2) ∧ t.1.size ≤ 140737488351232 ∧ (-9223372036854775808 ≤ t.2 ∧ t.2 ≤ 9223372036854775807) := by
      intro j
      by_cases hj : j < len
      · have h1 := hat j hj
        rw [cellsKeep, List.getElem?_eq_getElem (by omega)] at h1
        obtain ⟨cs', hc, ht⟩ := Option.bind_eq_some_iff.1 h1
        obtain ⟨-, hcl, hcat⟩ := World.cells?_some hc
        obtain ⟨s, n, rfl, h2, h3⟩ := open_keep ht (fun n hn => hws n (List.mem_cons_of_mem _ (List.mem_append_left _ (mem_weightsAll (List.mem_map.2 ⟨_, List.getElem_mem (by omega), rfl⟩) n hn))))
        exact ⟨(s, n), fun _ => ⟨by simpa [Addr.add] using hcat 0 (by omega), by simpa using hcat 1 (by omega), h2, h3⟩⟩
      · exact ⟨(⟨#[]⟩, 0), fun h => absurd h hj⟩
    obtain ⟨T, hT⟩ := Classical.skolem.1 hT
    have hlm : ((List.range len).map T).length = len := by simp
    refine ⟨some a, cap, (List.range len).map T, by rw [hlm]; exact e3, by rw [hlm]; exact hl, fun hp => ?_⟩
    rw [hlm] at hp
    obtain ⟨b, off, spot⟩ := a
    obtain ⟨h0, -⟩ := hT 0 hp
    obtain rfl : spot = none := by simpa [Addr.add] using World.cell?_spot h0
    refine ⟨b, off, rfl, ?_, fun j hj => ?_⟩
    · rw [addr_addY] at h0; exact World.block_lt_of_cell? W _ h0
    · rw [hlm] at hj
      obtain ⟨h0, h1, h2, h3⟩ := hT j hj
      simp only [addr_addY] at h0 h1
      exact ⟨by simpa using h0, by simpa using h1, by simpa using h2, by simpa using h3⟩
theorem slice_shape {P : Program} {t e : TypeId} {fuel : Nat} {cs : List Value} {x : DataW H × List MemPlace} (ht : P.underlying t = some (.slice e)) (h : DataW.trod enc P W 0 sp true fuel t cs = some x) : ∃ A n c, cs = [.slice A n c] := by
  rcases DataW.trod_slice ht h with ⟨e3, -⟩ | ⟨a, len, cap, elems, rest, m, hm, e3, -⟩
  · exact ⟨_, _, _, e3⟩
  · exact ⟨_, _, _, e3⟩
/-- Calls that lie in memory. -/
def OpsAt (w : World) (A : Option Addr) (os : List OpV) : Prop :=
  0 < os.length → ∃ b off, A = some ⟨b, off, none⟩ ∧ b < w.heap.size ∧ ∀ i (h : i < os.length), (∀ j v, (os[i].cells)[j]? = some v → w.cell? ⟨b, off + i * 7 + j, none⟩ = some v) ∧ os[i].Ok w
end
end Go.Proofs.YtflkaladkbkbgaaGreat

/- Calls of votes that came in. -/
namespace Go.Proofs.YtflkaladkbkbgaaGreat
set_option linter.unusedVariables false
set_option linter.unusedSimpArgs false
open Go.ChangeShapes Go.WideShapes Go.RowKit Go.Joins Go.Deep
set_option linter.unusedVariables false
set_option maxRecDepth 100000
theorem cellsOp12 : Tryz.prog.cellsOf 35 = 7 := by kernel_rfl
theorem fieldsOp12 : ∃ f0 f1 f2 f3 f4 f5 f6 : Field, Tryz.prog.underlying 35 = some (.struct #[f0, f1, f2, f3, f4, f5, f6]) ∧ f0.type = 3 ∧ f1.type = 3 ∧ f2.type = 3 ∧ f3.type = 3 ∧ f4.type = 3 ∧ f5.type = 33 ∧ f6.type = 23 ∧ f0.offset = 0 ∧ f1.offset = 1 ∧ f2.offset = 2 ∧ f3.offset = 3 ∧ f4.offset = 4 ∧ f5.offset = 5 ∧ f6.offset = 6 :=
  ⟨_, _, _, _, _, _, _, Tryz.underlying35, rfl, rfl, rfl, rfl, rfl, rfl, rfl, rfl, rfl, rfl, rfl, rfl, rfl, rfl⟩
/-- A call of votes. -/
structure OpW where
  k : Int
  t : Int
  u : Int
  n : Int
  m : Int
  A : Option Addr
  l : List UInt8
  c : Nat
  KA : Option Addr
  kn : Nat
  kc : Nat
def OpW.cells (o : OpW) : List Value := [.int .i64 o.k, .int .i64 o.t, .int .i64 o.u, .int .i64 o.n, .int .i64 o.m, .slice o.A o.l.length o.c, .slice o.KA o.kn o.kc]
structure OpW.Ok (w : World) (o : OpW) : Prop where
  t : -9223372036854775808 ≤ o.t ∧ o.t ≤ 9223372036854775807
  u : -9223372036854775808 ≤ o.u ∧ o.u ≤ 9223372036854775807
  rd : Rd w w.heap.size (.slice o.A o.l.length o.c) o.l
section
variable {H : Type} {enc : TypeId × Value → H} {W : World} {sp : Nat → Bool}
theorem open_op12 {fuel : Nat} {cs : List Value} {x : DataW H × List MemPlace} (h : DataW.trod enc Tryz.prog W 0 sp true fuel 35 cs = some x) (hw : ∀ n ∈ x.1.weights Tryz.prog 35, n ≤ reachBytes) :
    ∃ o : OpW, cs = o.cells ∧ o.Ok W := by
  obtain ⟨f0, f1, f2, f3, f4, f5, f6, hu, t0, t1, t2, t3, t4, t5, t6, o0, o1, o2, o3, o4, o5, o6⟩ := fieldsOp12
  obtain ⟨xs, n, hfu, hx, hlen, hxl, hg⟩ := DataW.trod_struct hu h
  rw [cellsOp12] at hlen
  match cs, hlen with
  | [c0, c1, c2, c3, c4, c5, c6], _ =>
    match xs, hxl with
    | [y0, y1, y2, y3, y4, y5, y6], _ =>
      have g0 := hg 0 f0 rfl
      have g1 := hg 1 f1 rfl
      have g2 := hg 2 f2 rfl
      have g3 := hg 3 f3 rfl
      have g4 := hg 4 f4 rfl
      have g5 := hg 5 f5 rfl
      have g6 := hg 6 f6 rfl
      rw [t0, o0, cellsI9] at g0
      rw [t1, o1, cellsI9] at g1
      rw [t2, o2, cellsI9] at g2
      rw [t3, o3, cellsI9] at g3
      rw [t4, o4, cellsI9] at g4
      rw [t5, o5, cellsBy9] at g5
      rw [t6, o6, cellsKs9] at g6
      obtain ⟨k, e0, -, w0⟩ := DataW.trod_int Tryz.underlying3 g0
      obtain ⟨t, e1, -, w1⟩ := DataW.trod_int Tryz.underlying3 g1
      obtain ⟨u, e2, -, w2⟩ := DataW.trod_int Tryz.underlying3 g2
      obtain ⟨n, e3, -, w3⟩ := DataW.trod_int Tryz.underlying3 g3
      obtain ⟨m, e4, -, w4⟩ := DataW.trod_int Tryz.underlying3 g4
      obtain ⟨A5, n5, k5, e5⟩ := slice_shape Tryz.underlying33 g5
      obtain ⟨A6, n6, k6, e6⟩ := slice_shape Tryz.underlying23 g6
      rw [e5] at g5
      simp at e0 e1 e2 e3 e4 e5 e6
      subst e0 e1 e2 e3 e4 e5 e6
      obtain ⟨⟨l, hl, hr⟩, -⟩ := OpenB.open_bytes g5
      subst hl
      exact ⟨⟨k, t, u, n, m, A5, l, k5, A6, n6, k6⟩, rfl, in64_of_wf w1, in64_of_wf w2, hr⟩
end
end Go.Proofs.YtflkaladkbkbgaaGreat

/- Rows of calls of votes that came in. -/
namespace Go.Proofs.YtflkaladkbkbgaaGreat
set_option linter.unusedVariables false
set_option linter.unusedSimpArgs false
open Go.ChangeShapes Go.WideShapes Go.RowKit Go.Joins Go.Deep
set_option linter.unusedVariables false
set_option maxRecDepth 100000
def OpsWAt (w : World) (A : Option Addr) (os : List OpW) : Prop :=
  0 < os.length → ∃ b off, A = some ⟨b, off, none⟩ ∧ b < w.heap.size ∧ ∀ i (h : i < os.length), (∀ j v, (os[i].cells)[j]? = some v → w.cell? ⟨b, off + i * 7 + j, none⟩ = some v) ∧ os[i].Ok w
section
variable {H : Type} {enc : TypeId × Value → H} {W : World} {sp : Nat → Bool}
theorem open_ops12 {fuel : Nat} {cs : List Value} {x : DataW H × List MemPlace} (h : DataW.trod enc Tryz.prog W 0 sp true fuel 22 cs = some x) (hw : ∀ n ∈ x.1.weights Tryz.prog 22, n ≤ reachBytes) :
    ∃ A c, ∃ os : List OpW, cs = [.slice A os.length c] ∧ OpsWAt W A os := by
  rcases DataW.trod_slice Tryz.underlying22 h with ⟨e3, -⟩ | ⟨a, len, cap, elems, rest, m, hm, e3, x3, -, hlc, -, hel, hat, -, -⟩
  · exact ⟨none, 0, [], e3, fun h => absurd h (by simp)⟩
  · have hws := hw
    rw [x3] at hws
    simp only [DataW.weights, Tryz.underlying22] at hws
    have hT : ∀ j, ∃ o : OpW, j < len → (∀ i v, o.cells[i]? = some v → W.cell? ((a.add (j * 7)).add i) = some v) ∧ o.Ok W := by
      intro j
      by_cases hj : j < len
      · have h1 := hat j hj
        rw [cellsOp12, List.getElem?_eq_getElem (by omega)] at h1
        obtain ⟨cs', hc, ht⟩ := Option.bind_eq_some_iff.1 h1
        obtain ⟨-, hcl, hcat⟩ := World.cells?_some hc
        obtain ⟨o, rfl, hok⟩ := open_op12 ht (fun n hn => hws n (List.mem_cons_of_mem _ (List.mem_append_left _ (mem_weightsAll (List.mem_map.2 ⟨_, List.getElem_mem (by omega), rfl⟩) n hn))))
        refine ⟨o, fun _ => ⟨fun i v hv => ?_, hok⟩⟩
        have hi := (List.getElem?_eq_some_iff.1 hv).1
        rw [hcat i (by omega)]
        exact hv
      · exact ⟨⟨0, 0, 0, 0, 0, none, [], 0, none, 0, 0⟩, fun h => absurd h hj⟩
    obtain ⟨T, hT⟩ := Classical.skolem.1 hT
    have hlm : ((List.range len).map T).length = len := by simp
    refine ⟨some a, cap, (List.range len).map T, by rw [hlm]; exact e3, fun hp => ?_⟩
    rw [hlm] at hp
    obtain ⟨b, off, spot⟩ := a
    obtain ⟨h0, -⟩ := hT 0 hp
    have h00 := h0 0 (.int .i64 (T 0).k) rfl
    obtain rfl : spot = none := by simpa [Addr.add] using World.cell?_spot h00
    refine ⟨b, off, rfl, ?_, fun j hj => ?_⟩
    · rw [addr_addY, addr_addY] at h00; exact World.block_lt_of_cell? W _ h00
    · rw [hlm] at hj
      obtain ⟨h0, h1⟩ := hT j hj
      refine ⟨fun i v hv => ?_, by simpa using h1⟩
      have := h0 i v (by simpa using hv)
      rw [addr_addY, addr_addY] at this
      exact this
end
end Go.Proofs.YtflkaladkbkbgaaGreat
