/- Two operators one of whose paths begins the other's make no update; where the arguments hold together at most 1048576 values and letters (a value's depth is counted in an int). -/
import Derived.Test.YtipiplnhbecjeaaKSpRi
import Derived.Test.YtipiplnhbecjeaaKSpM
import Derived.Test.YtipiplnhbecjeaaKSpF
import Derived.Test.YtipiplnhbecjeaaKSpAp
import Derived.Test.YtipiplnhbecjeaaKOpenD
import Derived.Test.YtipiplnhbecjeaaKSpS
import Derived.SizedLaws
import Derived.ProofKit
import Derived.OpenShut
import Derived.ShutString
import Derived.ChangeOld
import Derived.JoinedCond
import Derived.Deep.CondSized
import Derived.Below
namespace Go.Proofs.Ytipiplnhbecjeaa.SApart
set_option linter.unusedVariables false
set_option linter.unusedSimpArgs false
open Go.ChangeShapes Go.WideShapes Go.ChangeAt Go.RowKit Go.Joins
open Go.ChangeMaps (open_string shut_string)
set_option linter.unusedVariables false

theorem own : ownKnob Try.prog.godebug = none := by kernel_rfl
theorem laidOut : laidOutB Try.prog = true := by kernel_rfl
theorem pair_spec {w : World} {a b : OpT} {a0 a1 a2 a3 a4 a5 a6 a7 b0 b1 b2 b3 b4 b5 b6 b7 : Value} (ha : OpL w (fun b => b < w.heap.size) a #[a0, a1, a2, a3, a4, a5, a6, a7]) (hb : OpL w (fun b => b < w.heap.size) b #[b0, b1, b2, b3, b4, b5, b6, b7]) :
    SpecL (w.alloc (.cells #[a0, a1, a2, a3, a4, a5, a6, a7, b0, b1, b2, b3, b4, b5, b6, b7] 27)) (fun b => b < w.heap.size + 1) (pairS a b) #[.bool false, .int .i64 0, .int .i64 0, .string ⟨#[]⟩, .slice none 0 0, .slice none 0 0, .slice (some ⟨w.heap.size, 0, none⟩) 2 2] := by
  have g4 := heap_alloc_new w (.cells #[a0, a1, a2, a3, a4, a5, a6, a7, b0, b1, b2, b3, b4, b5, b6, b7] 27)
  have hk : ∀ b, b < w.heap.size → (w.alloc (.cells #[a0, a1, a2, a3, a4, a5, a6, a7, b0, b1, b2, b3, b4, b5, b6, b7] 27)).heap[b]? = w.heap[b]? := fun b hb => Below.heap_alloc w _ b hb
  refine ⟨none, 0, none, 0, some ⟨w.heap.size, 0, none⟩, 2, rfl, leaf_lv _ _ _ _ _ (by unfold Rng; omega) (by unfold Rng; omega) (by decide), fun _ => ⟨w.heap.size, 0, rfl, by omega, fun i hi => ?_⟩, by simp [pairS], by simp [pairS]⟩
  have hi2 : i < 2 := hi
  match i, hi2 with
  | 0, _ =>
    exact ⟨#[a0, a1, a2, a3, a4, a5, a6, a7], fun j v hj => by
      have hj' : j < 8 := (Array.getElem?_eq_some_iff.1 hj).1
      rw [Go.Joins.cell_of_block g4 (0 + 0 * 8 + j)]
      match j, hj' with
      | 0, _ | 1, _ | 2, _ | 3, _ | 4, _ | 5, _ | 6, _ | 7, _ => exact hj,
      (ha.keep hk).imp fun b hb => by omega⟩
  | 1, _ =>
    exact ⟨#[b0, b1, b2, b3, b4, b5, b6, b7], fun j v hj => by
      have hj' : j < 8 := (Array.getElem?_eq_some_iff.1 hj).1
      rw [Go.Joins.cell_of_block g4 (0 + 1 * 8 + j)]
      match j, hj' with
      | 0, _ | 1, _ | 2, _ | 3, _ | 4, _ | 5, _ | 6, _ | 7, _ => exact hj,
      (hb.keep hk).imp fun b hb => by omega⟩
theorem box_lie {w w' : World} {g : Nat} {c0 c1 c2 c3 c4 c5 c6 c7 : Value} (h : OBox w g c0 c1 c2 c3 c4 c5 c6 c7) (hk : w'.heap[g]? = w.heap[g]?) : OBox w' g c0 c1 c2 c3 c4 c5 c6 c7 := hk.trans h
theorem box_of {w w' : World} {B g : Nat} {c0 c1 c2 c3 c4 c5 c6 c7 : Value} (h : OBox w g c0 c1 c2 c3 c4 c5 c6 c7) (hb : Below B w w') (hg : g < B) : OBox w' g c0 c1 c2 c3 c4 c5 c6 c7 := (hb.block g hg).trans h
theorem box_grown {w w' : World} {g k : Nat} {c0 c1 c2 c3 c4 c5 c6 c7 : Value} {K : Option Nat} (h : OBox w g c0 c1 c2 c3 c4 c5 c6 c7) (hg : w.grownBy w' K) (hK : ∀ k, K = some k → g ≠ k) : OBox w' g c0 c1 c2 c3 c4 c5 c6 c7 := (hg.block g h.lt (fun e => hK g e.symm rfl)).trans h
theorem below_grownA {B : Nat} {w0 w w' : World} {K : Option Nat} (hb : Below B w0 w) (hB : B ≤ w.heap.size) (hg : w.grownBy w' K) (hK : ∀ k, K = some k → B ≤ k) : Below B w0 w' :=
  hb.trans ⟨hg.os, hg.tape, hg.output, hg.size, fun b hb' => hg.block b (by omega) (fun e => by have := hK b e.symm; omega)⟩
theorem own_block {w : World} {B : Nat} {v : Value} {ns : List ByteArray} (h : OwnS w B v ns) : ∀ k, v.ownBlock = some k → B ≤ k := by
  rcases h.2 with ⟨e, -⟩ | ⟨g, cap, cur, e, hB, -⟩
  · intro k hk; rw [e] at hk; simp [Value.ownBlock] at hk
  · intro k hk; rw [e] at hk; simp [Value.ownBlock] at hk; omega
theorem below_setA {B p i : Nat} {w w' : World} {u : Value} (h : Below B w w') (hp : B ≤ p) : Below B w (w'.setCell ⟨p, i, none⟩ u) := ⟨h.os, h.tape, h.output, by simp; exact h.size, fun b hb => (heap_setCell_other _ ⟨p, i, none⟩ b _ (by show b ≠ p; omega)).trans (h.block b hb)⟩
theorem own_keepA {w W : World} {B : Nat} {v : Value} {ns : List ByteArray} (h : OwnS w B v ns) (hk : ∀ b, b < w.heap.size → W.heap[b]? = w.heap[b]?) : OwnS W B v ns := by
  refine ⟨h.1, ?_⟩
  rcases h.2 with h0 | ⟨g, cap, cur, h1, h2, h3, h4⟩
  · exact .inl h0
  · exact .inr ⟨g, cap, cur, h1, h2, (hk g (Array.getElem?_eq_some_iff.1 h3).1).trans h3, h4⟩
theorem own_blt {w : World} {B g n c : Nat} {ns : List ByteArray} (h : OwnS w B (.slice (some ⟨g, 0, none⟩) n c) ns) : g < w.heap.size := (World.ownsRow.lt h g rfl).2
/-- The second operator with its new path. -/
theorem op_with {w W : World} {b : OpT} {p : List ByteArray} {v c0 c1 c2 c3 c4 c5 c6 c7 : Value} (h : OpL w (fun b => b < w.heap.size) b #[c0, c1, c2, c3, c4, c5, c6, c7]) (hb : Below w.heap.size w W) (hv : SlP W (fun b => b < W.heap.size) v p) : OpL W (fun b => b < W.heap.size) (withP b p) #[c0, v, c2, c3, c4, c5, c6, c7] := by
  obtain ⟨PA, pc, a, b, c, d, e, TA, tc, e1, hv1, hp, ht, hpc, htc, hk, hpl, htl⟩ := h
  simp only [Array.mk.injEq, List.cons.injEq, and_true] at e1
  obtain ⟨rfl, rfl, rfl, rfl, rfl, rfl, rfl, rfl⟩ := e1
  obtain ⟨A, c', rfl, h1, h2, h3⟩ := hv
  have hs := hb.size
  exact ⟨A, c', _, _, _, _, _, TA, tc, rfl, (hv1.keep fun b hb' => hb.block b hb').imp fun b hb' => Nat.lt_of_lt_of_le hb' hs, h1, (ht.keep fun b hb' => hb.block b hb').imp fun b hb' => Nat.lt_of_lt_of_le hb' hs, h2, htc, hk, h3, htl⟩
theorem op_later {w W : World} {a : OpT} {cs : Array Value} (h : OpL w (fun b => b < w.heap.size) a cs) (hb : Below w.heap.size w W) : OpL W (fun b => b < W.heap.size) a cs := (h.below (fun _ h => h) hb).imp fun b hb' => Nat.lt_of_lt_of_le hb' hb.size
set_option maxHeartbeats 16000000 in
set_option maxRecDepth 100000 in
theorem walk (a b : OpT) (ca cb : Array Value) (st : ByteArray) (w : World) (ha : OpL w (fun b => b < w.heap.size) a ca) (hb : OpL w (fun b => b < w.heap.size) b cb) (hs : st.size ≤ 140737488351232) (hda : depthT a.val ≤ 1048576) (hdb : depthT b.val ≤ 1048576) :
    Calls Try.prog 3 #[.agg ca, .agg cb, .string st] w fun e w' => e = .returned (.bool true) ∧ Below w.heap.size w w' := by
  obtain ⟨PA, pc, a0, a1, a2, a3, a4, TA, tc, rfl, hva, hpa, hta, hpca, htca, hka, hpla, htla⟩ := id ha
  obtain ⟨VA, vc, VA', vc', hvs, -⟩ := hva.shape
  simp only [Value.agg.injEq, Array.mk.injEq, List.cons.injEq, and_true] at hvs
  obtain ⟨rfl, rfl, rfl, rfl, rfl⟩ := hvs
  obtain ⟨PB, pd, b0, b1, b2, b3, b4, TB, td, rfl, hvb, hpb, htb, hpcb, htcb, hkb, hplb, htlb⟩ := id hb
  obtain ⟨VB, vd, VB', vd', hvs, -⟩ := hvb.shape
  simp only [Value.agg.injEq, Array.mk.injEq, List.cons.injEq, and_true] at hvs
  obtain ⟨rfl, rfl, rfl, rfl, rfl⟩ := hvs
  obtain ⟨w2, hw2⟩ : ∃ W, W = (w.alloc (.cells #[.int .i64 a.kind, .slice PA a.path.length pc, .int .i64 a.val.kind, .int .i64 a.val.num, .string a.val.text, .slice VA a.val.items.length vc, .slice VA' a.val.names.length vc', .slice TA a.to.length tc] 27)).alloc (.cells #[.int .i64 b.kind, .slice PB b.path.length pd, .int .i64 b.val.kind, .int .i64 b.val.num, .string b.val.text, .slice VB b.val.items.length vd, .slice VB' b.val.names.length vd', .slice TB b.to.length td] 27) := ⟨_, rfl⟩
  have hqa : OBox w2 w.heap.size (.int .i64 a.kind) (.slice PA a.path.length pc) (.int .i64 a.val.kind) (.int .i64 a.val.num) (.string a.val.text) (.slice VA a.val.items.length vc) (.slice VA' a.val.names.length vc') (.slice TA a.to.length tc) := by rw [hw2]; exact (OBox.new w _ _ _ _ _ _ _ _).alloc _
  have hqb : OBox w2 (w.heap.size + 1) (.int .i64 b.kind) (.slice PB b.path.length pd) (.int .i64 b.val.kind) (.int .i64 b.val.num) (.string b.val.text) (.slice VB b.val.items.length vd) (.slice VB' b.val.names.length vd') (.slice TB b.to.length td) := by
    have h := OBox.new (w.alloc (.cells #[.int .i64 a.kind, .slice PA a.path.length pc, .int .i64 a.val.kind, .int .i64 a.val.num, .string a.val.text, .slice VA a.val.items.length vc, .slice VA' a.val.names.length vc', .slice TA a.to.length tc] 27)) (.int .i64 b.kind) (.slice PB b.path.length pd) (.int .i64 b.val.kind) (.int .i64 b.val.num) (.string b.val.text) (.slice VB b.val.items.length vd) (.slice VB' b.val.names.length vd') (.slice TB b.to.length td)
    rw [show (w.alloc (.cells #[.int .i64 a.kind, .slice PA a.path.length pc, .int .i64 a.val.kind, .int .i64 a.val.num, .string a.val.text, .slice VA a.val.items.length vc, .slice VA' a.val.names.length vc', .slice TA a.to.length tc] 27)).heap.size = w.heap.size + 1 by simp] at h
    rw [hw2]
    exact h
  have hb2 : Below w.heap.size w w2 := by rw [hw2]; exact ((Below.refl _ _).alloc (Nat.le_refl _) _).alloc (by simp) _
  have HQA2 := Lib.hid hqa
  have HQB2 := Lib.hid hqb
  have HB2 := Lib.hid hb2
  have HOA := Lib.hid ha
  have HOB := Lib.hid hb
  have HTA := Lib.hid hta
  have HTB := Lib.hid htb
  have HPA := Lib.hid hpa
  have HSZ := Lib.hid hs
  have HLA := Lib.hid hpla
  have HDA : Hid (depthT a.val ≤ 4611686018427387903) := Lib.hid (by omega)
  have HDB : Hid (depthT b.val ≤ 4611686018427387903) := Lib.hid (by omega)
  have HMY := Lib.hid (rmay7_any (fun b => b < w2.heap.size) a _ w2 (fun _ h => h) (op_later ha hb2) HDA.out)
  have y0 := hqa.g0
  have y1 := hqa.g1
  have y2 := hqa.g2
  have y3 := hqa.g3
  have y4 := hqa.g4
  have y5 := hqa.g5
  have y6 := hqa.g6
  have y7 := hqa.g7
  have yf := fun i => hqa.free i
  have z0 := hqb.g0
  have z1 := hqb.g1
  have z2 := hqb.g2
  have z3 := hqb.g3
  have z4 := hqb.g4
  have z5 := hqb.g5
  have z6 := hqb.g6
  have z7 := hqb.g7
  have zf := fun i => hqb.free i
  obtain ⟨ma, hma⟩ : ∃ r, r = mayO a := ⟨_, rfl⟩
  rw [← hma] at HMY
  have HMA0 := Lib.hid hma
  obtain ⟨mb, hmb⟩ : ∃ r, r = mayO b := ⟨_, rfl⟩
  have HMB0 := Lib.hid hmb
  have HW2 := Lib.hid hw2
  rw [hw2] at y0 y1 y2 y3 y4 y5 y6 y7 z0 z1 z2 z3 z4 z5 z6 z7
  clear yf zf hqa hqb hb2 ha hb hva hpa hta hpca htca hka hpla htla hvb hpb htb hpcb htcb hkb hplb htlb hs hda hdb hma hmb
  go_enter Try.func3, Try.ntmps3
  go_wp2_with fail
  rw [← hw2]
  clear hw2 y0 y1 y2 y3 y4 y5 y6 y7 z0 z1 z2 z3 z4 z5 z6 z7
  refine HMY.out.mono ?_
  rintro e w3 ⟨rfl, hb⟩
  have HQA3 := Lib.hid (box_of HQA2.out hb HQA2.out.lt)
  have HQB3 := Lib.hid (box_of HQB2.out hb HQB2.out.lt)
  have HB3 := Lib.hid (HB2.out.trans (hb.mono HB2.out.size))
  have HMY3 := Lib.hid (rmay7_any (fun b => b < w3.heap.size) b _ w3 (fun _ h => h) (op_later HOB.out HB3.out) HDB.out)
  rw [← HMB0.out] at HMY3
  clear hb HMY HW2
  cases ma with
  | false =>
    go_wp2_with fail
    refine (lives7_any _).mono ?_
    rintro e v9 ⟨rfl, hb⟩
    have HF := Lib.hid (HB3.out.trans (hb.mono HB3.out.size))
    clear hb
    go_wp2_with fail
    go_ret
    exact ⟨rfl, HF.out⟩
  | true =>
    have y0 := HQA3.out.g0
    have y1 := HQA3.out.g1
    have y2 := HQA3.out.g2
    have y3 := HQA3.out.g3
    have y4 := HQA3.out.g4
    have y5 := HQA3.out.g5
    have y6 := HQA3.out.g6
    have y7 := HQA3.out.g7
    have yf := fun i => HQA3.out.free i
    have z0 := HQB3.out.g0
    have z1 := HQB3.out.g1
    have z2 := HQB3.out.g2
    have z3 := HQB3.out.g3
    have z4 := HQB3.out.g4
    have z5 := HQB3.out.g5
    have z6 := HQB3.out.g6
    have z7 := HQB3.out.g7
    have zf := fun i => HQB3.out.free i
    go_wp2_with fail
    refine HMY3.out.mono ?_
    rintro e w4 ⟨rfl, hb⟩
    have HQA4 := Lib.hid (box_of HQA3.out hb HQA3.out.lt)
    have HQB4 := Lib.hid (box_of HQB3.out hb HQB3.out.lt)
    have HB4 := Lib.hid (HB3.out.trans (hb.mono HB3.out.size))
    clear hb HMY3
    clear y0 y1 y2 y3 y4 y5 y6 y7 z0 z1 z2 z3 z4 z5 z6 z7 yf zf
    cases mb with
    | false =>
      go_wp2_with fail
      refine (lives7_any _).mono ?_
      rintro e v9 ⟨rfl, hb⟩
      have HF := Lib.hid (HB4.out.trans (hb.mono HB4.out.size))
      clear hb
      go_wp2_with fail
      go_ret
      exact ⟨rfl, HF.out⟩
    | true =>
      have HMA : Hid (mayO a = true) := Lib.hid HMA0.out.symm
      have HMB : Hid (mayO b = true) := Lib.hid HMB0.out.symm
      have hpos := mayP_posA (mayO_path HMA.out)
      have hpi : (0 : Int) < (a.path.length : Int) := by omega
      obtain ⟨pb, po, rfl, pS, phc⟩ := HPA.out hpos
      have pc0 := (phc 0 hpos).1
      rw [Nat.add_zero] at pc0
      obtain ⟨px, ph⟩ : ∃ x, x = a.path[0]'(hpos) := ⟨_, rfl⟩
      rw [← ph] at pc0
      have PH : Hid (a.path.head? = some px) := Lib.hid (by rw [ph, List.head?_eq_getElem?, List.getElem?_eq_getElem (hpos)])
      have PC : Hid (pb < w.heap.size ∧ w.cell? ⟨pb, po, none⟩ = some (.string px)) := Lib.hid ⟨pS, pc0⟩
      clear phc pS ph pc0
      have pce := (HB4.out.cell (p := ⟨pb, po, none⟩) PC.out.1).trans PC.out.2
      have y0 := HQA4.out.g0
      have y1 := HQA4.out.g1
      have y2 := HQA4.out.g2
      have y3 := HQA4.out.g3
      have y4 := HQA4.out.g4
      have y5 := HQA4.out.g5
      have y6 := HQA4.out.g6
      have y7 := HQA4.out.g7
      have yf := fun i => HQA4.out.free i
      have z0 := HQB4.out.g0
      have z1 := HQB4.out.g1
      have z2 := HQB4.out.g2
      have z3 := HQB4.out.g3
      have z4 := HQB4.out.g4
      have z5 := HQB4.out.g5
      have z6 := HQB4.out.g6
      have z7 := HQB4.out.g7
      have zf := fun i => HQB4.out.free i
      by_cases he : px = idN
      · have d2 : (px.toList == (⟨#[95, 105, 100]⟩ : ByteArray).toList) = true := by rw [he, str_beq]; exact decide_eq_true rfl
        have d3 : (px.toList == [95, 105, 100]) = true := idL ▸ d2
        clear he
        go_wp2_with fail
        refine (lives7_any _).mono ?_
        rintro e v9 ⟨rfl, hb⟩
        have HF := Lib.hid (HB4.out.trans (hb.mono HB4.out.size))
        clear hb
        go_wp2_with fail
        go_ret
        exact ⟨rfl, HF.out⟩
      · have pd2 : (px.toList == (⟨#[95, 105, 100]⟩ : ByteArray).toList) = false := by rw [str_beq]; exact decide_eq_false he
        have pd3 : (px.toList == [95, 105, 100]) = false := idL ▸ pd2
        have PNE := Lib.hid he
        clear he
        have HPNE : Hid (a.path.head? ≠ some idN) := Lib.hid (by rw [PH.out]; exact fun e => PNE.out (by injection e))
        by_cases hl7 : a.path.length > 7
        · have d7 : decide ((a.path.length : Int) > 7) = true := decide_eq_true (by omega)
          go_wp2_with fail
          refine (lives7_any _).mono ?_
          rintro e v9 ⟨rfl, hb⟩
          have HF := Lib.hid (HB4.out.trans (hb.mono HB4.out.size))
          clear hb
          go_wp2_with fail
          go_ret
          exact ⟨rfl, HF.out⟩
        · have d7 : decide ((a.path.length : Int) > 7) = false := decide_eq_false (by omega)
          have HL7 : Hid (a.path.length ≤ 7) := Lib.hid (by omega)
          have HP4 : Hid (StrsAt w4 (fun b => b < w4.heap.size) (some ⟨pb, po, none⟩) a.path) := Lib.hid ((HPA.out.keep fun b hb => HB4.out.block b hb).imp fun b hb => Nat.lt_of_lt_of_le hb HB4.out.size)
          have HZ4 := Lib.hid HB4.out.size
          have HO5 : Hid (OwnS (w4.alloc (.cells #[] 9)) w4.heap.size (.slice (some ⟨w4.heap.size, 0, none⟩) 0 0) []) := Lib.hid (World.ownsRow_made w4 #[] 0 (Nat.le_refl _) (by decide) rfl)
          have HP5 : Hid (StrsAt (w4.alloc (.cells #[] 9)) (fun b => b < w4.heap.size) (some ⟨pb, po, none⟩) a.path) := Lib.hid (HP4.out.keep fun b hb => Below.heap_alloc w4 _ b hb)
          have HX5 := Lib.hid (fun (w6 : World) (v6 : Value) (hv : OwnS w6 w4.heap.size v6 ([] ++ a.path)) (hg : (w4.alloc (.cells #[] 9)).grownBy w6 (Value.slice (some ⟨w4.heap.size, 0, none⟩) 0 0).ownBlock) => And.intro (box_grown (g := w.heap.size) (k := 0) (HQA4.out.alloc (.cells #[] 9)) hg (fun k hk e => by have := own_block HO5.out k hk; have := HQA4.out.lt; omega)) (And.intro (box_grown (g := w.heap.size + 1) (k := 0) (HQB4.out.alloc (.cells #[] 9)) hg (fun k hk e => by have := own_block HO5.out k hk; have := HQB4.out.lt; omega)) (below_grownA (HB4.out.alloc HZ4.out (.cells #[] 9)) (by have := HZ4.out; simp; omega) hg (fun k hk => by have := own_block HO5.out k hk; have := HZ4.out; omega))))
          have y1e := (HQA4.out.alloc (.cells #[] 9)).g1
          go_wp2_with (at_builtin; go_must (refine wpList_append_strs rfl _ _ rfl w4.heap.size (.slice (some ⟨w4.heap.size, 0, none⟩) 0 0) [] rfl HO5.out (some ⟨pb, po, none⟩) pc a.path (fun b => b < w4.heap.size) rfl (fun h => by cases h) HP5.out (by simp) (by have := HL7.out; simp; omega) ?_); intro v6 w6 hv6 hg6; have HX6 := Lib.hid (HX5.out w6 v6 hv6 hg6); rw [List.nil_append] at hv6; obtain ⟨qb, qc, rfl, hqB⟩ := hv6.row hpos; have HV6 := Lib.hid hv6; have HQB6 := Lib.hid hqB; clear hqB hv6 hg6 y0 y1 y2 y3 y4 y5 y6 y7 yf z0 z1 z2 z3 z4 z5 z6 z7 zf y1e pce; have z1 := HX6.out.2.1.g1; have zf := fun i => HX6.out.2.1.free i)
          obtain ⟨w7, hw7⟩ : ∃ W, W = w6.setCell ⟨w.heap.size + 1, 1, none⟩ (.slice (some ⟨qb, 0, none⟩) a.path.length qc) := ⟨_, rfl⟩
          rw [← hw7]
          have hz7 : w7.heap.size = w6.heap.size := by rw [hw7]; simp
          have hlt4 := HQB4.out.lt
          have hz46 : w4.heap.size + 1 ≤ w6.heap.size := by have := own_blt HV6.out; have := HQB6.out; omega
          have hqa7 := HX6.out.1.other (w.heap.size + 1) 1 (.slice (some ⟨qb, 0, none⟩) a.path.length qc) (by omega)
          rw [← hw7] at hqa7
          have hqb7 := HX6.out.2.1.set1 (.slice (some ⟨qb, 0, none⟩) a.path.length qc)
          rw [← hw7] at hqb7
          have hb7 : Below w.heap.size w w7 := by rw [hw7]; exact below_setA HX6.out.2.2 (by omega)
          have hv7 : OwnS w7 w4.heap.size (.slice (some ⟨qb, 0, none⟩) a.path.length qc) a.path := HV6.out.keep fun b hb => by rw [hw7]; exact heap_setCell_other _ ⟨w.heap.size + 1, 1, none⟩ b _ (by show b ≠ w.heap.size + 1; omega)
          obtain ⟨w8, hw8⟩ : ∃ W, W = w7.alloc (.cells #[.string st] 9) := ⟨_, rfl⟩
          rw [← hw8]
          have hz8 : w8.heap.size = w6.heap.size + 1 := by rw [hw8]; simp; omega
          have k8 : ∀ b, b < w7.heap.size → w8.heap[b]? = w7.heap[b]? := fun b hb => by rw [hw8]; exact Below.heap_alloc w7 _ b hb
          have n8 : w8.heap[w6.heap.size]? = some (.cells #[.string st] 9 (0, 0)) := by rw [hw8, ← hz7]; exact heap_alloc_new w7 _
          have HQA8 := Lib.hid (box_lie hqa7 (k8 _ hqa7.lt))
          have HQB8 := Lib.hid (box_lie hqb7 (k8 _ hqb7.lt))
          have HB8 : Hid (Below w.heap.size w w8) := Lib.hid (by rw [hw8]; exact hb7.alloc (by have := HB4.out.size; omega) _)
          have HV8 : Hid (OwnS w8 w4.heap.size (.slice (some ⟨qb, 0, none⟩) a.path.length qc) a.path) := Lib.hid (own_keepA hv7 fun b hb => k8 b hb)
          have HM8 := Lib.hid (rpmay_any (some ⟨w6.heap.size, 0, none⟩) 1 [st] w8 (fun b => b < w8.heap.size) (fun _ => ⟨w6.heap.size, 0, rfl, by omega, fun i hi => by
            obtain rfl : i = 0 := by simpa using hi
            exact ⟨Go.Joins.cell_of_block n8 0, HSZ.out⟩⟩) (by simp))
          have HZ8 : Hid (w4.heap.size < w8.heap.size) := Lib.hid (by omega)
          have HH4 : Hid (w.heap.size + 1 < w4.heap.size) := Lib.hid hlt4
          have HSA : Hid (∀ s ∈ a.path, s.size ≤ 140737488351232) := Lib.hid fun s hs => by
            obtain ⟨i, hi, rfl⟩ := List.mem_iff_getElem.1 hs
            obtain ⟨_, _, _, _, hc⟩ := HP4.out hpos
            exact (hc i hi).2
          clear z1 zf hw7 hz7 hlt4 hz46 hqa7 hqb7 hb7 hv7 hw8 k8 n8 hz8 HX5 HX6 HV6 HQB6 HO5 HP5
          refine HM8.out.mono ?_
          rintro e wu ⟨rfl, rfl⟩
          clear HM8
          cases hms : mayP [st] with
          | false =>
            have HMR : Hid (mayP (a.path ++ []) = true) := Lib.hid (by rw [List.append_nil]; exact mayO_path HMA.out)
            have HOB8 : Hid (OpL w8 (fun b => b < w8.heap.size) (withP b (a.path ++ [])) #[(.int .i64 b.kind), (.slice (some ⟨qb, 0, none⟩) a.path.length qc), (.int .i64 b.val.kind), (.int .i64 b.val.num), (.string b.val.text), (.slice VB b.val.items.length vd), (.slice VB' b.val.names.length vd'), (.slice TB b.to.length td)]) := Lib.hid (op_with HOB.out HB8.out (by rw [List.append_nil]; exact own_string HV8.out HSA.out (by have := HL7.out; omega)))
            clear hms
            have y0 := HQA8.out.g0
            have y1 := HQA8.out.g1
            have y2 := HQA8.out.g2
            have y3 := HQA8.out.g3
            have y4 := HQA8.out.g4
            have y5 := HQA8.out.g5
            have y6 := HQA8.out.g6
            have y7 := HQA8.out.g7
            have yf := fun i => HQA8.out.free i
            have z0 := HQB8.out.g0
            have z1 := HQB8.out.g1
            have z2 := HQB8.out.g2
            have z3 := HQB8.out.g3
            have z4 := HQB8.out.g4
            have z5 := HQB8.out.g5
            have z6 := HQB8.out.g6
            have z7 := HQB8.out.g7
            have zf := fun i => HQB8.out.free i
            by_cases kb : b.kind = 6
            · have e2 : (b.kind == 6) = true := beq_iff_eq.2 kb
              have htb6 := mayP_posA (mayO_to HMB.out kb)
              have tb0 : (0 : Int) < (b.to.length : Int) := by omega
              obtain ⟨ub, uo, rfl, uS, uhc⟩ := HTB.out htb6
              have uc0 := (uhc 0 htb6).1
              rw [Nat.add_zero] at uc0
              obtain ⟨ux, uh⟩ : ∃ x, x = b.to[0]'(htb6) := ⟨_, rfl⟩
              rw [← uh] at uc0
              have UH : Hid (b.to.head? = some ux) := Lib.hid (by rw [uh, List.head?_eq_getElem?, List.getElem?_eq_getElem (htb6)])
              have UC : Hid (ub < w.heap.size ∧ w.cell? ⟨ub, uo, none⟩ = some (.string ux)) := Lib.hid ⟨uS, uc0⟩
              clear uhc uS uh uc0
              by_cases he : ux = idN
              · have d2 : (ux.toList == (⟨#[95, 105, 100]⟩ : ByteArray).toList) = true := by rw [he, str_beq]; exact decide_eq_true rfl
                have d3 : (ux.toList == [95, 105, 100]) = true := idL ▸ d2
                clear he
                have uce := (HB8.out.cell (p := ⟨ub, uo, none⟩) UC.out.1).trans UC.out.2
                go_wp2_with fail
                refine (lives7_any _).mono ?_
                rintro e v9 ⟨rfl, hb⟩
                have HF := Lib.hid (HB8.out.trans (hb.mono HB8.out.size))
                clear hb
                go_wp2_with fail
                go_ret
                exact ⟨rfl, HF.out⟩
              · have ud2 : (ux.toList == (⟨#[95, 105, 100]⟩ : ByteArray).toList) = false := by rw [str_beq]; exact decide_eq_false he
                have ud3 : (ux.toList == [95, 105, 100]) = false := idL ▸ ud2
                have UNE := Lib.hid he
                clear he
                clear kb htb6
                by_cases ka : a.kind = 6
                · have e1 : (a.kind == 6) = true := beq_iff_eq.2 ka
                  have hta6 := mayP_posA (mayO_to HMA.out ka)
                  have ta0 : (0 : Int) < (a.to.length : Int) := by omega
                  obtain ⟨vb, vo, rfl, vS, vhc⟩ := HTA.out hta6
                  have vc0 := (vhc 0 hta6).1
                  rw [Nat.add_zero] at vc0
                  obtain ⟨vx, vh⟩ : ∃ x, x = a.to[0]'(hta6) := ⟨_, rfl⟩
                  rw [← vh] at vc0
                  have VH : Hid (a.to.head? = some vx) := Lib.hid (by rw [vh, List.head?_eq_getElem?, List.getElem?_eq_getElem (hta6)])
                  have VC : Hid (vb < w.heap.size ∧ w.cell? ⟨vb, vo, none⟩ = some (.string vx)) := Lib.hid ⟨vS, vc0⟩
                  clear vhc vS vh vc0
                  by_cases he : vx = idN
                  · have d2 : (vx.toList == (⟨#[95, 105, 100]⟩ : ByteArray).toList) = true := by rw [he, str_beq]; exact decide_eq_true rfl
                    have d3 : (vx.toList == [95, 105, 100]) = true := idL ▸ d2
                    clear he
                    have uce := (HB8.out.cell (p := ⟨ub, uo, none⟩) UC.out.1).trans UC.out.2
                    have vce := (HB8.out.cell (p := ⟨vb, vo, none⟩) VC.out.1).trans VC.out.2
                    go_wp2_with fail
                    refine (lives7_any _).mono ?_
                    rintro e v9 ⟨rfl, hb⟩
                    have HF := Lib.hid (HB8.out.trans (hb.mono HB8.out.size))
                    clear hb
                    go_wp2_with fail
                    go_ret
                    exact ⟨rfl, HF.out⟩
                  · have vd2 : (vx.toList == (⟨#[95, 105, 100]⟩ : ByteArray).toList) = false := by rw [str_beq]; exact decide_eq_false he
                    have vd3 : (vx.toList == [95, 105, 100]) = false := idL ▸ vd2
                    have VNE := Lib.hid he
                    clear he
                    have HAC := Lib.hid (apart_conf HMA.out HMB.out HMR.out HPNE.out (fun _ => by rw [VH.out]; exact fun e => VNE.out (by injection e)) (fun _ => by rw [UH.out]; exact fun e => UNE.out (by injection e)))
                    clear ka hta6
                    have uce := (HB8.out.cell (p := ⟨ub, uo, none⟩) UC.out.1).trans UC.out.2
                    have vce := (HB8.out.cell (p := ⟨vb, vo, none⟩) VC.out.1).trans VC.out.2
                    go_wp2_with fail
                    have HOA8 := Lib.hid (op_later HOA.out HB8.out)
                    refine (lives7_any _).mono ?_
                    rintro e wl ⟨rfl, hb⟩
                    have HOBl := Lib.hid (op_later HOB8.out hb)
                    have HOAl := Lib.hid (op_later HOA8.out hb)
                    have HQAl := Lib.hid (box_of HQA8.out hb HQA8.out.lt)
                    have HQBl := Lib.hid (box_of HQB8.out hb HQB8.out.lt)
                    have HBl := Lib.hid (HB8.out.trans (hb.mono HB8.out.size))
                    clear hb
                    have y0 := HQAl.out.g0
                    have y1 := HQAl.out.g1
                    have y2 := HQAl.out.g2
                    have y3 := HQAl.out.g3
                    have y4 := HQAl.out.g4
                    have y5 := HQAl.out.g5
                    have y6 := HQAl.out.g6
                    have y7 := HQAl.out.g7
                    have yf := fun i => HQAl.out.free i
                    have z0 := HQBl.out.g0
                    have z1 := HQBl.out.g1
                    have z2 := HQBl.out.g2
                    have z3 := HQBl.out.g3
                    have z4 := HQBl.out.g4
                    have z5 := HQBl.out.g5
                    have z6 := HQBl.out.g6
                    have z7 := HQBl.out.g7
                    have zf := fun i => HQBl.out.free i
                    go_wp2_with fail
                    have HP1 := Lib.hid (pair_spec HOAl.out HOBl.out)
                    refine (spcheck_any _ _ _ _ (fun b hb => by simp; exact hb) HP1.out (pair_small (by decide) HDA.out HDB.out)).mono ?_
                    rintro e wm ⟨rfl, hb0⟩
                    have hb : Below wl.heap.size wl wm := grow_trans (below_box _) hb0
                    have HOBm := Lib.hid (op_later HOBl.out hb)
                    have HOAm := Lib.hid (op_later HOAl.out hb)
                    have HQAm := Lib.hid (box_of HQAl.out hb HQAl.out.lt)
                    have HQBm := Lib.hid (box_of HQBl.out hb HQBl.out.lt)
                    have HBm := Lib.hid (HBl.out.trans (hb.mono HBl.out.size))
                    clear hb hb0 HP1
                    rw [HAC.out.1]
                    clear y0 y1 y2 y3 y4 y5 y6 y7 z0 z1 z2 z3 z4 z5 z6 z7 yf zf
                    have y0 := HQAm.out.g0
                    have y1 := HQAm.out.g1
                    have y2 := HQAm.out.g2
                    have y3 := HQAm.out.g3
                    have y4 := HQAm.out.g4
                    have y5 := HQAm.out.g5
                    have y6 := HQAm.out.g6
                    have y7 := HQAm.out.g7
                    have yf := fun i => HQAm.out.free i
                    have z0 := HQBm.out.g0
                    have z1 := HQBm.out.g1
                    have z2 := HQBm.out.g2
                    have z3 := HQBm.out.g3
                    have z4 := HQBm.out.g4
                    have z5 := HQBm.out.g5
                    have z6 := HQBm.out.g6
                    have z7 := HQBm.out.g7
                    have zf := fun i => HQBm.out.free i
                    go_wp2_with fail
                    have HP2 := Lib.hid (pair_spec HOBm.out HOAm.out)
                    refine (spcheck_any _ _ _ _ (fun b hb => by simp; exact hb) HP2.out (pair_small (by decide) HDB.out HDA.out)).mono ?_
                    rintro e wn ⟨rfl, hb0⟩
                    have hb : Below wm.heap.size wm wn := grow_trans (below_box _) hb0
                    have HBn := Lib.hid (HBm.out.trans (hb.mono HBm.out.size))
                    clear hb hb0 HP2
                    rw [HAC.out.2]
                    go_wp2_with fail
                    go_ret
                    exact ⟨rfl, HBn.out⟩
                · have e1 : (a.kind == 6) = false := beq_eq_false_iff_ne.2 ka
                  have HKA := Lib.hid ka
                  have HAC := Lib.hid (apart_conf HMA.out HMB.out HMR.out HPNE.out (fun e => absurd e HKA.out) (fun _ => by rw [UH.out]; exact fun e => UNE.out (by injection e)))
                  clear ka
                  have uce := (HB8.out.cell (p := ⟨ub, uo, none⟩) UC.out.1).trans UC.out.2
                  go_wp2_with fail
                  have HOA8 := Lib.hid (op_later HOA.out HB8.out)
                  refine (lives7_any _).mono ?_
                  rintro e wl ⟨rfl, hb⟩
                  have HOBl := Lib.hid (op_later HOB8.out hb)
                  have HOAl := Lib.hid (op_later HOA8.out hb)
                  have HQAl := Lib.hid (box_of HQA8.out hb HQA8.out.lt)
                  have HQBl := Lib.hid (box_of HQB8.out hb HQB8.out.lt)
                  have HBl := Lib.hid (HB8.out.trans (hb.mono HB8.out.size))
                  clear hb
                  have y0 := HQAl.out.g0
                  have y1 := HQAl.out.g1
                  have y2 := HQAl.out.g2
                  have y3 := HQAl.out.g3
                  have y4 := HQAl.out.g4
                  have y5 := HQAl.out.g5
                  have y6 := HQAl.out.g6
                  have y7 := HQAl.out.g7
                  have yf := fun i => HQAl.out.free i
                  have z0 := HQBl.out.g0
                  have z1 := HQBl.out.g1
                  have z2 := HQBl.out.g2
                  have z3 := HQBl.out.g3
                  have z4 := HQBl.out.g4
                  have z5 := HQBl.out.g5
                  have z6 := HQBl.out.g6
                  have z7 := HQBl.out.g7
                  have zf := fun i => HQBl.out.free i
                  go_wp2_with fail
                  have HP1 := Lib.hid (pair_spec HOAl.out HOBl.out)
                  refine (spcheck_any _ _ _ _ (fun b hb => by simp; exact hb) HP1.out (pair_small (by decide) HDA.out HDB.out)).mono ?_
                  rintro e wm ⟨rfl, hb0⟩
                  have hb : Below wl.heap.size wl wm := grow_trans (below_box _) hb0
                  have HOBm := Lib.hid (op_later HOBl.out hb)
                  have HOAm := Lib.hid (op_later HOAl.out hb)
                  have HQAm := Lib.hid (box_of HQAl.out hb HQAl.out.lt)
                  have HQBm := Lib.hid (box_of HQBl.out hb HQBl.out.lt)
                  have HBm := Lib.hid (HBl.out.trans (hb.mono HBl.out.size))
                  clear hb hb0 HP1
                  rw [HAC.out.1]
                  clear y0 y1 y2 y3 y4 y5 y6 y7 z0 z1 z2 z3 z4 z5 z6 z7 yf zf
                  have y0 := HQAm.out.g0
                  have y1 := HQAm.out.g1
                  have y2 := HQAm.out.g2
                  have y3 := HQAm.out.g3
                  have y4 := HQAm.out.g4
                  have y5 := HQAm.out.g5
                  have y6 := HQAm.out.g6
                  have y7 := HQAm.out.g7
                  have yf := fun i => HQAm.out.free i
                  have z0 := HQBm.out.g0
                  have z1 := HQBm.out.g1
                  have z2 := HQBm.out.g2
                  have z3 := HQBm.out.g3
                  have z4 := HQBm.out.g4
                  have z5 := HQBm.out.g5
                  have z6 := HQBm.out.g6
                  have z7 := HQBm.out.g7
                  have zf := fun i => HQBm.out.free i
                  go_wp2_with fail
                  have HP2 := Lib.hid (pair_spec HOBm.out HOAm.out)
                  refine (spcheck_any _ _ _ _ (fun b hb => by simp; exact hb) HP2.out (pair_small (by decide) HDB.out HDA.out)).mono ?_
                  rintro e wn ⟨rfl, hb0⟩
                  have hb : Below wm.heap.size wm wn := grow_trans (below_box _) hb0
                  have HBn := Lib.hid (HBm.out.trans (hb.mono HBm.out.size))
                  clear hb hb0 HP2
                  rw [HAC.out.2]
                  go_wp2_with fail
                  go_ret
                  exact ⟨rfl, HBn.out⟩
            · have e2 : (b.kind == 6) = false := beq_eq_false_iff_ne.2 kb
              have HKB := Lib.hid kb
              clear kb
              by_cases ka : a.kind = 6
              · have e1 : (a.kind == 6) = true := beq_iff_eq.2 ka
                have hta6 := mayP_posA (mayO_to HMA.out ka)
                have ta0 : (0 : Int) < (a.to.length : Int) := by omega
                obtain ⟨vb, vo, rfl, vS, vhc⟩ := HTA.out hta6
                have vc0 := (vhc 0 hta6).1
                rw [Nat.add_zero] at vc0
                obtain ⟨vx, vh⟩ : ∃ x, x = a.to[0]'(hta6) := ⟨_, rfl⟩
                rw [← vh] at vc0
                have VH : Hid (a.to.head? = some vx) := Lib.hid (by rw [vh, List.head?_eq_getElem?, List.getElem?_eq_getElem (hta6)])
                have VC : Hid (vb < w.heap.size ∧ w.cell? ⟨vb, vo, none⟩ = some (.string vx)) := Lib.hid ⟨vS, vc0⟩
                clear vhc vS vh vc0
                by_cases he : vx = idN
                · have d2 : (vx.toList == (⟨#[95, 105, 100]⟩ : ByteArray).toList) = true := by rw [he, str_beq]; exact decide_eq_true rfl
                  have d3 : (vx.toList == [95, 105, 100]) = true := idL ▸ d2
                  clear he
                  have vce := (HB8.out.cell (p := ⟨vb, vo, none⟩) VC.out.1).trans VC.out.2
                  go_wp2_with fail
                  refine (lives7_any _).mono ?_
                  rintro e v9 ⟨rfl, hb⟩
                  have HF := Lib.hid (HB8.out.trans (hb.mono HB8.out.size))
                  clear hb
                  go_wp2_with fail
                  go_ret
                  exact ⟨rfl, HF.out⟩
                · have vd2 : (vx.toList == (⟨#[95, 105, 100]⟩ : ByteArray).toList) = false := by rw [str_beq]; exact decide_eq_false he
                  have vd3 : (vx.toList == [95, 105, 100]) = false := idL ▸ vd2
                  have VNE := Lib.hid he
                  clear he
                  have HAC := Lib.hid (apart_conf HMA.out HMB.out HMR.out HPNE.out (fun _ => by rw [VH.out]; exact fun e => VNE.out (by injection e)) (fun e => absurd e HKB.out))
                  clear ka hta6
                  have vce := (HB8.out.cell (p := ⟨vb, vo, none⟩) VC.out.1).trans VC.out.2
                  go_wp2_with fail
                  have HOA8 := Lib.hid (op_later HOA.out HB8.out)
                  refine (lives7_any _).mono ?_
                  rintro e wl ⟨rfl, hb⟩
                  have HOBl := Lib.hid (op_later HOB8.out hb)
                  have HOAl := Lib.hid (op_later HOA8.out hb)
                  have HQAl := Lib.hid (box_of HQA8.out hb HQA8.out.lt)
                  have HQBl := Lib.hid (box_of HQB8.out hb HQB8.out.lt)
                  have HBl := Lib.hid (HB8.out.trans (hb.mono HB8.out.size))
                  clear hb
                  have y0 := HQAl.out.g0
                  have y1 := HQAl.out.g1
                  have y2 := HQAl.out.g2
                  have y3 := HQAl.out.g3
                  have y4 := HQAl.out.g4
                  have y5 := HQAl.out.g5
                  have y6 := HQAl.out.g6
                  have y7 := HQAl.out.g7
                  have yf := fun i => HQAl.out.free i
                  have z0 := HQBl.out.g0
                  have z1 := HQBl.out.g1
                  have z2 := HQBl.out.g2
                  have z3 := HQBl.out.g3
                  have z4 := HQBl.out.g4
                  have z5 := HQBl.out.g5
                  have z6 := HQBl.out.g6
                  have z7 := HQBl.out.g7
                  have zf := fun i => HQBl.out.free i
                  go_wp2_with fail
                  have HP1 := Lib.hid (pair_spec HOAl.out HOBl.out)
                  refine (spcheck_any _ _ _ _ (fun b hb => by simp; exact hb) HP1.out (pair_small (by decide) HDA.out HDB.out)).mono ?_
                  rintro e wm ⟨rfl, hb0⟩
                  have hb : Below wl.heap.size wl wm := grow_trans (below_box _) hb0
                  have HOBm := Lib.hid (op_later HOBl.out hb)
                  have HOAm := Lib.hid (op_later HOAl.out hb)
                  have HQAm := Lib.hid (box_of HQAl.out hb HQAl.out.lt)
                  have HQBm := Lib.hid (box_of HQBl.out hb HQBl.out.lt)
                  have HBm := Lib.hid (HBl.out.trans (hb.mono HBl.out.size))
                  clear hb hb0 HP1
                  rw [HAC.out.1]
                  clear y0 y1 y2 y3 y4 y5 y6 y7 z0 z1 z2 z3 z4 z5 z6 z7 yf zf
                  have y0 := HQAm.out.g0
                  have y1 := HQAm.out.g1
                  have y2 := HQAm.out.g2
                  have y3 := HQAm.out.g3
                  have y4 := HQAm.out.g4
                  have y5 := HQAm.out.g5
                  have y6 := HQAm.out.g6
                  have y7 := HQAm.out.g7
                  have yf := fun i => HQAm.out.free i
                  have z0 := HQBm.out.g0
                  have z1 := HQBm.out.g1
                  have z2 := HQBm.out.g2
                  have z3 := HQBm.out.g3
                  have z4 := HQBm.out.g4
                  have z5 := HQBm.out.g5
                  have z6 := HQBm.out.g6
                  have z7 := HQBm.out.g7
                  have zf := fun i => HQBm.out.free i
                  go_wp2_with fail
                  have HP2 := Lib.hid (pair_spec HOBm.out HOAm.out)
                  refine (spcheck_any _ _ _ _ (fun b hb => by simp; exact hb) HP2.out (pair_small (by decide) HDB.out HDA.out)).mono ?_
                  rintro e wn ⟨rfl, hb0⟩
                  have hb : Below wm.heap.size wm wn := grow_trans (below_box _) hb0
                  have HBn := Lib.hid (HBm.out.trans (hb.mono HBm.out.size))
                  clear hb hb0 HP2
                  rw [HAC.out.2]
                  go_wp2_with fail
                  go_ret
                  exact ⟨rfl, HBn.out⟩
              · have e1 : (a.kind == 6) = false := beq_eq_false_iff_ne.2 ka
                have HKA := Lib.hid ka
                have HAC := Lib.hid (apart_conf HMA.out HMB.out HMR.out HPNE.out (fun e => absurd e HKA.out) (fun e => absurd e HKB.out))
                clear ka
                go_wp2_with fail
                have HOA8 := Lib.hid (op_later HOA.out HB8.out)
                refine (lives7_any _).mono ?_
                rintro e wl ⟨rfl, hb⟩
                have HOBl := Lib.hid (op_later HOB8.out hb)
                have HOAl := Lib.hid (op_later HOA8.out hb)
                have HQAl := Lib.hid (box_of HQA8.out hb HQA8.out.lt)
                have HQBl := Lib.hid (box_of HQB8.out hb HQB8.out.lt)
                have HBl := Lib.hid (HB8.out.trans (hb.mono HB8.out.size))
                clear hb
                have y0 := HQAl.out.g0
                have y1 := HQAl.out.g1
                have y2 := HQAl.out.g2
                have y3 := HQAl.out.g3
                have y4 := HQAl.out.g4
                have y5 := HQAl.out.g5
                have y6 := HQAl.out.g6
                have y7 := HQAl.out.g7
                have yf := fun i => HQAl.out.free i
                have z0 := HQBl.out.g0
                have z1 := HQBl.out.g1
                have z2 := HQBl.out.g2
                have z3 := HQBl.out.g3
                have z4 := HQBl.out.g4
                have z5 := HQBl.out.g5
                have z6 := HQBl.out.g6
                have z7 := HQBl.out.g7
                have zf := fun i => HQBl.out.free i
                go_wp2_with fail
                have HP1 := Lib.hid (pair_spec HOAl.out HOBl.out)
                refine (spcheck_any _ _ _ _ (fun b hb => by simp; exact hb) HP1.out (pair_small (by decide) HDA.out HDB.out)).mono ?_
                rintro e wm ⟨rfl, hb0⟩
                have hb : Below wl.heap.size wl wm := grow_trans (below_box _) hb0
                have HOBm := Lib.hid (op_later HOBl.out hb)
                have HOAm := Lib.hid (op_later HOAl.out hb)
                have HQAm := Lib.hid (box_of HQAl.out hb HQAl.out.lt)
                have HQBm := Lib.hid (box_of HQBl.out hb HQBl.out.lt)
                have HBm := Lib.hid (HBl.out.trans (hb.mono HBl.out.size))
                clear hb hb0 HP1
                rw [HAC.out.1]
                clear y0 y1 y2 y3 y4 y5 y6 y7 z0 z1 z2 z3 z4 z5 z6 z7 yf zf
                have y0 := HQAm.out.g0
                have y1 := HQAm.out.g1
                have y2 := HQAm.out.g2
                have y3 := HQAm.out.g3
                have y4 := HQAm.out.g4
                have y5 := HQAm.out.g5
                have y6 := HQAm.out.g6
                have y7 := HQAm.out.g7
                have yf := fun i => HQAm.out.free i
                have z0 := HQBm.out.g0
                have z1 := HQBm.out.g1
                have z2 := HQBm.out.g2
                have z3 := HQBm.out.g3
                have z4 := HQBm.out.g4
                have z5 := HQBm.out.g5
                have z6 := HQBm.out.g6
                have z7 := HQBm.out.g7
                have zf := fun i => HQBm.out.free i
                go_wp2_with fail
                have HP2 := Lib.hid (pair_spec HOBm.out HOAm.out)
                refine (spcheck_any _ _ _ _ (fun b hb => by simp; exact hb) HP2.out (pair_small (by decide) HDB.out HDA.out)).mono ?_
                rintro e wn ⟨rfl, hb0⟩
                have hb : Below wm.heap.size wm wn := grow_trans (below_box _) hb0
                have HBn := Lib.hid (HBm.out.trans (hb.mono HBm.out.size))
                clear hb hb0 HP2
                rw [HAC.out.2]
                go_wp2_with fail
                go_ret
                exact ⟨rfl, HBn.out⟩
          | true =>
            have HMR : Hid (mayP (a.path ++ [st]) = true) := Lib.hid (mayP_snoc (mayO_path HMA.out) HL7.out hms)
            clear hms
            have HP9 : Hid (StrsAt (w8.alloc (.cells #[.string st] 9)) (fun b => b < w8.heap.size + 1) (some ⟨w8.heap.size, 0, none⟩) [st]) := Lib.hid (fun _ => ⟨w8.heap.size, 0, rfl, by omega, fun i hi => by
              obtain rfl : i = 0 := by simpa using hi
              exact ⟨Go.Joins.cell_of_block (heap_alloc_new w8 _) 0, HSZ.out⟩⟩)
            have HV9 : Hid (OwnS (w8.alloc (.cells #[.string st] 9)) w4.heap.size (.slice (some ⟨qb, 0, none⟩) a.path.length qc) a.path) := Lib.hid (own_keepA HV8.out fun b hb => Below.heap_alloc w8 _ b hb)
            have HX9 := Lib.hid (fun (w10 : World) (v10 : Value) (hv : OwnS w10 w4.heap.size v10 (a.path ++ [st])) (hg : (w8.alloc (.cells #[.string st] 9)).grownBy w10 (Value.slice (some ⟨qb, 0, none⟩) a.path.length qc).ownBlock) => And.intro (box_grown (g := w.heap.size) (k := 0) (HQA8.out.alloc (.cells #[.string st] 9)) hg (fun k hk e => by have := own_block HV9.out k hk; have := HH4.out; omega)) (And.intro (box_grown (g := w.heap.size + 1) (k := 0) (HQB8.out.alloc (.cells #[.string st] 9)) hg (fun k hk e => by have := own_block HV9.out k hk; have := HH4.out; omega)) (below_grownA (HB8.out.alloc HB8.out.size (.cells #[.string st] 9)) (by have := HB8.out.size; simp; omega) hg (fun k hk => by have := own_block HV9.out k hk; have := HH4.out; omega))))
            have z1 := HQB8.out.g1
            have z1e := (HQB8.out.alloc (.cells #[.string st] 9)).g1
            by_cases kb : b.kind = 6
            · have e2 : (b.kind == 6) = true := beq_iff_eq.2 kb
              have htb6 := mayP_posA (mayO_to HMB.out kb)
              have tb0 : (0 : Int) < (b.to.length : Int) := by omega
              obtain ⟨ub, uo, rfl, uS, uhc⟩ := HTB.out htb6
              have uc0 := (uhc 0 htb6).1
              rw [Nat.add_zero] at uc0
              obtain ⟨ux, uh⟩ : ∃ x, x = b.to[0]'(htb6) := ⟨_, rfl⟩
              rw [← uh] at uc0
              have UH : Hid (b.to.head? = some ux) := Lib.hid (by rw [uh, List.head?_eq_getElem?, List.getElem?_eq_getElem (htb6)])
              have UC : Hid (ub < w.heap.size ∧ w.cell? ⟨ub, uo, none⟩ = some (.string ux)) := Lib.hid ⟨uS, uc0⟩
              clear uhc uS uh uc0
              by_cases he : ux = idN
              · have d2 : (ux.toList == (⟨#[95, 105, 100]⟩ : ByteArray).toList) = true := by rw [he, str_beq]; exact decide_eq_true rfl
                have d3 : (ux.toList == [95, 105, 100]) = true := idL ▸ d2
                clear he
                go_wp2_with (at_builtin; go_must (refine wpList_append_strs rfl _ _ rfl w4.heap.size (.slice (some ⟨qb, 0, none⟩) a.path.length qc) a.path rfl HV9.out (some ⟨w8.heap.size, 0, none⟩) 1 [st] (fun b => b < w8.heap.size + 1) rfl (fun h => by cases h) HP9.out (by have := HZ8.out; simp; omega) (by have := HL7.out; simp; omega) ?_); intro v10 w10 hv10 hg10; have HX10 := Lib.hid (HX9.out w10 v10 hv10 hg10); obtain ⟨qe, qd, e10, hqe⟩ := hv10.row (by simp); rw [show (a.path ++ [st]).length = a.path.length + 1 by simp] at e10; subst e10; have HV10 := Lib.hid hv10; have HQE := Lib.hid hqe; clear hqe hv10 hg10 z1 z1e; have HQA11 := Lib.hid (HX10.out.1.other (w.heap.size + 1) 1 (.slice (some ⟨qe, 0, none⟩) (a.path.length + 1) qd) (by omega)); have HQB11 := Lib.hid (HX10.out.2.1.set1 (.slice (some ⟨qe, 0, none⟩) (a.path.length + 1) qd)); have HB11 := Lib.hid (below_setA (i := 1) (p := w.heap.size + 1) (u := .slice (some ⟨qe, 0, none⟩) (a.path.length + 1) qd) HX10.out.2.2 (by omega)); have z1 := HX10.out.2.1.g1; have zf := fun i => HX10.out.2.1.free i; have y0 := HQA11.out.g0; have y1 := HQA11.out.g1; have y2 := HQA11.out.g2; have y3 := HQA11.out.g3; have y4 := HQA11.out.g4; have y5 := HQA11.out.g5; have y6 := HQA11.out.g6; have y7 := HQA11.out.g7; have yf := fun i => HQA11.out.free i; have x0 := HQB11.out.g0; have x1 := HQB11.out.g1; have x2 := HQB11.out.g2; have x3 := HQB11.out.g3; have x4 := HQB11.out.g4; have x5 := HQB11.out.g5; have x6 := HQB11.out.g6; have x7 := HQB11.out.g7; have xf := fun i => HQB11.out.free i; have uce := (HB11.out.cell (p := ⟨ub, uo, none⟩) UC.out.1).trans UC.out.2)
                refine (lives7_any _).mono ?_
                rintro e v9 ⟨rfl, hb⟩
                have HF := Lib.hid (HB11.out.trans (hb.mono HB11.out.size))
                clear hb
                go_wp2_with fail
                go_ret
                exact ⟨rfl, HF.out⟩
              · have ud2 : (ux.toList == (⟨#[95, 105, 100]⟩ : ByteArray).toList) = false := by rw [str_beq]; exact decide_eq_false he
                have ud3 : (ux.toList == [95, 105, 100]) = false := idL ▸ ud2
                have UNE := Lib.hid he
                clear he
                clear kb htb6
                by_cases ka : a.kind = 6
                · have e1 : (a.kind == 6) = true := beq_iff_eq.2 ka
                  have hta6 := mayP_posA (mayO_to HMA.out ka)
                  have ta0 : (0 : Int) < (a.to.length : Int) := by omega
                  obtain ⟨vb, vo, rfl, vS, vhc⟩ := HTA.out hta6
                  have vc0 := (vhc 0 hta6).1
                  rw [Nat.add_zero] at vc0
                  obtain ⟨vx, vh⟩ : ∃ x, x = a.to[0]'(hta6) := ⟨_, rfl⟩
                  rw [← vh] at vc0
                  have VH : Hid (a.to.head? = some vx) := Lib.hid (by rw [vh, List.head?_eq_getElem?, List.getElem?_eq_getElem (hta6)])
                  have VC : Hid (vb < w.heap.size ∧ w.cell? ⟨vb, vo, none⟩ = some (.string vx)) := Lib.hid ⟨vS, vc0⟩
                  clear vhc vS vh vc0
                  by_cases he : vx = idN
                  · have d2 : (vx.toList == (⟨#[95, 105, 100]⟩ : ByteArray).toList) = true := by rw [he, str_beq]; exact decide_eq_true rfl
                    have d3 : (vx.toList == [95, 105, 100]) = true := idL ▸ d2
                    clear he
                    go_wp2_with (at_builtin; go_must (refine wpList_append_strs rfl _ _ rfl w4.heap.size (.slice (some ⟨qb, 0, none⟩) a.path.length qc) a.path rfl HV9.out (some ⟨w8.heap.size, 0, none⟩) 1 [st] (fun b => b < w8.heap.size + 1) rfl (fun h => by cases h) HP9.out (by have := HZ8.out; simp; omega) (by have := HL7.out; simp; omega) ?_); intro v10 w10 hv10 hg10; have HX10 := Lib.hid (HX9.out w10 v10 hv10 hg10); obtain ⟨qe, qd, e10, hqe⟩ := hv10.row (by simp); rw [show (a.path ++ [st]).length = a.path.length + 1 by simp] at e10; subst e10; have HV10 := Lib.hid hv10; have HQE := Lib.hid hqe; clear hqe hv10 hg10 z1 z1e; have HQA11 := Lib.hid (HX10.out.1.other (w.heap.size + 1) 1 (.slice (some ⟨qe, 0, none⟩) (a.path.length + 1) qd) (by omega)); have HQB11 := Lib.hid (HX10.out.2.1.set1 (.slice (some ⟨qe, 0, none⟩) (a.path.length + 1) qd)); have HB11 := Lib.hid (below_setA (i := 1) (p := w.heap.size + 1) (u := .slice (some ⟨qe, 0, none⟩) (a.path.length + 1) qd) HX10.out.2.2 (by omega)); have z1 := HX10.out.2.1.g1; have zf := fun i => HX10.out.2.1.free i; have y0 := HQA11.out.g0; have y1 := HQA11.out.g1; have y2 := HQA11.out.g2; have y3 := HQA11.out.g3; have y4 := HQA11.out.g4; have y5 := HQA11.out.g5; have y6 := HQA11.out.g6; have y7 := HQA11.out.g7; have yf := fun i => HQA11.out.free i; have x0 := HQB11.out.g0; have x1 := HQB11.out.g1; have x2 := HQB11.out.g2; have x3 := HQB11.out.g3; have x4 := HQB11.out.g4; have x5 := HQB11.out.g5; have x6 := HQB11.out.g6; have x7 := HQB11.out.g7; have xf := fun i => HQB11.out.free i; have uce := (HB11.out.cell (p := ⟨ub, uo, none⟩) UC.out.1).trans UC.out.2; have vce := (HB11.out.cell (p := ⟨vb, vo, none⟩) VC.out.1).trans VC.out.2)
                    refine (lives7_any _).mono ?_
                    rintro e v9 ⟨rfl, hb⟩
                    have HF := Lib.hid (HB11.out.trans (hb.mono HB11.out.size))
                    clear hb
                    go_wp2_with fail
                    go_ret
                    exact ⟨rfl, HF.out⟩
                  · have vd2 : (vx.toList == (⟨#[95, 105, 100]⟩ : ByteArray).toList) = false := by rw [str_beq]; exact decide_eq_false he
                    have vd3 : (vx.toList == [95, 105, 100]) = false := idL ▸ vd2
                    have VNE := Lib.hid he
                    clear he
                    have HAC := Lib.hid (apart_conf HMA.out HMB.out HMR.out HPNE.out (fun _ => by rw [VH.out]; exact fun e => VNE.out (by injection e)) (fun _ => by rw [UH.out]; exact fun e => UNE.out (by injection e)))
                    clear ka hta6
                    go_wp2_with (at_builtin; go_must (refine wpList_append_strs rfl _ _ rfl w4.heap.size (.slice (some ⟨qb, 0, none⟩) a.path.length qc) a.path rfl HV9.out (some ⟨w8.heap.size, 0, none⟩) 1 [st] (fun b => b < w8.heap.size + 1) rfl (fun h => by cases h) HP9.out (by have := HZ8.out; simp; omega) (by have := HL7.out; simp; omega) ?_); intro v10 w10 hv10 hg10; have HX10 := Lib.hid (HX9.out w10 v10 hv10 hg10); obtain ⟨qe, qd, e10, hqe⟩ := hv10.row (by simp); rw [show (a.path ++ [st]).length = a.path.length + 1 by simp] at e10; subst e10; have HV10 := Lib.hid hv10; have HQE := Lib.hid hqe; clear hqe hv10 hg10 z1 z1e; have HQA11 := Lib.hid (HX10.out.1.other (w.heap.size + 1) 1 (.slice (some ⟨qe, 0, none⟩) (a.path.length + 1) qd) (by omega)); have HQB11 := Lib.hid (HX10.out.2.1.set1 (.slice (some ⟨qe, 0, none⟩) (a.path.length + 1) qd)); have HB11 := Lib.hid (below_setA (i := 1) (p := w.heap.size + 1) (u := .slice (some ⟨qe, 0, none⟩) (a.path.length + 1) qd) HX10.out.2.2 (by omega)); have z1 := HX10.out.2.1.g1; have zf := fun i => HX10.out.2.1.free i; have y0 := HQA11.out.g0; have y1 := HQA11.out.g1; have y2 := HQA11.out.g2; have y3 := HQA11.out.g3; have y4 := HQA11.out.g4; have y5 := HQA11.out.g5; have y6 := HQA11.out.g6; have y7 := HQA11.out.g7; have yf := fun i => HQA11.out.free i; have x0 := HQB11.out.g0; have x1 := HQB11.out.g1; have x2 := HQB11.out.g2; have x3 := HQB11.out.g3; have x4 := HQB11.out.g4; have x5 := HQB11.out.g5; have x6 := HQB11.out.g6; have x7 := HQB11.out.g7; have xf := fun i => HQB11.out.free i; have uce := (HB11.out.cell (p := ⟨ub, uo, none⟩) UC.out.1).trans UC.out.2; have vce := (HB11.out.cell (p := ⟨vb, vo, none⟩) VC.out.1).trans VC.out.2)
                    have HOB11 := Lib.hid (op_with HOB.out HB11.out (own_string (p := a.path ++ [st]) (HV10.out.keep (w' := w10.setCell ⟨w.heap.size + 1, 1, none⟩ (.slice (some ⟨qe, 0, none⟩) (a.path.length + 1) qd)) fun b hb => heap_setCell_other _ ⟨w.heap.size + 1, 1, none⟩ b _ (by have := HH4.out; show b ≠ w.heap.size + 1; omega)) (fun s hs => by rcases List.mem_append.1 hs with h | h; exact HSA.out s h; obtain rfl := List.mem_singleton.1 h; exact HSZ.out) (by have := HL7.out; simp; omega)))
                    have HOA11 := Lib.hid (op_later HOA.out HB11.out)
                    refine (lives7_any _).mono ?_
                    rintro e wl ⟨rfl, hb⟩
                    have HOBl := Lib.hid (op_later HOB11.out hb)
                    have HOAl := Lib.hid (op_later HOA11.out hb)
                    have HQAl := Lib.hid (box_of HQA11.out hb HQA11.out.lt)
                    have HQBl := Lib.hid (box_of HQB11.out hb HQB11.out.lt)
                    have HBl := Lib.hid (HB11.out.trans (hb.mono HB11.out.size))
                    clear hb
                    have y0 := HQAl.out.g0
                    have y1 := HQAl.out.g1
                    have y2 := HQAl.out.g2
                    have y3 := HQAl.out.g3
                    have y4 := HQAl.out.g4
                    have y5 := HQAl.out.g5
                    have y6 := HQAl.out.g6
                    have y7 := HQAl.out.g7
                    have yf := fun i => HQAl.out.free i
                    have z0 := HQBl.out.g0
                    have z1 := HQBl.out.g1
                    have z2 := HQBl.out.g2
                    have z3 := HQBl.out.g3
                    have z4 := HQBl.out.g4
                    have z5 := HQBl.out.g5
                    have z6 := HQBl.out.g6
                    have z7 := HQBl.out.g7
                    have zf := fun i => HQBl.out.free i
                    go_wp2_with fail
                    have HP1 := Lib.hid (pair_spec HOAl.out HOBl.out)
                    refine (spcheck_any _ _ _ _ (fun b hb => by simp; exact hb) HP1.out (pair_small (by decide) HDA.out HDB.out)).mono ?_
                    rintro e wm ⟨rfl, hb0⟩
                    have hb : Below wl.heap.size wl wm := grow_trans (below_box _) hb0
                    have HOBm := Lib.hid (op_later HOBl.out hb)
                    have HOAm := Lib.hid (op_later HOAl.out hb)
                    have HQAm := Lib.hid (box_of HQAl.out hb HQAl.out.lt)
                    have HQBm := Lib.hid (box_of HQBl.out hb HQBl.out.lt)
                    have HBm := Lib.hid (HBl.out.trans (hb.mono HBl.out.size))
                    clear hb hb0 HP1
                    rw [HAC.out.1]
                    clear y0 y1 y2 y3 y4 y5 y6 y7 z0 z1 z2 z3 z4 z5 z6 z7 yf zf
                    have y0 := HQAm.out.g0
                    have y1 := HQAm.out.g1
                    have y2 := HQAm.out.g2
                    have y3 := HQAm.out.g3
                    have y4 := HQAm.out.g4
                    have y5 := HQAm.out.g5
                    have y6 := HQAm.out.g6
                    have y7 := HQAm.out.g7
                    have yf := fun i => HQAm.out.free i
                    have z0 := HQBm.out.g0
                    have z1 := HQBm.out.g1
                    have z2 := HQBm.out.g2
                    have z3 := HQBm.out.g3
                    have z4 := HQBm.out.g4
                    have z5 := HQBm.out.g5
                    have z6 := HQBm.out.g6
                    have z7 := HQBm.out.g7
                    have zf := fun i => HQBm.out.free i
                    go_wp2_with fail
                    have HP2 := Lib.hid (pair_spec HOBm.out HOAm.out)
                    refine (spcheck_any _ _ _ _ (fun b hb => by simp; exact hb) HP2.out (pair_small (by decide) HDB.out HDA.out)).mono ?_
                    rintro e wn ⟨rfl, hb0⟩
                    have hb : Below wm.heap.size wm wn := grow_trans (below_box _) hb0
                    have HBn := Lib.hid (HBm.out.trans (hb.mono HBm.out.size))
                    clear hb hb0 HP2
                    rw [HAC.out.2]
                    go_wp2_with fail
                    go_ret
                    exact ⟨rfl, HBn.out⟩
                · have e1 : (a.kind == 6) = false := beq_eq_false_iff_ne.2 ka
                  have HKA := Lib.hid ka
                  have HAC := Lib.hid (apart_conf HMA.out HMB.out HMR.out HPNE.out (fun e => absurd e HKA.out) (fun _ => by rw [UH.out]; exact fun e => UNE.out (by injection e)))
                  clear ka
                  go_wp2_with (at_builtin; go_must (refine wpList_append_strs rfl _ _ rfl w4.heap.size (.slice (some ⟨qb, 0, none⟩) a.path.length qc) a.path rfl HV9.out (some ⟨w8.heap.size, 0, none⟩) 1 [st] (fun b => b < w8.heap.size + 1) rfl (fun h => by cases h) HP9.out (by have := HZ8.out; simp; omega) (by have := HL7.out; simp; omega) ?_); intro v10 w10 hv10 hg10; have HX10 := Lib.hid (HX9.out w10 v10 hv10 hg10); obtain ⟨qe, qd, e10, hqe⟩ := hv10.row (by simp); rw [show (a.path ++ [st]).length = a.path.length + 1 by simp] at e10; subst e10; have HV10 := Lib.hid hv10; have HQE := Lib.hid hqe; clear hqe hv10 hg10 z1 z1e; have HQA11 := Lib.hid (HX10.out.1.other (w.heap.size + 1) 1 (.slice (some ⟨qe, 0, none⟩) (a.path.length + 1) qd) (by omega)); have HQB11 := Lib.hid (HX10.out.2.1.set1 (.slice (some ⟨qe, 0, none⟩) (a.path.length + 1) qd)); have HB11 := Lib.hid (below_setA (i := 1) (p := w.heap.size + 1) (u := .slice (some ⟨qe, 0, none⟩) (a.path.length + 1) qd) HX10.out.2.2 (by omega)); have z1 := HX10.out.2.1.g1; have zf := fun i => HX10.out.2.1.free i; have y0 := HQA11.out.g0; have y1 := HQA11.out.g1; have y2 := HQA11.out.g2; have y3 := HQA11.out.g3; have y4 := HQA11.out.g4; have y5 := HQA11.out.g5; have y6 := HQA11.out.g6; have y7 := HQA11.out.g7; have yf := fun i => HQA11.out.free i; have x0 := HQB11.out.g0; have x1 := HQB11.out.g1; have x2 := HQB11.out.g2; have x3 := HQB11.out.g3; have x4 := HQB11.out.g4; have x5 := HQB11.out.g5; have x6 := HQB11.out.g6; have x7 := HQB11.out.g7; have xf := fun i => HQB11.out.free i; have uce := (HB11.out.cell (p := ⟨ub, uo, none⟩) UC.out.1).trans UC.out.2)
                  have HOB11 := Lib.hid (op_with HOB.out HB11.out (own_string (p := a.path ++ [st]) (HV10.out.keep (w' := w10.setCell ⟨w.heap.size + 1, 1, none⟩ (.slice (some ⟨qe, 0, none⟩) (a.path.length + 1) qd)) fun b hb => heap_setCell_other _ ⟨w.heap.size + 1, 1, none⟩ b _ (by have := HH4.out; show b ≠ w.heap.size + 1; omega)) (fun s hs => by rcases List.mem_append.1 hs with h | h; exact HSA.out s h; obtain rfl := List.mem_singleton.1 h; exact HSZ.out) (by have := HL7.out; simp; omega)))
                  have HOA11 := Lib.hid (op_later HOA.out HB11.out)
                  refine (lives7_any _).mono ?_
                  rintro e wl ⟨rfl, hb⟩
                  have HOBl := Lib.hid (op_later HOB11.out hb)
                  have HOAl := Lib.hid (op_later HOA11.out hb)
                  have HQAl := Lib.hid (box_of HQA11.out hb HQA11.out.lt)
                  have HQBl := Lib.hid (box_of HQB11.out hb HQB11.out.lt)
                  have HBl := Lib.hid (HB11.out.trans (hb.mono HB11.out.size))
                  clear hb
                  have y0 := HQAl.out.g0
                  have y1 := HQAl.out.g1
                  have y2 := HQAl.out.g2
                  have y3 := HQAl.out.g3
                  have y4 := HQAl.out.g4
                  have y5 := HQAl.out.g5
                  have y6 := HQAl.out.g6
                  have y7 := HQAl.out.g7
                  have yf := fun i => HQAl.out.free i
                  have z0 := HQBl.out.g0
                  have z1 := HQBl.out.g1
                  have z2 := HQBl.out.g2
                  have z3 := HQBl.out.g3
                  have z4 := HQBl.out.g4
                  have z5 := HQBl.out.g5
                  have z6 := HQBl.out.g6
                  have z7 := HQBl.out.g7
                  have zf := fun i => HQBl.out.free i
                  go_wp2_with fail
                  have HP1 := Lib.hid (pair_spec HOAl.out HOBl.out)
                  refine (spcheck_any _ _ _ _ (fun b hb => by simp; exact hb) HP1.out (pair_small (by decide) HDA.out HDB.out)).mono ?_
                  rintro e wm ⟨rfl, hb0⟩
                  have hb : Below wl.heap.size wl wm := grow_trans (below_box _) hb0
                  have HOBm := Lib.hid (op_later HOBl.out hb)
                  have HOAm := Lib.hid (op_later HOAl.out hb)
                  have HQAm := Lib.hid (box_of HQAl.out hb HQAl.out.lt)
                  have HQBm := Lib.hid (box_of HQBl.out hb HQBl.out.lt)
                  have HBm := Lib.hid (HBl.out.trans (hb.mono HBl.out.size))
                  clear hb hb0 HP1
                  rw [HAC.out.1]
                  clear y0 y1 y2 y3 y4 y5 y6 y7 z0 z1 z2 z3 z4 z5 z6 z7 yf zf
                  have y0 := HQAm.out.g0
                  have y1 := HQAm.out.g1
                  have y2 := HQAm.out.g2
                  have y3 := HQAm.out.g3
                  have y4 := HQAm.out.g4
                  have y5 := HQAm.out.g5
                  have y6 := HQAm.out.g6
                  have y7 := HQAm.out.g7
                  have yf := fun i => HQAm.out.free i
                  have z0 := HQBm.out.g0
                  have z1 := HQBm.out.g1
                  have z2 := HQBm.out.g2
                  have z3 := HQBm.out.g3
                  have z4 := HQBm.out.g4
                  have z5 := HQBm.out.g5
                  have z6 := HQBm.out.g6
                  have z7 := HQBm.out.g7
                  have zf := fun i => HQBm.out.free i
                  go_wp2_with fail
                  have HP2 := Lib.hid (pair_spec HOBm.out HOAm.out)
                  refine (spcheck_any _ _ _ _ (fun b hb => by simp; exact hb) HP2.out (pair_small (by decide) HDB.out HDA.out)).mono ?_
                  rintro e wn ⟨rfl, hb0⟩
                  have hb : Below wm.heap.size wm wn := grow_trans (below_box _) hb0
                  have HBn := Lib.hid (HBm.out.trans (hb.mono HBm.out.size))
                  clear hb hb0 HP2
                  rw [HAC.out.2]
                  go_wp2_with fail
                  go_ret
                  exact ⟨rfl, HBn.out⟩
            · have e2 : (b.kind == 6) = false := beq_eq_false_iff_ne.2 kb
              have HKB := Lib.hid kb
              clear kb
              by_cases ka : a.kind = 6
              · have e1 : (a.kind == 6) = true := beq_iff_eq.2 ka
                have hta6 := mayP_posA (mayO_to HMA.out ka)
                have ta0 : (0 : Int) < (a.to.length : Int) := by omega
                obtain ⟨vb, vo, rfl, vS, vhc⟩ := HTA.out hta6
                have vc0 := (vhc 0 hta6).1
                rw [Nat.add_zero] at vc0
                obtain ⟨vx, vh⟩ : ∃ x, x = a.to[0]'(hta6) := ⟨_, rfl⟩
                rw [← vh] at vc0
                have VH : Hid (a.to.head? = some vx) := Lib.hid (by rw [vh, List.head?_eq_getElem?, List.getElem?_eq_getElem (hta6)])
                have VC : Hid (vb < w.heap.size ∧ w.cell? ⟨vb, vo, none⟩ = some (.string vx)) := Lib.hid ⟨vS, vc0⟩
                clear vhc vS vh vc0
                by_cases he : vx = idN
                · have d2 : (vx.toList == (⟨#[95, 105, 100]⟩ : ByteArray).toList) = true := by rw [he, str_beq]; exact decide_eq_true rfl
                  have d3 : (vx.toList == [95, 105, 100]) = true := idL ▸ d2
                  clear he
                  go_wp2_with (at_builtin; go_must (refine wpList_append_strs rfl _ _ rfl w4.heap.size (.slice (some ⟨qb, 0, none⟩) a.path.length qc) a.path rfl HV9.out (some ⟨w8.heap.size, 0, none⟩) 1 [st] (fun b => b < w8.heap.size + 1) rfl (fun h => by cases h) HP9.out (by have := HZ8.out; simp; omega) (by have := HL7.out; simp; omega) ?_); intro v10 w10 hv10 hg10; have HX10 := Lib.hid (HX9.out w10 v10 hv10 hg10); obtain ⟨qe, qd, e10, hqe⟩ := hv10.row (by simp); rw [show (a.path ++ [st]).length = a.path.length + 1 by simp] at e10; subst e10; have HV10 := Lib.hid hv10; have HQE := Lib.hid hqe; clear hqe hv10 hg10 z1 z1e; have HQA11 := Lib.hid (HX10.out.1.other (w.heap.size + 1) 1 (.slice (some ⟨qe, 0, none⟩) (a.path.length + 1) qd) (by omega)); have HQB11 := Lib.hid (HX10.out.2.1.set1 (.slice (some ⟨qe, 0, none⟩) (a.path.length + 1) qd)); have HB11 := Lib.hid (below_setA (i := 1) (p := w.heap.size + 1) (u := .slice (some ⟨qe, 0, none⟩) (a.path.length + 1) qd) HX10.out.2.2 (by omega)); have z1 := HX10.out.2.1.g1; have zf := fun i => HX10.out.2.1.free i; have y0 := HQA11.out.g0; have y1 := HQA11.out.g1; have y2 := HQA11.out.g2; have y3 := HQA11.out.g3; have y4 := HQA11.out.g4; have y5 := HQA11.out.g5; have y6 := HQA11.out.g6; have y7 := HQA11.out.g7; have yf := fun i => HQA11.out.free i; have x0 := HQB11.out.g0; have x1 := HQB11.out.g1; have x2 := HQB11.out.g2; have x3 := HQB11.out.g3; have x4 := HQB11.out.g4; have x5 := HQB11.out.g5; have x6 := HQB11.out.g6; have x7 := HQB11.out.g7; have xf := fun i => HQB11.out.free i; have vce := (HB11.out.cell (p := ⟨vb, vo, none⟩) VC.out.1).trans VC.out.2)
                  refine (lives7_any _).mono ?_
                  rintro e v9 ⟨rfl, hb⟩
                  have HF := Lib.hid (HB11.out.trans (hb.mono HB11.out.size))
                  clear hb
                  go_wp2_with fail
                  go_ret
                  exact ⟨rfl, HF.out⟩
                · have vd2 : (vx.toList == (⟨#[95, 105, 100]⟩ : ByteArray).toList) = false := by rw [str_beq]; exact decide_eq_false he
                  have vd3 : (vx.toList == [95, 105, 100]) = false := idL ▸ vd2
                  have VNE := Lib.hid he
                  clear he
                  have HAC := Lib.hid (apart_conf HMA.out HMB.out HMR.out HPNE.out (fun _ => by rw [VH.out]; exact fun e => VNE.out (by injection e)) (fun e => absurd e HKB.out))
                  clear ka hta6
                  go_wp2_with (at_builtin; go_must (refine wpList_append_strs rfl _ _ rfl w4.heap.size (.slice (some ⟨qb, 0, none⟩) a.path.length qc) a.path rfl HV9.out (some ⟨w8.heap.size, 0, none⟩) 1 [st] (fun b => b < w8.heap.size + 1) rfl (fun h => by cases h) HP9.out (by have := HZ8.out; simp; omega) (by have := HL7.out; simp; omega) ?_); intro v10 w10 hv10 hg10; have HX10 := Lib.hid (HX9.out w10 v10 hv10 hg10); obtain ⟨qe, qd, e10, hqe⟩ := hv10.row (by simp); rw [show (a.path ++ [st]).length = a.path.length + 1 by simp] at e10; subst e10; have HV10 := Lib.hid hv10; have HQE := Lib.hid hqe; clear hqe hv10 hg10 z1 z1e; have HQA11 := Lib.hid (HX10.out.1.other (w.heap.size + 1) 1 (.slice (some ⟨qe, 0, none⟩) (a.path.length + 1) qd) (by omega)); have HQB11 := Lib.hid (HX10.out.2.1.set1 (.slice (some ⟨qe, 0, none⟩) (a.path.length + 1) qd)); have HB11 := Lib.hid (below_setA (i := 1) (p := w.heap.size + 1) (u := .slice (some ⟨qe, 0, none⟩) (a.path.length + 1) qd) HX10.out.2.2 (by omega)); have z1 := HX10.out.2.1.g1; have zf := fun i => HX10.out.2.1.free i; have y0 := HQA11.out.g0; have y1 := HQA11.out.g1; have y2 := HQA11.out.g2; have y3 := HQA11.out.g3; have y4 := HQA11.out.g4; have y5 := HQA11.out.g5; have y6 := HQA11.out.g6; have y7 := HQA11.out.g7; have yf := fun i => HQA11.out.free i; have x0 := HQB11.out.g0; have x1 := HQB11.out.g1; have x2 := HQB11.out.g2; have x3 := HQB11.out.g3; have x4 := HQB11.out.g4; have x5 := HQB11.out.g5; have x6 := HQB11.out.g6; have x7 := HQB11.out.g7; have xf := fun i => HQB11.out.free i; have vce := (HB11.out.cell (p := ⟨vb, vo, none⟩) VC.out.1).trans VC.out.2)
                  have HOB11 := Lib.hid (op_with HOB.out HB11.out (own_string (p := a.path ++ [st]) (HV10.out.keep (w' := w10.setCell ⟨w.heap.size + 1, 1, none⟩ (.slice (some ⟨qe, 0, none⟩) (a.path.length + 1) qd)) fun b hb => heap_setCell_other _ ⟨w.heap.size + 1, 1, none⟩ b _ (by have := HH4.out; show b ≠ w.heap.size + 1; omega)) (fun s hs => by rcases List.mem_append.1 hs with h | h; exact HSA.out s h; obtain rfl := List.mem_singleton.1 h; exact HSZ.out) (by have := HL7.out; simp; omega)))
                  have HOA11 := Lib.hid (op_later HOA.out HB11.out)
                  refine (lives7_any _).mono ?_
                  rintro e wl ⟨rfl, hb⟩
                  have HOBl := Lib.hid (op_later HOB11.out hb)
                  have HOAl := Lib.hid (op_later HOA11.out hb)
                  have HQAl := Lib.hid (box_of HQA11.out hb HQA11.out.lt)
                  have HQBl := Lib.hid (box_of HQB11.out hb HQB11.out.lt)
                  have HBl := Lib.hid (HB11.out.trans (hb.mono HB11.out.size))
                  clear hb
                  have y0 := HQAl.out.g0
                  have y1 := HQAl.out.g1
                  have y2 := HQAl.out.g2
                  have y3 := HQAl.out.g3
                  have y4 := HQAl.out.g4
                  have y5 := HQAl.out.g5
                  have y6 := HQAl.out.g6
                  have y7 := HQAl.out.g7
                  have yf := fun i => HQAl.out.free i
                  have z0 := HQBl.out.g0
                  have z1 := HQBl.out.g1
                  have z2 := HQBl.out.g2
                  have z3 := HQBl.out.g3
                  have z4 := HQBl.out.g4
                  have z5 := HQBl.out.g5
                  have z6 := HQBl.out.g6
                  have z7 := HQBl.out.g7
                  have zf := fun i => HQBl.out.free i
                  go_wp2_with fail
                  have HP1 := Lib.hid (pair_spec HOAl.out HOBl.out)
                  refine (spcheck_any _ _ _ _ (fun b hb => by simp; exact hb) HP1.out (pair_small (by decide) HDA.out HDB.out)).mono ?_
                  rintro e wm ⟨rfl, hb0⟩
                  have hb : Below wl.heap.size wl wm := grow_trans (below_box _) hb0
                  have HOBm := Lib.hid (op_later HOBl.out hb)
                  have HOAm := Lib.hid (op_later HOAl.out hb)
                  have HQAm := Lib.hid (box_of HQAl.out hb HQAl.out.lt)
                  have HQBm := Lib.hid (box_of HQBl.out hb HQBl.out.lt)
                  have HBm := Lib.hid (HBl.out.trans (hb.mono HBl.out.size))
                  clear hb hb0 HP1
                  rw [HAC.out.1]
                  clear y0 y1 y2 y3 y4 y5 y6 y7 z0 z1 z2 z3 z4 z5 z6 z7 yf zf
                  have y0 := HQAm.out.g0
                  have y1 := HQAm.out.g1
                  have y2 := HQAm.out.g2
                  have y3 := HQAm.out.g3
                  have y4 := HQAm.out.g4
                  have y5 := HQAm.out.g5
                  have y6 := HQAm.out.g6
                  have y7 := HQAm.out.g7
                  have yf := fun i => HQAm.out.free i
                  have z0 := HQBm.out.g0
                  have z1 := HQBm.out.g1
                  have z2 := HQBm.out.g2
                  have z3 := HQBm.out.g3
                  have z4 := HQBm.out.g4
                  have z5 := HQBm.out.g5
                  have z6 := HQBm.out.g6
                  have z7 := HQBm.out.g7
                  have zf := fun i => HQBm.out.free i
                  go_wp2_with fail
                  have HP2 := Lib.hid (pair_spec HOBm.out HOAm.out)
                  refine (spcheck_any _ _ _ _ (fun b hb => by simp; exact hb) HP2.out (pair_small (by decide) HDB.out HDA.out)).mono ?_
                  rintro e wn ⟨rfl, hb0⟩
                  have hb : Below wm.heap.size wm wn := grow_trans (below_box _) hb0
                  have HBn := Lib.hid (HBm.out.trans (hb.mono HBm.out.size))
                  clear hb hb0 HP2
                  rw [HAC.out.2]
                  go_wp2_with fail
                  go_ret
                  exact ⟨rfl, HBn.out⟩
              · have e1 : (a.kind == 6) = false := beq_eq_false_iff_ne.2 ka
                have HKA := Lib.hid ka
                have HAC := Lib.hid (apart_conf HMA.out HMB.out HMR.out HPNE.out (fun e => absurd e HKA.out) (fun e => absurd e HKB.out))
                clear ka
                go_wp2_with (at_builtin; go_must (refine wpList_append_strs rfl _ _ rfl w4.heap.size (.slice (some ⟨qb, 0, none⟩) a.path.length qc) a.path rfl HV9.out (some ⟨w8.heap.size, 0, none⟩) 1 [st] (fun b => b < w8.heap.size + 1) rfl (fun h => by cases h) HP9.out (by have := HZ8.out; simp; omega) (by have := HL7.out; simp; omega) ?_); intro v10 w10 hv10 hg10; have HX10 := Lib.hid (HX9.out w10 v10 hv10 hg10); obtain ⟨qe, qd, e10, hqe⟩ := hv10.row (by simp); rw [show (a.path ++ [st]).length = a.path.length + 1 by simp] at e10; subst e10; have HV10 := Lib.hid hv10; have HQE := Lib.hid hqe; clear hqe hv10 hg10 z1 z1e; have HQA11 := Lib.hid (HX10.out.1.other (w.heap.size + 1) 1 (.slice (some ⟨qe, 0, none⟩) (a.path.length + 1) qd) (by omega)); have HQB11 := Lib.hid (HX10.out.2.1.set1 (.slice (some ⟨qe, 0, none⟩) (a.path.length + 1) qd)); have HB11 := Lib.hid (below_setA (i := 1) (p := w.heap.size + 1) (u := .slice (some ⟨qe, 0, none⟩) (a.path.length + 1) qd) HX10.out.2.2 (by omega)); have z1 := HX10.out.2.1.g1; have zf := fun i => HX10.out.2.1.free i; have y0 := HQA11.out.g0; have y1 := HQA11.out.g1; have y2 := HQA11.out.g2; have y3 := HQA11.out.g3; have y4 := HQA11.out.g4; have y5 := HQA11.out.g5; have y6 := HQA11.out.g6; have y7 := HQA11.out.g7; have yf := fun i => HQA11.out.free i; have x0 := HQB11.out.g0; have x1 := HQB11.out.g1; have x2 := HQB11.out.g2; have x3 := HQB11.out.g3; have x4 := HQB11.out.g4; have x5 := HQB11.out.g5; have x6 := HQB11.out.g6; have x7 := HQB11.out.g7; have xf := fun i => HQB11.out.free i)
                have HOB11 := Lib.hid (op_with HOB.out HB11.out (own_string (p := a.path ++ [st]) (HV10.out.keep (w' := w10.setCell ⟨w.heap.size + 1, 1, none⟩ (.slice (some ⟨qe, 0, none⟩) (a.path.length + 1) qd)) fun b hb => heap_setCell_other _ ⟨w.heap.size + 1, 1, none⟩ b _ (by have := HH4.out; show b ≠ w.heap.size + 1; omega)) (fun s hs => by rcases List.mem_append.1 hs with h | h; exact HSA.out s h; obtain rfl := List.mem_singleton.1 h; exact HSZ.out) (by have := HL7.out; simp; omega)))
                have HOA11 := Lib.hid (op_later HOA.out HB11.out)
                refine (lives7_any _).mono ?_
                rintro e wl ⟨rfl, hb⟩
                have HOBl := Lib.hid (op_later HOB11.out hb)
                have HOAl := Lib.hid (op_later HOA11.out hb)
                have HQAl := Lib.hid (box_of HQA11.out hb HQA11.out.lt)
                have HQBl := Lib.hid (box_of HQB11.out hb HQB11.out.lt)
                have HBl := Lib.hid (HB11.out.trans (hb.mono HB11.out.size))
                clear hb
                have y0 := HQAl.out.g0
                have y1 := HQAl.out.g1
                have y2 := HQAl.out.g2
                have y3 := HQAl.out.g3
                have y4 := HQAl.out.g4
                have y5 := HQAl.out.g5
                have y6 := HQAl.out.g6
                have y7 := HQAl.out.g7
                have yf := fun i => HQAl.out.free i
                have z0 := HQBl.out.g0
                have z1 := HQBl.out.g1
                have z2 := HQBl.out.g2
                have z3 := HQBl.out.g3
                have z4 := HQBl.out.g4
                have z5 := HQBl.out.g5
                have z6 := HQBl.out.g6
                have z7 := HQBl.out.g7
                have zf := fun i => HQBl.out.free i
                go_wp2_with fail
                have HP1 := Lib.hid (pair_spec HOAl.out HOBl.out)
                refine (spcheck_any _ _ _ _ (fun b hb => by simp; exact hb) HP1.out (pair_small (by decide) HDA.out HDB.out)).mono ?_
                rintro e wm ⟨rfl, hb0⟩
                have hb : Below wl.heap.size wl wm := grow_trans (below_box _) hb0
                have HOBm := Lib.hid (op_later HOBl.out hb)
                have HOAm := Lib.hid (op_later HOAl.out hb)
                have HQAm := Lib.hid (box_of HQAl.out hb HQAl.out.lt)
                have HQBm := Lib.hid (box_of HQBl.out hb HQBl.out.lt)
                have HBm := Lib.hid (HBl.out.trans (hb.mono HBl.out.size))
                clear hb hb0 HP1
                rw [HAC.out.1]
                clear y0 y1 y2 y3 y4 y5 y6 y7 z0 z1 z2 z3 z4 z5 z6 z7 yf zf
                have y0 := HQAm.out.g0
                have y1 := HQAm.out.g1
                have y2 := HQAm.out.g2
                have y3 := HQAm.out.g3
                have y4 := HQAm.out.g4
                have y5 := HQAm.out.g5
                have y6 := HQAm.out.g6
                have y7 := HQAm.out.g7
                have yf := fun i => HQAm.out.free i
                have z0 := HQBm.out.g0
                have z1 := HQBm.out.g1
                have z2 := HQBm.out.g2
                have z3 := HQBm.out.g3
                have z4 := HQBm.out.g4
                have z5 := HQBm.out.g5
                have z6 := HQBm.out.g6
                have z7 := HQBm.out.g7
                have zf := fun i => HQBm.out.free i
                go_wp2_with fail
                have HP2 := Lib.hid (pair_spec HOBm.out HOAm.out)
                refine (spcheck_any _ _ _ _ (fun b hb => by simp; exact hb) HP2.out (pair_small (by decide) HDB.out HDA.out)).mono ?_
                rintro e wn ⟨rfl, hb0⟩
                have hb : Below wm.heap.size wm wn := grow_trans (below_box _) hb0
                have HBn := Lib.hid (HBm.out.trans (hb.mono HBm.out.size))
                clear hb hb0 HP2
                rw [HAC.out.2]
                go_wp2_with fail
                go_ret
                exact ⟨rfl, HBn.out⟩
theorem bulk_one {H : Type} (d : DataW H) : 1 ≤ Rows.uptoBulk d := by
  cases d with
  | lit l => cases l <;> simp [Rows.uptoBulk]
  | nil => simp [Rows.uptoBulk]
  | ptr d => simp [Rows.uptoBulk]
  | slice elems spare => simp [Rows.uptoBulk]
  | agg parts => simp [Rows.uptoBulk]
  | iface t d => simp [Rows.uptoBulk]
  | map entries => simp [Rows.uptoBulk]
  | held h => simp [Rows.uptoBulk]
theorem bulk_length {H : Type} (l : List (DataW H)) : l.length ≤ Rows.uptoBulkAll l := by
  induction l with
  | nil => simp [Rows.uptoBulkAll]
  | cons x r ih => have := bulk_one x; simp only [Rows.uptoBulkAll, List.length_cons]; omega
theorem bulk_slice {H : Type} (es rs : List (DataW H)) : es.length + 1 ≤ Rows.uptoBulk (.slice es rs) := by
  have := bulk_length es
  simp only [Rows.uptoBulk]
  omega

set_option maxRecDepth 100000 in
theorem lifted (os : Os) (started : os.Started) (H : Type) (enc : TypeId × Value → H) (F : Stop.Interp) :
    ReturnsInHanded {} Try.checked os 3 .any ((Rows.OpenSpec.upto Rows.specApartSpec).pre6 enc Try.prog Try.f3 Rows.specApartUptoRow.domain false) (((Rows.OpenSpec.upto Rows.specApartSpec).at F).post enc Try.prog Try.f3 false true false false) := by
  refine returnsInHanded_of_cond_sized (C := Try.checked) (s := Rows.OpenSpec.upto Rows.specApartSpec) (k := Rows.uptoSmall) rfl own started (by kernel_rfl) Try.func3
    (OpenSpec.witness (enc := enc) (C := Try.checked) (s := Rows.OpenSpec.upto Rows.specApartSpec) (k := Rows.uptoSmall) rfl false ⟨#[], #[.agg #[.int .i64 0, .slice none 0 0, .int .i64 0, .int .i64 0, .string ByteArray.empty, .slice none 0 0, .slice none 0 0, .slice none 0 0], .agg #[.int .i64 0, .slice none 0 0, .int .i64 0, .int .i64 0, .string ByteArray.empty, .slice none 0 0, .slice none 0 0, .slice none 0 0], .string ByteArray.empty], []⟩ 8 (by kernel_rfl) (by kernel_rfl) (by kernel_rfl)
      (x := ([.agg [.lit (.int .i64 0), .nil, .agg [.lit (.int .i64 0), .lit (.int .i64 0), .lit (.string []), .nil, .nil], .nil], .agg [.lit (.int .i64 0), .nil, .agg [.lit (.int .i64 0), .lit (.int .i64 0), .lit (.string []), .nil, .nil], .nil], .lit (.string [])], [], [])) (by kernel_rfl) rfl (by kernel_rfl)) ?_
  intro W base args ds gs before hval0 hW hcnd hk hsz0 _
  have hval : ∀ (j : Nat) t v, Try.f3.params[j]? = some t → args[j]? = some v → Value.okWide Try.prog W .any base t v := hval0
  have hsz : (DataW.weightsEach Try.prog (Try.f3.params.toList ++ Rows.specApartSpec.plain.varTypes Try.prog) (ds ++ gs)).all (· ≤ reachBytes) = true := hsz0
  have hW' := hW
  obtain ⟨p, q, hA0, hV, rfl, hfz, hnd⟩ := hW
  have hA : DataW.TrodAll enc Try.prog W 0 (fun _ => true) true Try.f3.params.toList args.toList ds p := hA0
  rw [Try.params3] at hA hval hsz
  obtain ⟨v0, v1, v2, d0, d1, d2, p0, p1, p2, rfl, rfl, rfl, h0, h1, h2⟩ := trodAll_three hA
  obtain ⟨rfl, rfl⟩ := trodVars_none hV
  obtain ⟨a0, rfl, -⟩ := okWide_struct Try.underlying27 (hval 0 27 v0 rfl rfl)
  have k0 := h0
  have lt0 : ∀ x ∈ p0, x.block < W.heap.size := by obtain ⟨m, hm⟩ := k0; exact DataW.trod_lt m _ _ _ hm
  have wt0 : ∀ n ∈ d0.weights Try.prog 27, n ≤ reachBytes := fun n hn => by have := List.all_eq_true.1 hsz n (DataW.weights_mem_each (j := 0) rfl rfl n hn); simpa using this
  obtain ⟨a1, rfl, -⟩ := okWide_struct Try.underlying27 (hval 1 27 v1 rfl rfl)
  have k1 := h1
  have lt1 : ∀ x ∈ p1, x.block < W.heap.size := by obtain ⟨m, hm⟩ := k1; exact DataW.trod_lt m _ _ _ hm
  have wt1 : ∀ n ∈ d1.weights Try.prog 27, n ≤ reachBytes := fun n hn => by have := List.all_eq_true.1 hsz n (DataW.weights_mem_each (j := 1) rfl rfl n hn); simpa using this
  obtain ⟨a2, rfl, rfl, rfl, wa2⟩ := open_string Try.underlying9 (hval 2 9 v2 rfl rfl) h2
  clear hA0 hval0
  obtain ⟨op0, hdo0, hop0⟩ : ∃ o : OpT, depthT o.val ≤ Rows.uptoBulk d0 ∧ OpL W (fun b => b < W.heap.size) o a0 := by
    obtain ⟨m, hm⟩ := k0
    obtain ⟨o, h2, h3⟩ := open_aopD hm wt0
    exact ⟨o, h2, by simpa [Value.cells] using h3⟩
  obtain ⟨op1, hdo1, hop1⟩ : ∃ o : OpT, depthT o.val ≤ Rows.uptoBulk d1 ∧ OpL W (fun b => b < W.heap.size) o a1 := by
    obtain ⟨m, hm⟩ := k1
    obtain ⟨o, h2, h3⟩ := open_aopD hm wt1
    exact ⟨o, h2, by simpa [Value.cells] using h3⟩
  have hs2 : a2.size ≤ 140737488351232 := by
    have h3 := sized_string hsz (j := 2) (t := 9) rfl rfl
    simpa [reachBytes] using h3
  have hk2 : Rows.uptoBulkAll ([d0, d1, _] ++ []) ≤ 1048576 := of_decide_eq_true hk
  simp only [List.cons_append, List.nil_append, Rows.uptoBulkAll] at hk2
  refine (walk op0 op1 _ _ a2 W hop0 hop1 hs2 (by omega) (by omega)).mono fun e W' ⟨he, bel⟩ => ?_
  subst he
  exact ⟨_, rfl, _, _, _, [], _, [], hW', trodAll_mk1 (shut_bool Try.underlying4 _), (trodAll_cons_mk (Below.trod laidOut (by kernel_rfl) (of_decide_eq_true (by kernel_rfl)) k0 bel lt0) (trodAll_cons_mk (Below.trod laidOut (by kernel_rfl) (of_decide_eq_true (by kernel_rfl)) k1 bel lt1) (trodAll_cons_mk (shut_string Try.underlying9 wa2) trodAll_mk0))), rfl, bel.frame _, fun h => by cases h⟩

/-- The statement. -/
theorem proved : Rows.SpecApartUptoSaid :=
  OpenClaim.holds_of_cond 3 Try.f3 rfl rfl rfl rfl rfl rfl rfl ⟨rfl, rfl, rfl, rfl, rfl⟩ rfl rfl rfl rfl rfl (by kernel_rfl) Try.func3 (by kernel_rfl)
    (of_decide_eq_true (by kernel_rfl)) (by unfold Func.isWrapper; first | (rw [if_pos (by decide +kernel)]; kernel_rfl) | (rw [if_neg (by decide +kernel)]; exact ⟨rfl, rfl⟩))
    (fun os started H enc _ F => lifted os started H enc F)

end Go.Proofs.Ytipiplnhbecjeaa.SApart
