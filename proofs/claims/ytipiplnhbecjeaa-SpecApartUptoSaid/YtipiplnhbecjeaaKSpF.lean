/- The program's iterator over the places of operators: for every loop body. -/
import Derived.Test.YtipiplnhbecjeaaKSpA
import Derived.RangeFuncNested
import Derived.RangeFuncBound
import Derived.RangeFuncCalls
import Derived.RangeFuncLeaves
import Derived.Shelf.Abstract
import Derived.Shelf.RegionOpen
import Derived.WalkKit
import Derived.OwnWalkIn
import Derived.TacticsInMore
import Derived.LoopNIn
import Derived.LoopIn
namespace Go.Proofs.Ytipiplnhbecjeaa
set_option linter.unusedVariables false
set_option linter.unusedSimpArgs false
open Go.RowKit Go.Shelf
attribute [local go_sem] Oper.semAt_some
set_option maxRecDepth 100000
/-- The places that have come behind i operators: 2 j is operator j's path, 2 j + 1 where it is renamed to. -/
def seqX (l : List OpT) (i : Nat) : List Nat := (List.range i).flatMap fun j => if (l[j]?.map OpT.kind) = some 6 then [2 * j, 2 * j + 1] else [2 * j]
theorem seqX_succ (l : List OpT) (i : Nat) : seqX l (i + 1) = seqX l i ++ (if (l[i]?.map OpT.kind) = some 6 then [2 * i, 2 * i + 1] else [2 * i]) := by
  simp [seqX, List.range_succ]
def plT (l : List OpT) (x : Nat) : List ByteArray := match l[x / 2]? with
  | some o => if x % 2 = 0 then o.path else o.to
  | none => []
theorem plT_even (l : List OpT) (i : Nat) (h : i < l.length) : plT l (2 * i) = l[i].path := by
  unfold plT
  rw [show 2 * i / 2 = i by omega, List.getElem?_eq_getElem h]
  simp
theorem plT_odd (l : List OpT) (i : Nat) (h : i < l.length) : plT l (2 * i + 1) = l[i].to := by
  unfold plT
  rw [show (2 * i + 1) / 2 = i by omega, List.getElem?_eq_getElem h]
  simp only
  rw [if_neg (by omega)]
theorem seqX_take (l : List OpT) : ∀ i, i ≤ l.length → (seqX l i).map (plT l) = placesL (l.take i)
  | 0, _ => rfl
  | i + 1, h => by
    have hi : i < l.length := by omega
    rw [seqX_succ, List.map_append, seqX_take l i (by omega), List.take_add_one, List.getElem?_eq_getElem hi]
    unfold placesL
    rw [List.flatMap_append]
    congr 1
    simp only [Option.map_some, Option.some.injEq, Option.toList_some, List.flatMap_cons, List.flatMap_nil, List.append_nil]
    unfold placesO
    split
    · simp [plT_even l i hi, plT_odd l i hi]
    · simp [plT_even l i hi]
theorem seqX_all (l : List OpT) : (seqX l l.length).map (plT l) = placesL l := by
  have h := seqX_take l l.length (Nat.le_refl _)
  rwa [List.take_length] at h
theorem seqX_pre (l : List OpT) : ∀ k i, i + k ≤ l.length → ∃ r, seqX l i ++ r = seqX l (i + k)
  | 0, i, _ => ⟨[], by simp⟩
  | k + 1, i, h => by
    obtain ⟨r, hr⟩ := seqX_pre l k i (by omega)
    exact ⟨r ++ (if (l[i + k]?.map OpT.kind) = some 6 then [2 * (i + k), 2 * (i + k) + 1] else [2 * (i + k)]), by rw [← List.append_assoc, hr, show i + (k + 1) = (i + k) + 1 from rfl, seqX_succ]⟩
theorem seqX_lt (l : List OpT) {i x : Nat} (h : x ∈ seqX l i) : x / 2 < i := by
  unfold seqX at h
  obtain ⟨j, hj, hx⟩ := List.mem_flatMap.1 h
  have hj := List.mem_range.1 hj
  split at hx
  · rcases List.mem_cons.1 hx with rfl | hx
    · omega
    · rw [List.mem_singleton.1 hx]; omega
  · rw [List.mem_singleton.1 hx]; omega
theorem seqX_len (l : List OpT) : ∀ i, (seqX l i).length ≤ 2 * i
  | 0 => by simp [seqX]
  | i + 1 => by
    rw [seqX_succ, List.length_append]
    have := seqX_len l i
    split <;> simp <;> omega
/-- A place of the row. -/
abbrev PlX (l : List OpT) : Type := { x : Nat // x ∈ seqX l l.length }
def plV (w : World) (b off : Nat) (x : Nat) : Value := (w.cell? ⟨b, off + x / 2 * 8 + (if x % 2 = 0 then 1 else 7), none⟩).getD (.slice none 0 0)
/-- A place's value is its steps. -/
theorem plV_is {w : World} {S : Nat → Prop} {b off : Nat} {l : List OpT} (h : OpsL w S (some ⟨b, off, none⟩) l) (x : Nat) (hx : x / 2 < l.length) :
    ∃ A c, plV w b off x = .slice A (plT l x).length c ∧ StrsAt w S A (plT l x) ∧ (plT l x).length ≤ c ∧ (plT l x).length ≤ 8796093021952 := by
  obtain ⟨b', off', hA, -, c0, c1, c2, c3, c4, c5, c6, c7, ho, x0, x1, x2, x3, x4, x5, x6, x7⟩ := h.cells (x / 2) hx
  injection hA with hA
  injection hA with e1 e2
  subst e1 e2
  obtain ⟨PA, pc, a, b2, c, d, e, TA, tc, he, -, hp, ht, hpc, htc, -, hpl, htl⟩ := ho
  simp only [Array.mk.injEq, List.cons.injEq, and_true] at he
  obtain ⟨rfl, rfl, rfl, rfl, rfl, rfl, rfl, rfl⟩ := he
  unfold plV plT
  rw [List.getElem?_eq_getElem hx]
  simp only
  split
  · rw [x1]
    exact ⟨PA, pc, rfl, hp, hpc, hpl⟩
  · rw [x7]
    exact ⟨TA, tc, rfl, ht, htc, htl⟩
/-- What a loop body keeps: what lies below m, but for some boxes, and every operator's box. -/
def KpO (X : Nat → Prop) (m : Nat) (W W' : World) : Prop := W.heap.size ≤ W'.heap.size ∧ (∀ b, b < m → ¬ X b → W'.heap[b]? = W.heap[b]?) ∧ ∀ (b : Nat) (cs : Array Value) (fr : Nat × Nat), W.heap[b]? = some (Obj.cells cs 27 fr) → W'.heap[b]? = some (Obj.cells cs 27 fr)
theorem KpO.refl (X : Nat → Prop) (m : Nat) (W : World) : KpO X m W W := ⟨Nat.le_refl _, fun _ _ _ => rfl, fun _ _ _ h => h⟩
theorem KpO.trans {X : Nat → Prop} {m : Nat} {A B C : World} (h : KpO X m A B) (k : KpO X m B C) : KpO X m A C := ⟨Nat.le_trans h.1 k.1, fun b hb hx => (k.2.1 b hb hx).trans (h.2.1 b hb hx), fun b cs fr hb => k.2.2 b cs fr (h.2.2 b cs fr hb)⟩
theorem KpO.of_below {X : Nat → Prop} {m : Nat} {W W' : World} (h : Below W.heap.size W W') (hm : m ≤ W.heap.size) : KpO X m W W' := ⟨h.size, fun b hb _ => h.block b (by omega), fun b cs fr hb => (h.block b (Array.getElem?_eq_some_iff.1 hb).1).trans hb⟩
theorem kpO_b {X : Nat → Prop} {m : Nat} {w : World} (hn : m ≤ w.heap.size) (W : World) (l : Nat) (o o' : Obj) (hl : w.heap.size ≤ l) (h : W.heap[l]? = some o) (hc : o.isCells = false) (_ : o.isWalk = false) : KpO X m W (W.putObj l o') :=
  ⟨(grownBy_putObj' W l o').size, fun b hb _ => (grownBy_putObj' W l o').block b (by have := (Array.getElem?_eq_some_iff.1 h).1; omega) (fun e => by injection e with e; omega), fun b cs fr hb => ((grownBy_putObj' W l o').block b (Array.getElem?_eq_some_iff.1 hb).1 (fun e => by
    injection e with e
    subst e
    rw [h] at hb
    injection hb with hb
    subst hb
    exact absurd hc (by simp [Obj.isCells]))).trans hb⟩
def preX {l : List OpT} (pre : List (PlX l)) : List Nat := pre.map Subtype.val
theorem preX_snoc {l : List OpT} (pre : List (PlX l)) (x : PlX l) : preX (pre ++ [x]) = preX pre ++ [x.1] := by simp [preX]
set_option maxHeartbeats 8000000 in
theorem places_in (F : Fence) (n : Nat) (hf : F.fn 62) (hro : F.round = none) (hn : 1 ≤ n) (y Bs m : Nat) (X : Nat → Prop) (S : Nat → Prop) (A : Option Addr) (c : Nat) (l : List OpT) (b off : Nat) (hb : 0 < l.length → A = some ⟨b, off, none⟩) (w0 : World) (hlen : l.length ≤ 1099511627776) (hBs : Bs < m ∧ ¬ X Bs) (hS : ∀ b, S b → b < m ∧ ¬ X b) (J Jx : List (PlX l) → World → Prop)
    (hJ : ∀ pre W o, J pre W → J pre (W.alloc o))
    (hY : ∀ pre (x : PlX l) W, J pre W → pre.length < 2 * l.length → YieldAt F (n - 1) Try.prog y #[plV w0 b off x.1] W fun e W' =>
      (e = .returned (.bool true) ∧ J (pre ++ [x]) W' ∧ KpO X m W W') ∨ (e = .returned (.bool false) ∧ Jx (pre ++ [x]) W'))
    (W : World) (hm : m ≤ W.heap.size) (hc : W.cell? ⟨Bs, 0, none⟩ = some (.slice A l.length c)) (hW0 : ∀ b, S b → W.heap[b]? = w0.heap[b]?) (hop : OpsL w0 S A l) (h0 : J [] W) :
    CallsIn F n Try.prog 62 #[.func (.yield y) #[] #[], .pointer (some ⟨Bs, 0, none⟩)] W fun e W' => (∃ v, e = .returned v) ∧
      ((∃ ys, preX ys = seqX l l.length ∧ J ys W') ∨ (∃ pre, (∃ r, preX pre ++ r = seqX l l.length) ∧ Jx pre W')) := by
  have HOP := Lib.hid hop
  have HW0 := Lib.hid hW0
  clear hop hW0
  refine callsIn_of_wp Try.func62 rfl hf ?_ hro
  simp only [Try.ntmps62, List.size_toArray, List.length_cons, List.length_nil, Nat.reduceAdd, Nat.reduceSub, Array.replicate_succ, Array.replicate_zero, List.push_toArray, List.append_toArray, List.nil_append, List.cons_append]
  gi_wp2
  gi_loopw [7] (fun i wr => ∃ (k : Nat) (pre : List (PlX l)), i = .int .i64 k ∧ k ≤ l.length ∧ Hid (preX pre = seqX l k) ∧ J pre wr ∧ Hid (KpO X m W wr))
    (fun i _ => l.length - (intOf i).toNat)
  case atStart => exact ⟨0, [], rfl, Nat.zero_le _, rfl, h0, Lib.hid (KpO.refl _ _ _)⟩
  case round =>
    obtain ⟨k, pre, rfl, hk, HP, hJs, HK⟩ := hrel
    by_cases hlt : k < l.length
    · obtain rfl := hb (by omega)
      obtain ⟨b', off', hA, hSb, c0, c1, c2, c3, c4, c5, c6, c7, ho, x0, x1, x2, x3, x4, x5, x6, x7⟩ := HOP.out.cells k hlt
      injection hA with hA
      injection hA with e1 e2
      subst e1 e2
      have hcell : ∀ o v, w0.cell? ⟨b, o, none⟩ = some v → wr.cell? ⟨b, o, none⟩ = some v := fun o v hv =>
        (World.cell?_of_block (a := ⟨b, o, none⟩) ((HK.out.2.1 b (hS b hSb).1 (hS b hSb).2).trans (HW0.out b hSb))).trans hv
      have hv1 : plV w0 b off (2 * k) = c1 := by
        unfold plV
        rw [show 2 * k / 2 = k by omega, if_pos (by omega), x1]
        rfl
      have hv7 : plV w0 b off (2 * k + 1) = c7 := by
        unfold plV
        rw [show (2 * k + 1) / 2 = k by omega, if_neg (by omega), x7]
        rfl
      replace x0 := hcell _ _ x0
      replace x1 := hcell _ _ x1
      replace x2 := hcell _ _ x2
      replace x3 := hcell _ _ x3
      replace x4 := hcell _ _ x4
      replace x5 := hcell _ _ x5
      replace x6 := hcell _ _ x6
      replace x7 := hcell _ _ x7
      have hmr : m ≤ wr.heap.size := Nat.le_trans hm HK.out.1
      obtain ⟨PA, pc, a, b2, c', d, e, TA, tc, he, hlv, -⟩ := ho
      obtain ⟨VA, vc, VA', vc', hvs, -⟩ := hlv.shape
      simp only [Value.agg.injEq, Array.mk.injEq, List.cons.injEq, and_true] at he hvs
      obtain ⟨rfl, rfl, rfl, rfl, rfl, rfl, rfl, rfl⟩ := he
      obtain ⟨rfl, rfl, rfl, rfl, rfl⟩ := hvs
      have hmem1 : 2 * k ∈ seqX l l.length := by
        obtain ⟨r, hr⟩ := seqX_pre l (l.length - (k + 1)) (k + 1) (by omega)
        rw [show k + 1 + (l.length - (k + 1)) = l.length by omega] at hr
        rw [← hr, seqX_succ]
        simp only [List.mem_append]
        left; right
        split <;> simp
      have hpl : pre.length < 2 * l.length := by
        have h1 := congrArg List.length HP.out
        unfold preX at h1
        rw [List.length_map] at h1
        have h2 := seqX_len l k
        omega
      have hcb : wr.cell? ⟨Bs, 0, none⟩ = some (.slice (some ⟨b, off, none⟩) l.length c) := (World.cell?_of_block (a := ⟨Bs, 0, none⟩) (HK.out.2.1 Bs hBs.1 hBs.2)).trans hc
      have hbk : (wr.alloc (.cells #[.int .i64 l[k].kind, .slice PA l[k].path.length pc, .int .i64 l[k].val.kind, .int .i64 l[k].val.num, .string l[k].val.text, .slice VA l[k].val.items.length vc, .slice VA' l[k].val.names.length vc', .slice TA l[k].to.length tc] 27)).heap[wr.heap.size]? = some (.cells #[.int .i64 l[k].kind, .slice PA l[k].path.length pc, .int .i64 l[k].val.kind, .int .i64 l[k].val.num, .string l[k].val.text, .slice VA l[k].val.items.length vc, .slice VA' l[k].val.names.length vc', .slice TA l[k].to.length tc] 27 (0, 0)) := heap_alloc_new wr _
      have hk1 : KpO X m wr (wr.alloc (.cells #[.int .i64 l[k].kind, .slice PA l[k].path.length pc, .int .i64 l[k].val.kind, .int .i64 l[k].val.num, .string l[k].val.text, .slice VA l[k].val.items.length vc, .slice VA' l[k].val.names.length vc', .slice TA l[k].to.length tc] 27)) := KpO.of_below ((Below.refl _ _).alloc (Nat.le_refl _) _) hmr
      obtain ⟨fn, tmps, assign, body, hy, hR⟩ := hY pre ⟨2 * k, hmem1⟩ (wr.alloc (.cells #[.int .i64 l[k].kind, .slice PA l[k].path.length pc, .int .i64 l[k].val.kind, .int .i64 l[k].val.num, .string l[k].val.text, .slice VA l[k].val.items.length vc, .slice VA' l[k].val.names.length vc', .slice TA l[k].to.length tc] 27)) (hJ _ _ _ hJs) hpl
      try dsimp only at hy
      rw [hv1] at hy
      have HBK := Lib.hid hbk
      have HK1 := Lib.hid (HK.out.trans hk1)
      have HMR := Lib.hid hmr
      have HPL := Lib.hid hpl
      have HY := Lib.hid hY
      have HV7 := Lib.hid hv7
      have HLV := Lib.hid (fun j (hj : j < l.length) => seqX_succ l j)
      clear hlv hv1 hv7 hcell hJs hbk hk1 hmr hpl hJ hY
      gi_wp2
      refine hR.mono ?_
      clear hy hR x0 x1 x2 x3 x4 x5 x6 x7 hcb
      rintro e W3 (⟨rfl, hJ3, hk3⟩ | ⟨rfl, hJx3⟩)
      · have hbk3 := hk3.2.2 _ _ _ HBK.out
        have y0 := Go.Joins.cell_of_block hbk3 0
        have y7 := Go.Joins.cell_of_block hbk3 7
        obtain ⟨kd, hkd⟩ : ∃ kd, kd = l[k].kind := ⟨_, rfl⟩
        rw [← hkd] at y0
        have HK3 := Lib.hid (HK1.out.trans hk3)
        clear hbk3 hk3
        by_cases h6 : kd = 6
        · have d6 : (kd == 6) = true := by rw [h6]; rfl
          have hif : (l[k]?.map OpT.kind) = some 6 := by rw [List.getElem?_eq_getElem hlt, Option.map_some, ← hkd, h6]
          have hmem2 : 2 * k + 1 ∈ seqX l l.length := by
            obtain ⟨r, hr⟩ := seqX_pre l (l.length - (k + 1)) (k + 1) (by omega)
            rw [show k + 1 + (l.length - (k + 1)) = l.length by omega] at hr
            rw [← hr, seqX_succ, if_pos hif]
            simp
          have hpl2 : (pre ++ [(⟨2 * k, hmem1⟩ : PlX l)]).length < 2 * l.length := by
            have h1 := congrArg List.length HP.out
            unfold preX at h1
            rw [List.length_map] at h1
            have h2 := seqX_len l k
            rw [List.length_append, List.length_singleton]
            omega
          obtain ⟨fn2, tmps2, assign2, body2, hy2, hR2⟩ := HY.out (pre ++ [⟨2 * k, hmem1⟩]) ⟨2 * k + 1, hmem2⟩ W3 hJ3 hpl2
          try dsimp only at hy2
          rw [HV7.out] at hy2
          have HIF := Lib.hid hif
          clear h6 hif hpl2 hJ3 HY hkd
          gi_wp2
          refine hR2.mono ?_
          clear hy2 hR2 y0 y7
          rintro e W4 (⟨rfl, hJ4, hk4⟩ | ⟨rfl, hJx4⟩)
          · have HK4 := Lib.hid (HK3.out.trans hk4)
            clear hk4
            gi_wp2
            go_roundw
            case rel => exact ⟨k + 1, pre ++ [(⟨2 * k, hmem1⟩ : PlX l)] ++ [(⟨2 * k + 1, hmem2⟩ : PlX l)], by first | rfl | go_num, by omega, Lib.hid (by rw [preX_snoc, preX_snoc, HP.out, seqX_succ, if_pos HIF.out]; simp), hJ4, HK4⟩
            case measure => simp [intOf]; omega
          · gi_wp2
            refine bodyPost_ret (results_none rfl _ _ _) rfl ?_
            refine ⟨⟨_, rfl⟩, .inr ⟨_, ?_, hJx4⟩⟩
            obtain ⟨r, hr⟩ := seqX_pre l (l.length - (k + 1)) (k + 1) (by omega)
            rw [show k + 1 + (l.length - (k + 1)) = l.length by omega] at hr
            exact ⟨r, Eq.trans (by rw [preX_snoc, preX_snoc, HP.out, seqX_succ, if_pos HIF.out]; simp) hr⟩
        · have d6 : (kd == 6) = false := by simpa using h6
          have hif : ¬ (l[k]?.map OpT.kind) = some 6 := by rw [List.getElem?_eq_getElem hlt, Option.map_some, ← hkd]; simpa using h6
          have HIF := Lib.hid hif
          clear h6 hif HY hkd
          gi_wp2_with (refine wpListIn_skip (by rfl) (by rfl) ?_; simp only [Act.put, List.setIfInBounds_toArray, List.set_cons_succ, List.set_cons_zero])
          go_roundw
          case rel => exact ⟨k + 1, pre ++ [(⟨2 * k, hmem1⟩ : PlX l)], by first | rfl | go_num, by omega, Lib.hid (by rw [preX_snoc, HP.out, seqX_succ, if_neg HIF.out]), hJ3, HK3⟩
          case measure => simp [intOf]; omega
      · gi_wp2_with (refine wpListIn_skip (by rfl) (by rfl) ?_; simp only [Act.put, List.setIfInBounds_toArray, List.set_cons_succ, List.set_cons_zero])
        refine bodyPost_ret (results_none rfl _ _ _) rfl ?_
        refine ⟨⟨_, rfl⟩, .inr ⟨_, ?_, hJx3⟩⟩
        obtain ⟨r, hr⟩ := seqX_pre l (l.length - (k + 1)) (k + 1) (by omega)
        rw [show k + 1 + (l.length - (k + 1)) = l.length by omega] at hr
        rw [seqX_succ] at hr
        by_cases hif : (l[k]?.map OpT.kind) = some 6
        · rw [if_pos hif] at hr
          exact ⟨[2 * k + 1] ++ r, Eq.trans (by rw [preX_snoc, HP.out]; simp) hr⟩
        · rw [if_neg hif] at hr
          exact ⟨r, Eq.trans (by rw [preX_snoc, HP.out]) hr⟩
    · obtain rfl : k = l.length := by omega
      gi_wp2
      go_end0
      exact ⟨⟨_, rfl⟩, .inl ⟨_, HP.out, hJs⟩⟩
theorem places_stops (F : Fence) (n : Nat) (hf : F.fn 62) (hro : F.round = none) (hn : 1 ≤ n) (Bs m : Nat) (X : Nat → Prop) (S : Nat → Prop) (A : Option Addr) (c : Nat) (l : List OpT) (b off : Nat) (hb : 0 < l.length → A = some ⟨b, off, none⟩) (hlen : l.length ≤ 1099511627776) (hBs : Bs < m ∧ ¬ X Bs) (hS : ∀ b, S b → b < m ∧ ¬ X b) (w : World) (hm : m ≤ w.heap.size) (hc : w.cell? ⟨Bs, 0, none⟩ = some (.slice A l.length c)) (hop : OpsL w S A l) :
    SeqStopsK F n Try.prog 62 #[.pointer (some ⟨Bs, 0, none⟩)] (fun x : PlX l => #[plV w b off x.1]) (KpO X m) (fun ys => preX ys = seqX l l.length) (fun pre => ∃ r, preX pre ++ r = seqX l l.length) (2 * l.length) w := fun y J Jx W hW hJ _ hY h0 =>
  places_in F n hf hro hn y Bs m X S A c l b off hb w hlen hBs hS J Jx (fun pre W o h => hJ pre W _ none h (World.grownBy_alloc W o none) (fun r e => by cases e)) hY W (Nat.le_trans hm hW.size) ((hW.cell (p := ⟨Bs, 0, none⟩) (Nat.lt_of_lt_of_le hBs.1 hm)).trans hc) (fun b hb => hW.block b (Nat.lt_of_lt_of_le (hS b hb).1 hm)) hop h0
/-- The iterator's making: the row in a box. -/
theorem seq_in (F : Fence) (n : Nat) (hf : F.fn 37) (hro : F.round = none) (a : Option Addr) (len cap : Nat) (w : World) :
    CallsIn F n Try.prog 37 #[.slice a len cap] w fun e w' => e = .returned (.func (.func 62) #[] #[.pointer (some ⟨w.heap.size, 0, none⟩)]) ∧ w' = w.alloc (.cells #[.slice a len cap] 33) := by
  refine callsIn_of_wp Try.func37 rfl hf ?_ hro
  simp only [Try.ntmps37, List.size_toArray, List.length_cons, List.length_nil, Nat.reduceAdd, Nat.reduceSub, Array.replicate_succ, Array.replicate_zero, List.push_toArray, List.append_toArray, List.nil_append, List.cons_append]
  gi_wp2
  go_ret
  exact ⟨rfl, rfl⟩
end Go.Proofs.Ytipiplnhbecjeaa

/- Whether an update touches the id, by the program. -/
namespace Go.Proofs.Ytipiplnhbecjeaa
set_option linter.unusedVariables false
set_option linter.unusedSimpArgs false
open Go.RowKit Go.Shelf
attribute [local go_sem] Oper.semAt_some
set_option maxRecDepth 100000
set_option maxHeartbeats 2000000 in
theorem idxS_any (A : Option Addr) (c : Nat) (ns : List ByteArray) (s : ByteArray) (w : World) (S : Nat → Prop) (h : StrsAt w S A ns) (hn : ns.length ≤ 140737488351232) : Calls Try.prog 63 #[.slice A ns.length c, .string s] w fun e w' => (∃ i : Int, e = .returned (.int .i64 i) ∧ decide (0 ≤ i) = ns.any fun x => decide (x = s)) ∧ w = w' := by
  have HS := Lib.hid h
  have HN := Lib.hid hn
  clear h
  go_enter Try.func63, Try.ntmps63
  go_wp2_with fail
  go_loopw [8] (fun i wr => ∃ k : Nat, i = .int .i64 k ∧ k ≤ ns.length ∧ wr = w ∧ Hid (∀ j (h : j < ns.length), j < k → ns[j] ≠ s)) (fun i _ => ns.length - (intOf i).toNat)
  case atStart => exact ⟨0, rfl, by omega, rfl, fun j _ h => absurd h (by omega)⟩
  case round =>
    obtain ⟨k, rfl, hk, rfl, HJ⟩ := hrel
    by_cases hlt : k < ns.length
    · obtain ⟨p, o, rfl, -, hc⟩ := HS.out (by omega)
      have hck := (hc k hlt).1
      clear hc
      by_cases he : s = ns[k]
      · have d1 : (s.toList == ns[k].toList) = true := by rw [he]; simp
        go_wp2_with fail
        go_ret
        exact ⟨⟨k, rfl, by rw [List.any_eq_true.2 ⟨ns[k], List.getElem_mem hlt, decide_eq_true he.symm⟩]; simp⟩, rfl⟩
      · have d1 : (s.toList == ns[k].toList) = false := by rw [str_beq]; exact decide_eq_false he
        have HE := Lib.hid he
        clear he
        go_wp2_with fail
        go_roundw
        case rel => exact ⟨k + 1, by go_num, by omega, trivial, fun j h hjk => by
          by_cases e : j = k
          · subst e; exact fun h => HE.out h.symm
          · exact HJ.out j h (by omega)⟩
        case measure => simp [intOf]; omega
    · go_wp2_with fail
      go_ret
      refine ⟨⟨-1, rfl, ?_⟩, rfl⟩
      have hne : (ns.any fun x => decide (x = s)) = false := List.any_eq_false.2 fun x hx => by
        obtain ⟨j, hj, he⟩ := List.mem_iff_getElem.1 hx
        have := HJ.out j hj (by omega)
        rw [he] at this
        simpa using this
      rw [hne]; rfl
theorem contS_any (A : Option Addr) (c : Nat) (ns : List ByteArray) (s : ByteArray) (w : World) (S : Nat → Prop) (h : StrsAt w S A ns) (hn : ns.length ≤ 140737488351232) : Calls Try.prog 39 #[.slice A ns.length c, .string s] w fun e w' => e = .returned (.bool (ns.any fun x => decide (x = s))) ∧ w = w' := by
  have HC := Lib.hid (idxS_any A c ns s w S h hn)
  clear h
  go_enter Try.func39, Try.ntmps39
  go_wp2_with fail
  refine HC.out.mono ?_
  rintro e u ⟨⟨i, rfl, hi⟩, rfl⟩
  have HI := Lib.hid hi
  clear hi HC
  go_wp2_with fail
  go_ret
  exact ⟨ret_bool HI.out, rfl⟩
def TouI (w : World) (l : List OpT) (pre : List (PlX l)) (W : World) : Prop := W.heap[w.heap.size + 1]? = some (.cells #[.bool false] 4 (0, 0)) ∧ w.heap.size + 3 ≤ W.heap.size ∧ Below w.heap.size w W ∧ ∀ x ∈ pre, (plT l x.1).head? ≠ some idN
def TouX (w : World) (l : List OpT) (c : Code) (pre : List (PlX l)) (W : World) : Prop := c = .ret ∧ (∃ x ∈ pre, (plT l x.1).head? = some idN) ∧ W.heap[w.heap.size + 1]? = some (.cells #[.bool true] 4 (0, 0)) ∧ w.heap.size + 3 ≤ W.heap.size ∧ Below w.heap.size w W
theorem touI_own (w : World) (l : List OpT) (B : Nat) (hB : w.heap.size + 3 ≤ B) : OwnFrom B (TouI w l) := by
  rintro pre W W' row ⟨h1, h2, h3, h4⟩ hg hr
  exact ⟨(grownBy_keeps_cells hg (fun r e => (hr r e).2) h1 rfl).trans h1, Nat.le_trans h2 hg.size, h3.grown hg h3.size (fun k e => Nat.le_trans (by omega) (hr k e).1), h4⟩
theorem touX_own (w : World) (l : List OpT) (c : Code) (B : Nat) (hB : w.heap.size + 3 ≤ B) : OwnFrom B (TouX w l c) := by
  rintro pre W W' row ⟨h0, h4, h1, h2, h3⟩ hg hr
  exact ⟨h0, h4, (grownBy_keeps_cells hg (fun r e => (hr r e).2) h1 rfl).trans h1, Nat.le_trans h2 hg.size, h3.grown hg h3.size (fun k e => Nat.le_trans (by omega) (hr k e).1)⟩
theorem one_set {W : World} {p : Nat} {cs : Array Value} {t : TypeId} {fr : Nat × Nat} (h : W.heap[p]? = some (.cells cs t fr)) (a : Value) :
    (W.setCell ⟨p, 0, none⟩ a).heap[p]? = some (.cells (cs.setIfInBounds 0 a) t fr) ∧ W.grownBy (W.setCell ⟨p, 0, none⟩ a) (some p) ∧ (W.setCell ⟨p, 0, none⟩ a).heap.size = W.heap.size :=
  ⟨Go.Joins.block_setCell h a, ⟨rfl, rfl, rfl, by simp, fun k _ hk => heap_setCell_other _ ⟨p, 0, none⟩ k _ (fun e => hk (by rw [e]))⟩, by simp⟩
end Go.Proofs.Ytipiplnhbecjeaa

/- Whether an update touches the id: the loop over the places. -/
namespace Go.Proofs.Ytipiplnhbecjeaa
set_option linter.unusedVariables false
set_option linter.unusedSimpArgs false
open Go.RowKit Go.Shelf
attribute [local go_sem] Oper.semAt_some
set_option maxRecDepth 100000
theorem results_cell_b {fn : Func} {p : Tmp} (h : fn.results = #[.cell p 4]) (tmps : Array Value) (w : World) (g : Nat) (b : Bool)
    (hp : tmps.getD p undef = .pointer (some ⟨g, 0, none⟩)) (hg : w.heap[g]? = some (.cells #[.bool b] 4 (0, 0))) :
    (results fn tmps).run Try.prog w = .ok (.bool b) w := by
  have hp' : tmps[p]?.getD undef = .pointer (some ⟨g, 0, none⟩) := by simpa using hp
  have hc := Go.Joins.cell_of_block hg 0
  simp [results, h, hp', asAddr, go_sem, hc]
theorem idL : (⟨#[95, 105, 100]⟩ : ByteArray).toList = [95, 105, 100] := by rw [ByteArray.toList_eq]
theorem OpsL.at' {w : World} {S : Nat → Prop} {A : Option Addr} {l : List OpT} (h : OpsL w S A l) : ∃ b off, 0 < l.length → A = some ⟨b, off, none⟩ := by
  by_cases hp : 0 < l.length
  · obtain ⟨b, off, hA, -⟩ := h hp
    exact ⟨b, off, fun _ => hA⟩
  · exact ⟨0, 0, fun h => absurd h hp⟩
theorem any_places {l : List OpT} {p : List ByteArray → Bool} {x : Nat} (hx : x ∈ seqX l l.length) (h : p (plT l x) = true) : (placesL l).any p = true := by
  rw [← seqX_all]
  exact List.any_eq_true.2 ⟨plT l x, List.mem_map.2 ⟨x, hx, rfl⟩, h⟩
theorem no_places {l : List OpT} {p : List ByteArray → Bool} (h : ∀ x ∈ seqX l l.length, p (plT l x) = false) : (placesL l).any p = false := by
  rw [← seqX_all]
  refine List.any_eq_false.2 fun y hy => ?_
  obtain ⟨x, hx, rfl⟩ := List.mem_map.1 hy
  simp [h x hx]
theorem mem_places {l : List OpT} {x : Nat} (hx : x ∈ seqX l l.length) : plT l x ∈ placesL l := by
  rw [← seqX_all]
  exact List.mem_map.2 ⟨x, hx, rfl⟩
set_option maxHeartbeats 16000000 in
theorem touches_any (S : Nat → Prop) (s : SpecT) (cs : Array Value) (w : World) (hS : ∀ b, S b → b < w.heap.size) (h : SpecL w S s cs) (hne : ∀ p ∈ placesL s.ops, 0 < p.length) :
    Calls Try.prog 20 #[.agg cs] w fun e w' => e = .returned (.bool (touchesS s)) ∧ Below w.heap.size w w' := by
  obtain ⟨DA, dc, DA', dc', OA, oc, rfl, hv, ho, hoc, hol⟩ := h
  obtain ⟨-, -, -, -, -, -, hnl, hns⟩ : (0 < s.doc.items.length → True) ∧ True ∧ True ∧ True ∧ True ∧ True ∧ s.doc.names.length ≤ 140737488351232 ∧ StrsAt w S DA' s.doc.names := by
    obtain ⟨A, ca, A', ca', he, hl, -, hst, -⟩ := one_var hS hv
    simp only [Value.agg.injEq, Array.mk.injEq, List.cons.injEq, Value.slice.injEq, and_true, true_and] at he
    obtain ⟨⟨rfl, rfl⟩, rfl, rfl⟩ := he
    exact ⟨fun _ => trivial, trivial, trivial, trivial, trivial, trivial, hl.2, hst⟩
  obtain ⟨b, off, hbo⟩ := ho.at'
  obtain ⟨w1, hw1⟩ : ∃ W, W = w.alloc (.cells #[.bool s.rep, .int .i64 s.doc.kind, .int .i64 s.doc.num, .string s.doc.text, .slice DA s.doc.items.length dc, .slice DA' s.doc.names.length dc', .slice OA s.ops.length oc] 35) := ⟨_, rfl⟩
  have hbk : SBox w1 w.heap.size s DA dc DA' dc' OA oc := by rw [hw1]; exact heap_alloc_new w _
  have hb1 : Below w.heap.size w w1 := by rw [hw1]; exact (Below.refl _ _).alloc (Nat.le_refl _) _
  have hz1 : w1.heap.size = w.heap.size + 1 := by rw [hw1]; simp
  obtain ⟨w2, hw2⟩ : ∃ W, W = w1.alloc (.cells #[.bool false] 4) := ⟨_, rfl⟩
  have hb2 : Below w1.heap.size w1 w2 := by rw [hw2]; exact (Below.refl _ _).alloc (Nat.le_refl _) _
  have hz2 : w2.heap.size = w.heap.size + 2 := by rw [hw2]; simp [hz1]
  have hr2 : w2.heap[w.heap.size + 1]? = some (.cells #[.bool false] 4 (0, 0)) := by rw [hw2, ← hz1]; exact heap_alloc_new w1 _
  have hbk2 := hbk.below hb2
  have hb02 : Below w.heap.size w w2 := hb1.trans (hb2.mono hb1.size)
  have HCO := Lib.hid (contS_any DA' dc' s.doc.names idN w2 S (hns.keep fun b hb => hb02.block b (hS b hb)) hnl)
  have y0 := Go.Joins.cell_of_block hbk2 0
  have y1 := Go.Joins.cell_of_block hbk2 1
  have y5 := Go.Joins.cell_of_block hbk2 5
  have y6 := Go.Joins.cell_of_block hbk2 6
  have z0 := Go.Joins.cell_of_block hr2 0
  have zf := fun i => Go.Joins.unfrozen_of_block hr2 i
  have HBK := Lib.hid (And.intro hbk2 (And.intro hr2 (And.intro hb02 hz2)))
  have HS := Lib.hid hS
  have HO := Lib.hid ho
  have HOL := Lib.hid hol
  have HNE := Lib.hid hne
  obtain ⟨r, hr⟩ : ∃ r, r = touchesS s := ⟨_, rfl⟩
  rw [← hr]
  have HR := Lib.hid hr
  clear hS hv ho hoc hol hne hnl hns hbk hb1 hb2 hr2 hbk2 hb02 hr
  refine (callsIn_wide (n := 8)).1 ?_
  refine callsIn_of_wp_marks Try.func20 rfl trivial ?_ rfl
  simp only [Try.ntmps20, List.size_toArray, List.length_cons, List.length_nil, Nat.reduceAdd, Nat.reduceSub, Array.replicate_succ, Array.replicate_zero, List.push_toArray, List.append_toArray, List.nil_append, List.cons_append]
  gi_wp2
  rw [← hw1, ← hw2]
  refine ⟨trivial, ?_⟩
  refine (callsIn_wide.2 HCO.out).mono ?_
  rintro e u ⟨rfl, rfl⟩
  clear HCO
  cases hct : s.doc.names.any fun x => decide (x = idN)
  · have HCT := Lib.hid hct
    clear hct
    gi_wp2
    refine ⟨trivial, ?_⟩
    refine (seq_in Fence.wide 7 trivial rfl _ _ _ _).mono ?_
    rintro e w' ⟨rfl, rfl⟩
    gi_wp2
    have hbk3 : (((w.alloc (.cells #[.bool s.rep, .int .i64 s.doc.kind, .int .i64 s.doc.num, .string s.doc.text, .slice DA s.doc.items.length dc, .slice DA' s.doc.names.length dc', .slice OA s.ops.length oc] 35)).alloc (.cells #[.bool false] 4)).alloc (.cells #[.slice OA s.ops.length oc] 33)).heap[w.heap.size + 1]? = some (.cells #[.bool false] 4 (0, 0)) := by
      have h1 := HBK.out.2.1
      rw [hw2, hw1] at h1
      exact (((Below.refl _ _).alloc (Nat.le_refl _) _ : Below _ _ _).block _ (Array.getElem?_eq_some_iff.1 h1).1).trans h1
    have hb3 : Below w.heap.size w (((w.alloc (.cells #[.bool s.rep, .int .i64 s.doc.kind, .int .i64 s.doc.num, .string s.doc.text, .slice DA s.doc.items.length dc, .slice DA' s.doc.names.length dc', .slice OA s.ops.length oc] 35)).alloc (.cells #[.bool false] 4)).alloc (.cells #[.slice OA s.ops.length oc] 33)) := by
      have h1 := HBK.out.2.2.1
      rw [hw2, hw1] at h1
      exact h1.alloc (by simp; omega) _
    have hz3 : (((w.alloc (.cells #[.bool s.rep, .int .i64 s.doc.kind, .int .i64 s.doc.num, .string s.doc.text, .slice DA s.doc.items.length dc, .slice DA' s.doc.names.length dc', .slice OA s.ops.length oc] 35)).alloc (.cells #[.bool false] 4)).alloc (.cells #[.slice OA s.ops.length oc] 33)).heap.size = w.heap.size + 3 := by simp
    have hs3 : (((w.alloc (.cells #[.bool s.rep, .int .i64 s.doc.kind, .int .i64 s.doc.num, .string s.doc.text, .slice DA s.doc.items.length dc, .slice DA' s.doc.names.length dc', .slice OA s.ops.length oc] 35)).alloc (.cells #[.bool false] 4)).alloc (.cells #[.slice OA s.ops.length oc] 33)).cell? ⟨w.heap.size + 2, 0, none⟩ = some (.slice OA s.ops.length oc) := by
      have h9 := Go.Joins.cell_of_block (heap_alloc_new ((w.alloc (.cells #[.bool s.rep, .int .i64 s.doc.kind, .int .i64 s.doc.num, .string s.doc.text, .slice DA s.doc.items.length dc, .slice DA' s.doc.names.length dc', .slice OA s.ops.length oc] 35)).alloc (.cells #[.bool false] 4)) (.cells #[.slice OA s.ops.length oc] 33)) 0
      rw [show ((w.alloc (.cells #[.bool s.rep, .int .i64 s.doc.kind, .int .i64 s.doc.num, .string s.doc.text, .slice DA s.doc.items.length dc, .slice DA' s.doc.names.length dc', .slice OA s.ops.length oc] 35)).alloc (.cells #[.bool false] 4)).heap.size = w.heap.size + 2 from by simp] at h9
      exact h9
    generalize (((w.alloc (.cells #[.bool s.rep, .int .i64 s.doc.kind, .int .i64 s.doc.num, .string s.doc.text, .slice DA s.doc.items.length dc, .slice DA' s.doc.names.length dc', .slice OA s.ops.length oc] 35)).alloc (.cells #[.bool false] 4)).alloc (.cells #[.slice OA s.ops.length oc] 33)) = w3 at *
    have ho3 : OpsL w3 S OA s.ops := HO.out.below' HS.out hb3
    have HO3 := Lib.hid ho3
    have h0 : TouI w s.ops [] w3 := ⟨hbk3, by omega, hb3, fun x hx => by cases hx⟩
    have HSb : Hid (∀ b, S b → b < w.heap.size + 3 ∧ b ≠ w.heap.size + 1) := Lib.hid fun b hb => by have := HS.out b hb; omega
    clear hbk3 hb3 y0 y1 y5 y6 z0 zf hw1 hw2
    refine wpIn_rangeFunc_ownF rfl (by omega) (gf := 62) (lb := #[.pointer (some ⟨w.heap.size + 2, 0, none⟩)]) rfl trivial (enters_of Try.func62 (by kernel_rfl) rfl)
      (places_stops Fence.wide 7 trivial rfl (by omega) (w.heap.size + 2) (w.heap.size + 3) (fun b => b = w.heap.size + 1) S OA oc s.ops b off hbo (by have := HOL.out; omega) ⟨by omega, by omega⟩ HSb.out w3 (by omega) hs3 ho3) KpO.trans (kpO_b (by omega)) (Below.refl _ _) (fun _ => rfl)
      (TouI w s.ops) (TouX w s.ops) (touI_own w s.ops _ (by omega)) (fun c => touX_own w s.ops c _ (by omega)) h0
      (fun q => { tmps := #[.agg #[.bool s.rep, .int .i64 s.doc.kind, .int .i64 s.doc.num, .string s.doc.text, .slice DA s.doc.items.length dc, .slice DA' s.doc.names.length dc', .slice OA s.ops.length oc], .pointer (some ⟨w.heap.size, 0, none⟩), .pointer (some ⟨w.heap.size + 1, 0, none⟩), plV w3 b off q.1, .pointer (some ⟨w.heap.size, 1, none⟩), .pointer (some ⟨w.heap.size, 5, none⟩), .slice DA' s.doc.names.length dc', .bool false, .pointer (some ⟨w.heap.size, 6, none⟩), .slice OA s.ops.length oc, .func (.func 62) #[] #[.pointer (some ⟨w.heap.size + 1 + 1, 0, none⟩)], plV w3 b off q.1, undef, undef, undef, undef], defers := [] }) ?assign ?body ?done ?stop
    case assign =>
      intro l q W K hK
      gi_wp2
      exact hK
    case body =>
      rintro l pre q W ⟨i1, i2, i3, i4⟩ hlen
      have hlt := seqX_lt s.ops q.2
      obtain rfl := hbo (by omega)
      obtain ⟨A, c, hv, hst, hc, hle⟩ := plV_is HO3.out q.1 hlt
      have hpos := HNE.out _ (mem_places q.2)
      obtain ⟨b1, o1, rfl, hS1, hcell⟩ := hst hpos
      have hc0 := (hcell 0 hpos).1
      rw [Nat.add_zero] at hc0
      have hcW : W.cell? ⟨b1, o1, none⟩ = some (.string (plT s.ops q.1)[0]) := (World.cell?_of_block (a := ⟨b1, o1, none⟩) (by
        have h1 := HS.out b1 hS1
        have h2 := h0.2.2.1
        exact (i3.block b1 h1).trans (h2.block b1 h1).symm)).trans hc0
      rw [hv]
      have I1 := Lib.hid (And.intro i1 (And.intro i2 (And.intro i3 i4)))
      have y0 := Go.Joins.cell_of_block i1 0
      have yf := fun i => Go.Joins.unfrozen_of_block i1 i
      have hlen1 : (0 : Int) < ((plT s.ops q.1).length : Int) := by omega
      have hhd : (plT s.ops q.1).head? = some (plT s.ops q.1)[0] := by rw [List.head?_eq_getElem?, List.getElem?_eq_getElem hpos]
      obtain ⟨x, hx⟩ : ∃ x, x = (plT s.ops q.1)[0] := ⟨_, rfl⟩
      rw [← hx] at hcW hhd
      obtain ⟨n, hn⟩ : ∃ n, n = (plT s.ops q.1).length := ⟨_, rfl⟩
      rw [← hn] at hpos ⊢
      have HHD := Lib.hid hhd
      clear i1 i2 i3 i4 hv hst hc hle hcell hc0 hhd hx hlen1 hn
      by_cases he : x = idN
      · have d1 : (x.toList == (⟨#[95, 105, 100]⟩ : ByteArray).toList) = true := by rw [he, str_beq]; exact decide_eq_true rfl
        have d2 : (x.toList == [95, 105, 100]) = true := idL ▸ d1
        have HE := Lib.hid he
        clear he
        gi_wp2
        obtain ⟨i1, i2, i3, i4⟩ := I1.out
        obtain ⟨hbox, hg5, hz5⟩ := one_set i1 (.bool true)
        refine ⟨KeepsOthers.of_grownBy hg5 fun j o e h => (by injection e with e; subst e; rw [i1] at h; injection h with h; rw [← h]; rfl), rfl, ⟨q, by simp, by rw [HHD.out, HE.out]⟩, hbox, by omega, ⟨hg5.os.trans i3.os, hg5.tape.trans i3.tape, hg5.output.trans i3.output, by have := hg5.size; omega, fun k hk => (hg5.block k (by omega) (fun e => by injection e; omega)).trans (i3.block k hk)⟩⟩
      · have d1 : (x.toList == (⟨#[95, 105, 100]⟩ : ByteArray).toList) = false := by rw [str_beq]; exact decide_eq_false he
        have d2 : (x.toList == [95, 105, 100]) = false := idL ▸ d1
        have HE := Lib.hid he
        clear he
        gi_wp2
        obtain ⟨i1, i2, i3, i4⟩ := I1.out
        refine ⟨KeepsOthers.refl _, KpO.refl _ _ _, i1, i2, i3, fun y hy => ?_⟩
        rcases List.mem_append.1 hy with h | h
        · exact i4 y h
        · rw [List.mem_singleton.1 h, HHD.out]
          exact fun e => HE.out (by injection e)
    case done =>
      rintro D ys W hD hys ⟨i1, i2, i3, i4⟩ hK
      have hf : r = false := by
        rw [HR.out]
        unfold touchesS
        rw [HCT.out, Bool.false_or]
        refine no_places fun x hx => ?_
        rw [← hys] at hx
        obtain ⟨y, hy, rfl⟩ := List.mem_map.1 hx
        exact decide_eq_false (i4 y hy)
      subst hf
      have y0 := Go.Joins.cell_of_block i1 0
      have yf := fun i => Go.Joins.unfrozen_of_block i1 i
      have HV := Lib.hid (And.intro i1 (And.intro i2 i3))
      have HKD := Lib.hid hK
      clear i1 i2 i3 i4 hK hys
      gi_wp2
      obtain ⟨i1, i2, i3⟩ := HV.out
      obtain ⟨hbox, hg5, hz5⟩ := one_set i1 (.bool false)
      generalize W.setCell ⟨w.heap.size + 1, 0, none⟩ (.bool false) = W5 at *
      have hDW : D < W.heap.size := (Array.getElem?_eq_some_iff.1 HKD.out).1
      have hK5 : W5.heap[D]? = some (.deferred (some [])) := (hg5.block D hDW (fun e => by injection e; omega)).trans HKD.out
      have hg6 := grownBy_putObj' W5 D (.deferred none)
      have hbox6 : (W5.putObj D (.deferred none)).heap[w.heap.size + 1]? = some (.cells #[.bool false] 4 (0, 0)) := (hg6.block _ (by omega) (fun e => by injection e; omega)).trans hbox
      refine ⟨by simp, .inl ⟨_, _, rfl, run_takeDeferred hK5, ?_⟩⟩
      refine ⟨_, results_cell_b rfl _ _ (w.heap.size + 1) false rfl hbox6, rfl, ?_⟩
      exact ⟨hg6.os.trans (hg5.os.trans i3.os), hg6.tape.trans (hg5.tape.trans i3.tape), hg6.output.trans (hg5.output.trans i3.output), by have := hg6.size; omega, fun b hb => (hg6.block b (by omega) (fun e => by injection e; omega)).trans ((hg5.block b (by omega) (fun e => by injection e; omega)).trans (i3.block b hb))⟩
    case stop =>
      rintro D c' pre W hD - ⟨rfl, ⟨x, hx, hxe⟩, hbox, h2, h3⟩ hK
      have hf : r = true := by
        rw [HR.out]
        unfold touchesS
        rw [any_places x.2 (decide_eq_true hxe), Bool.or_true]
      subst hf
      have HKD := Lib.hid hK
      have HV := Lib.hid (And.intro hbox (And.intro h2 h3))
      clear hK hx hxe hbox h2 h3
      gi_wp2
      obtain ⟨hbox, h2, h3⟩ := HV.out
      have hDW : D < W.heap.size := (Array.getElem?_eq_some_iff.1 HKD.out).1
      have hg6 := grownBy_putObj' W D (.deferred none)
      have hbox6 := (hg6.block (w.heap.size + 1) (by omega) (fun e => by injection e; omega)).trans hbox
      refine ⟨by simp, .inl ⟨_, _, rfl, run_takeDeferred HKD.out, ?_⟩⟩
      refine ⟨_, results_cell_b rfl _ _ (w.heap.size + 1) true rfl hbox6, rfl, ?_⟩
      exact ⟨hg6.os.trans h3.os, hg6.tape.trans h3.tape, hg6.output.trans h3.output, by have := hg6.size; omega, fun b hb => (hg6.block b (by omega) (fun e => by injection e; omega)).trans (h3.block b hb)⟩
  · have HCT := Lib.hid hct
    clear hct
    gi_wp2
    have hx : ((w.alloc (.cells #[.bool s.rep, .int .i64 s.doc.kind, .int .i64 s.doc.num, .string s.doc.text, .slice DA s.doc.items.length dc, .slice DA' s.doc.names.length dc', .slice OA s.ops.length oc] 35)).alloc (.cells #[.bool true] 4)).heap[w.heap.size + 1]? = some (.cells #[.bool true] 4 (0, 0)) := by
      have h1 := heap_alloc_new (w.alloc (.cells #[.bool s.rep, .int .i64 s.doc.kind, .int .i64 s.doc.num, .string s.doc.text, .slice DA s.doc.items.length dc, .slice DA' s.doc.names.length dc', .slice OA s.ops.length oc] 35)) (.cells #[.bool true] 4)
      rw [show (w.alloc (.cells #[.bool s.rep, .int .i64 s.doc.kind, .int .i64 s.doc.num, .string s.doc.text, .slice DA s.doc.items.length dc, .slice DA' s.doc.names.length dc', .slice OA s.ops.length oc] 35)).heap.size = w.heap.size + 1 from by simp] at h1
      exact h1
    refine ⟨_, results_cell_b rfl _ _ (w.heap.size + 1) true rfl hx, ?_⟩
    refine ⟨?_, ((Below.refl _ _).alloc (Nat.le_refl _) _).alloc (by simp) _⟩
    rw [HR.out]
    unfold touchesS
    rw [HCT.out]
    rfl
end Go.Proofs.Ytipiplnhbecjeaa

/- Whether a place meets one of a row of places, by the program. -/
namespace Go.Proofs.Ytipiplnhbecjeaa
set_option linter.unusedVariables false
set_option linter.unusedSimpArgs false
open Go.RowKit
set_option maxRecDepth 100000
/-- A value that is steps. -/
def SlP (w : World) (S : Nat → Prop) (v : Value) (p : List ByteArray) : Prop := ∃ A c, v = .slice A p.length c ∧ StrsAt w S A p ∧ p.length ≤ c ∧ p.length ≤ 8796093021952
theorem SlP.keep {w w' : World} {S : Nat → Prop} {v : Value} {p : List ByteArray} (h : SlP w S v p) (hk : ∀ b, S b → w'.heap[b]? = w.heap[b]?) : SlP w' S v p := by
  obtain ⟨A, c, h1, h2, h3⟩ := h
  exact ⟨A, c, h1, h2.keep hk, h3⟩
/-- A row of steps. -/
def PlsAt (w : World) (S : Nat → Prop) (A : Option Addr) (qs : List (List ByteArray)) : Prop :=
  0 < qs.length → ∃ b off, A = some ⟨b, off, none⟩ ∧ b < w.heap.size ∧ ∀ i (h : i < qs.length), ∃ v, w.cell? ⟨b, off + i, none⟩ = some v ∧ SlP w S v qs[i]
theorem PlsAt.below {w w' : World} {S : Nat → Prop} {A : Option Addr} {qs : List (List ByteArray)} (h : PlsAt w S A qs) (hS : ∀ b, S b → b < w.heap.size) (hb : Below w.heap.size w w') : PlsAt w' S A qs := fun hp => by
  obtain ⟨b, off, h1, h2, h3⟩ := h hp
  refine ⟨b, off, h1, Nat.lt_of_lt_of_le h2 hb.size, fun i hi => ?_⟩
  obtain ⟨v, h4, h5⟩ := h3 i hi
  exact ⟨v, (hb.cell (p := ⟨b, off + i, none⟩) h2).trans h4, h5.keep fun b hb' => hb.block b (hS b hb')⟩
theorem confl1_any (S : Nat → Prop) (p q : List ByteArray) (vp vq : Value) (g : Nat) (w : World) (hS : ∀ b, S b → b < w.heap.size) (hg : w.cell? ⟨g, 0, none⟩ = some vp) (hp : SlP w S vp p) (hq : SlP w S vq q) :
    Calls Try.prog 41 #[vq, .pointer (some ⟨g, 0, none⟩)] w fun e w' => e = .returned (.bool (meetP p q)) ∧ Below w.heap.size w w' := by
  obtain ⟨A, c, rfl, h1, h2, h3⟩ := hp
  obtain ⟨B, d, rfl, k1, k2, k3⟩ := hq
  have HM := Lib.hid (meet_any A B c d p q w S S h1 k1 hS hS (by omega) (by omega) h2 k2)
  clear h1 h2 h3 k1 k2 k3 hS
  go_enter Try.func41, Try.ntmps41
  go_wp2_with fail
  refine HM.out.mono ?_
  rintro e w1 ⟨rfl, hb⟩
  have HB := Lib.hid hb
  clear hb HM
  go_wp2_with fail
  go_ret
  exact ⟨rfl, HB.out⟩
set_option maxHeartbeats 4000000 in
theorem idxSs_any (S : Nat → Prop) (p : List ByteArray) (vp : Value) (g : Nat) (A : Option Addr) (c : Nat) (qs : List (List ByteArray)) (w : World) (hS : ∀ b, S b → b < w.heap.size) (hgl : g < w.heap.size) (hg : w.cell? ⟨g, 0, none⟩ = some vp) (hp : SlP w S vp p) (h : PlsAt w S A qs) (hn : qs.length ≤ 1000000) :
    Calls Try.prog 64 #[.slice A qs.length c, .func (.func 41) #[] #[.pointer (some ⟨g, 0, none⟩)]] w fun e w' => (∃ i : Int, e = .returned (.int .i64 i) ∧ decide (0 ≤ i) = qs.any fun q => meetP p q) ∧ Below w.heap.size w w' := by
  have H := Lib.hid h
  have HS := Lib.hid hS
  have HG := Lib.hid (And.intro hgl (And.intro hg hp))
  have HN := Lib.hid hn
  clear h hS hg hp hgl
  go_enter Try.func64, Try.ntmps64
  go_wp2_with fail
  go_loopw [8] (fun i wr => ∃ k : Nat, i = .int .i64 k ∧ k ≤ qs.length ∧ Hid (Below w.heap.size w wr) ∧ Hid (∀ j (h : j < qs.length), j < k → meetP p qs[j] = false)) (fun i _ => qs.length - (intOf i).toNat)
  case atStart => exact ⟨0, rfl, by omega, Lib.hid (Below.refl _ _), Lib.hid fun j _ h => absurd h (by omega)⟩
  case round =>
    obtain ⟨k, rfl, hk, HB, HJ⟩ := hrel
    by_cases hlt : k < qs.length
    · have hS2 : ∀ b, S b → b < wr.heap.size := fun b hb => Nat.lt_of_lt_of_le (HS.out b hb) HB.out.size
      obtain ⟨b, off, rfl, hbl, hc⟩ := H.out.below HS.out HB.out (by omega)
      obtain ⟨v, hcv, hsl⟩ := hc k hlt
      have HC := Lib.hid (confl1_any S p qs[k] vp v g wr hS2 ((HB.out.cell (p := ⟨g, 0, none⟩) HG.out.1).trans HG.out.2.1) (HG.out.2.2.keep fun b hb => HB.out.block b (HS.out b hb)) hsl)
      obtain ⟨A', c', rfl, -⟩ := hsl
      obtain ⟨n, hn'⟩ : ∃ n, n = qs[k].length := ⟨_, rfl⟩
      rw [← hn'] at HC hcv
      clear hc hS2 hbl hn'
      go_wp2_with fail
      refine HC.out.mono ?_
      rintro e u ⟨rfl, hb⟩
      have HB2 := Lib.hid (HB.out.trans (hb.mono HB.out.size))
      clear hb HC hcv
      cases hm : meetP p qs[k]
      · have HM := Lib.hid hm
        clear hm
        go_wp2_with fail
        go_roundw
        case rel => exact ⟨k + 1, by go_num, by omega, HB2, Lib.hid fun j h hjk => by
          by_cases e : j = k
          · subst e; exact HM.out
          · exact HJ.out j h (by omega)⟩
        case measure => simp [intOf]; omega
      · have HM := Lib.hid hm
        clear hm
        go_wp2_with fail
        go_ret
        exact ⟨⟨k, rfl, by rw [List.any_eq_true.2 ⟨qs[k], List.getElem_mem hlt, HM.out⟩]; simp⟩, HB2.out⟩
    · go_wp2_with fail
      go_ret
      refine ⟨⟨-1, rfl, ?_⟩, HB.out⟩
      rw [show (qs.any fun q => meetP p q) = false from List.any_eq_false.2 fun x hx => by
        obtain ⟨j, hj, rfl⟩ := List.mem_iff_getElem.1 hx
        simp [HJ.out j hj (by omega)]]
      rfl
theorem contSs_any (S : Nat → Prop) (p : List ByteArray) (vp : Value) (g : Nat) (A : Option Addr) (c : Nat) (qs : List (List ByteArray)) (w : World) (hS : ∀ b, S b → b < w.heap.size) (hgl : g < w.heap.size) (hg : w.cell? ⟨g, 0, none⟩ = some vp) (hp : SlP w S vp p) (h : PlsAt w S A qs) (hn : qs.length ≤ 1000000) :
    Calls Try.prog 40 #[.slice A qs.length c, .func (.func 41) #[] #[.pointer (some ⟨g, 0, none⟩)]] w fun e w' => e = .returned (.bool (qs.any fun q => meetP p q)) ∧ Below w.heap.size w w' := by
  have HC := Lib.hid (idxSs_any S p vp g A c qs w hS hgl hg hp h hn)
  clear h hS hg hp hgl
  go_enter Try.func40, Try.ntmps40
  go_wp2_with fail
  refine HC.out.mono ?_
  rintro e u ⟨⟨i, rfl, hi⟩, hb⟩
  have HI := Lib.hid hi
  have HB := Lib.hid hb
  clear hi hb HC
  go_wp2_with fail
  go_ret
  exact ⟨ret_bool HI.out, HB.out⟩
theorem confL_snoc : ∀ (ps ahead : List (List ByteArray)) (p : List ByteArray), confL ahead (ps ++ [p]) = (confL ahead ps || (ahead ++ ps).any fun q => meetP p q)
  | [], ahead, p => by simp [confL]
  | x :: r, ahead, p => by
    rw [List.cons_append, confL, confL, confL_snoc r (ahead ++ [x]) p, Bool.or_assoc, List.append_assoc]
    rfl
theorem confL_pre : ∀ (ps r ahead : List (List ByteArray)), confL ahead ps = true → confL ahead (ps ++ r) = true
  | [], r, ahead, h => by simp [confL] at h
  | x :: ps, r, ahead, h => by
    rw [List.cons_append, confL]
    rw [confL, Bool.or_eq_true] at h
    rcases h with h | h
    · rw [h]; rfl
    · rw [confL_pre ps r _ h, Bool.or_true]
end Go.Proofs.Ytipiplnhbecjeaa

/- Whether two places of an update meet, by the program: the loop over the places. -/
namespace Go.Proofs.Ytipiplnhbecjeaa
set_option linter.unusedVariables false
set_option linter.unusedSimpArgs false
open Go.RowKit Go.Shelf
attribute [local go_sem] Oper.semAt_some
set_option maxRecDepth 100000
theorem Try.infoStrsR : (Try.prog.info? 22).map (fun i => (i.zero, i.size, i.bytes)) = some (some (.slice none 0 0), 1, 24) := by kernel_rfl
def plTs {l : List OpT} (pre : List (PlX l)) : List (List ByteArray) := pre.map fun x => plT l x.1
def plVs {l : List OpT} (w3 : World) (b off : Nat) (pre : List (PlX l)) : List Value := pre.map fun x => plV w3 b off x.1
theorem plTs_eq {l : List OpT} (pre : List (PlX l)) : plTs pre = (preX pre).map (plT l) := by simp [plTs, preX]
def ConI (w w3 : World) (b off : Nat) (l : List OpT) (pre : List (PlX l)) (W : World) : Prop := ∃ A c,
  W.heap[w.heap.size]? = some (.cells #[.bool false] 4 (0, 0)) ∧ W.heap[w.heap.size + 1]? = some (.cells #[.slice A pre.length c] 47 (0, 0)) ∧
  W.ownsRow (w.heap.size + 3) 22 1 (.slice A pre.length c) pre.length (plVs w3 b off pre) ∧ w.heap.size + 3 ≤ W.heap.size ∧ Below w.heap.size w W ∧ confL [] (plTs pre) = false
def ConX (w : World) (l : List OpT) (c : Code) (pre : List (PlX l)) (W : World) : Prop := c = .ret ∧ confL [] (plTs pre) = true ∧ W.heap[w.heap.size]? = some (.cells #[.bool true] 4 (0, 0)) ∧ w.heap.size + 3 ≤ W.heap.size ∧ Below w.heap.size w W
theorem ownsRow_grown {W W' : World} {row : Option Nat} {B : Nat} {t : TypeId} {k : Nat} {v : Value} {n : Nat} {xs : List Value} (h : W.ownsRow B t k v n xs) (hg : W.grownBy W' row) (hr : ∀ r, row = some r → ∃ o : Obj, W.heap[r]? = some o ∧ o.isCells = false) : W'.ownsRow B t k v n xs := by
  obtain ⟨h1, h2⟩ := h
  refine ⟨h1, ?_⟩
  rcases h2 with h2 | ⟨g, cap, cur, hv, hB, hh, r⟩
  · exact Or.inl h2
  · exact Or.inr ⟨g, cap, cur, hv, hB, (grownBy_keeps_cells hg hr hh rfl).trans hh, r⟩
theorem conI_own (w w3 : World) (b off : Nat) (l : List OpT) (B : Nat) (hB : w.heap.size + 3 ≤ B) : OwnFrom B (ConI w w3 b off l) := by
  rintro pre W W' row ⟨A, c, h1, h2, h3, h4, h5, h6⟩ hg hr
  exact ⟨A, c, (grownBy_keeps_cells hg (fun r e => (hr r e).2) h1 rfl).trans h1, (grownBy_keeps_cells hg (fun r e => (hr r e).2) h2 rfl).trans h2, ownsRow_grown h3 hg (fun r e => (hr r e).2), Nat.le_trans h4 hg.size, h5.grown hg h5.size (fun k e => Nat.le_trans (by omega) (hr k e).1), h6⟩
theorem conX_own (w : World) (l : List OpT) (c : Code) (B : Nat) (hB : w.heap.size + 3 ≤ B) : OwnFrom B (ConX w l c) := by
  rintro pre W W' row ⟨h0, h4, h1, h2, h3⟩ hg hr
  exact ⟨h0, h4, (grownBy_keeps_cells hg (fun r e => (hr r e).2) h1 rfl).trans h1, Nat.le_trans h2 hg.size, h3.grown hg h3.size (fun k e => Nat.le_trans (by omega) (hr k e).1)⟩
/-- What the round's assignment leaves: the place in a box. -/
def ConA (T : Nat → Value → Act) (w3 : World) (b off : Nat) {l : List OpT} (x : PlX l) (a' : Act) (W : World) : Prop :=
  ∃ gx, a' = T gx (plV w3 b off x.1) ∧ W.heap[gx]? = some (.cells #[plV w3 b off x.1] 22 (0, 0)) ∧ w3.heap.size ≤ gx
theorem conA_own (T : Nat → Value → Act) (w3 : World) (b off : Nat) {l : List OpT} (x : PlX l) (a' : Act) (B : Nat) : OwnFrom B (fun (_ : Unit) W => ConA T w3 b off x a' W) := by
  rintro _ W W' row ⟨gx, h1, h2, h3⟩ hg hr
  exact ⟨gx, h1, (grownBy_keeps_cells hg (fun r e => (hr r e).2) h2 rfl).trans h2, h3⟩
theorem row_pls {W : World} {S : Nat → Prop} {B : Nat} {A : Option Addr} {c : Nat} {vs : List Value} {qs : List (List ByteArray)} (h : W.ownsRow B 22 1 (.slice A qs.length c) qs.length vs) (hq : ∀ i (h : i < qs.length), ∃ v, vs[i]? = some v ∧ SlP W S v qs[i]) : PlsAt W S A qs := by
  intro hp
  rcases h.2 with ⟨-, h0⟩ | ⟨g, cap, cur, hv2, hB, hh, -⟩
  · omega
  · have hcell := fun i u hu => World.ownsRow.cells (g := g) h (by rw [hv2]; rfl) i u hu
    injection hv2 with hA
    subst hA
    refine ⟨g, 0, rfl, (Array.getElem?_eq_some_iff.1 hh).1, fun i hi => ?_⟩
    obtain ⟨v, h1, h2⟩ := hq i hi
    refine ⟨v, ?_, h2⟩
    have := hcell i v h1
    rw [add_at] at this
    exact this
theorem row_type {W : World} {B : Nat} {v : Value} {n : Nat} {vs : List Value} (h : W.ownsRow B 22 1 v n vs) : ∀ g, v.ownBlock = some g → B ≤ g ∧ ∃ cur fr, W.heap[g]? = some (.cells cur 22 fr) := by
  intro g hg
  rcases h.2 with ⟨rfl, -⟩ | ⟨g', cap, cur, rfl, hB, hh, -⟩
  · cases hg
  · have e : g' = g := by injection hg
    subst e
    exact ⟨hB, _, _, hh⟩
theorem own_shape {W : World} {B : Nat} {t : TypeId} {k : Nat} {v : Value} {n : Nat} {xs : List Value} (h : W.ownsRow B t k v n xs) : ∃ A c, v = .slice A n c := by
  rcases h.2 with ⟨rfl, h0⟩ | ⟨g, cap, cur, rfl, -⟩
  · exact ⟨none, 0, by rw [h0]⟩
  · exact ⟨_, cap, rfl⟩
set_option maxHeartbeats 16000000 in
theorem conflicts_any (S : Nat → Prop) (OA : Option Addr) (oc : Nat) (l : List OpT) (w : World) (hS : ∀ b, S b → b < w.heap.size) (ho : OpsL w S OA l) (hlen : l.length ≤ 100000) :
    Calls Try.prog 21 #[.slice OA l.length oc] w fun e w' => e = .returned (.bool (confL [] (placesL l))) ∧ Below w.heap.size w w' := by
  have hmf : ∀ (fn : Fn) (first cap : Array Value) (w : World), (Instr.makeFunc fn first cap).run Try.prog w = .ok (.func fn first cap) w := fun _ _ _ _ => rfl
  obtain ⟨b, off, hbo⟩ := ho.at'
  have HS := Lib.hid hS
  have HO := Lib.hid ho
  obtain ⟨r, hr⟩ : ∃ r, r = confL [] (placesL l) := ⟨_, rfl⟩
  rw [← hr]
  have HR := Lib.hid hr
  obtain ⟨n, hn⟩ : ∃ n, n = l.length := ⟨_, rfl⟩
  rw [← hn]
  have HN := Lib.hid hn
  clear hS ho hr hn
  refine (callsIn_wide (n := 8)).1 ?_
  refine callsIn_of_wp_marks Try.func21 rfl trivial ?_ rfl
  simp only [Try.ntmps21, List.size_toArray, List.length_cons, List.length_nil, Nat.reduceAdd, Nat.reduceSub, Array.replicate_succ, Array.replicate_zero, List.push_toArray, List.append_toArray, List.nil_append, List.cons_append]
  gi_wp2
  refine ⟨trivial, ?_⟩
  refine (seq_in Fence.wide 7 trivial rfl _ _ _ _).mono ?_
  rintro e w' ⟨rfl, rfl⟩
  gi_wp2
  have hr1 : (((w.alloc (.cells #[.bool false] 4)).alloc (.cells #[.slice none 0 0] 47)).alloc (.cells #[.slice OA n oc] 33)).heap[w.heap.size]? = some (.cells #[.bool false] 4 (0, 0)) := ((((Below.refl _ _).alloc (Nat.le_refl _) _ : Below (w.alloc (.cells #[.bool false] 4)).heap.size _ _).alloc (by simp) _).block _ (by simp)).trans (heap_alloc_new w _)
  have hr2 : (((w.alloc (.cells #[.bool false] 4)).alloc (.cells #[.slice none 0 0] 47)).alloc (.cells #[.slice OA n oc] 33)).heap[w.heap.size + 1]? = some (.cells #[.slice none 0 0] 47 (0, 0)) := by
    have h1 := heap_alloc_new (w.alloc (.cells #[.bool false] 4)) (.cells #[.slice none 0 0] 47)
    rw [show (w.alloc (.cells #[.bool false] 4)).heap.size = w.heap.size + 1 from by simp] at h1
    exact (((Below.refl _ _).alloc (Nat.le_refl _) _ : Below ((w.alloc (.cells #[.bool false] 4)).alloc (.cells #[.slice none 0 0] 47)).heap.size _ _).block _ (by simp)).trans h1
  have hb3 : Below w.heap.size w (((w.alloc (.cells #[.bool false] 4)).alloc (.cells #[.slice none 0 0] 47)).alloc (.cells #[.slice OA n oc] 33)) := (((Below.refl _ _).alloc (Nat.le_refl _) _).alloc (by simp) _).alloc (by simp; omega) _
  have hz3 : (((w.alloc (.cells #[.bool false] 4)).alloc (.cells #[.slice none 0 0] 47)).alloc (.cells #[.slice OA n oc] 33)).heap.size = w.heap.size + 3 := by simp
  have hs3 : (((w.alloc (.cells #[.bool false] 4)).alloc (.cells #[.slice none 0 0] 47)).alloc (.cells #[.slice OA n oc] 33)).cell? ⟨w.heap.size + 2, 0, none⟩ = some (.slice OA n oc) := by
    have h9 := Go.Joins.cell_of_block (heap_alloc_new ((w.alloc (.cells #[.bool false] 4)).alloc (.cells #[.slice none 0 0] 47)) (.cells #[.slice OA n oc] 33)) 0
    rw [show ((w.alloc (.cells #[.bool false] 4)).alloc (.cells #[.slice none 0 0] 47)).heap.size = w.heap.size + 2 from by simp] at h9
    exact h9
  generalize (((w.alloc (.cells #[.bool false] 4)).alloc (.cells #[.slice none 0 0] 47)).alloc (.cells #[.slice OA n oc] 33)) = w3 at *
  rw [HN.out] at hs3
  have ho3 : OpsL w3 S OA l := HO.out.below' HS.out hb3
  have HO3 := Lib.hid ho3
  have h0 : ConI w w3 b off l [] w3 := ⟨none, 0, hr1, hr2, World.ownsRow_nil _ _ _ _, by omega, hb3, rfl⟩
  have HSb : Hid (∀ b, S b → b < w.heap.size + 3 ∧ ¬ (b = w.heap.size ∨ b = w.heap.size + 1)) := Lib.hid fun b hb => by have := HS.out b hb; omega
  have HSW : Hid (∀ (W : World), Below w.heap.size w W → ∀ b, S b → W.heap[b]? = w3.heap[b]?) := Lib.hid fun W hW b hb => (hW.block b (HS.out b hb)).trans (hb3.block b (HS.out b hb)).symm
  obtain ⟨i0, hi, hz0, hz1, hz2⟩ := info_parts Try.infoStrsR
  clear hr1 hr2 hb3
  refine wpIn_rangeFunc_ownH rfl (by omega) (gf := 62) (lb := #[.pointer (some ⟨w.heap.size + 2, 0, none⟩)]) rfl trivial (enters_of Try.func62 (by kernel_rfl) rfl)
    (places_stops Fence.wide 7 trivial rfl (by omega) (w.heap.size + 2) (w.heap.size + 3) (fun b => b = w.heap.size ∨ b = w.heap.size + 1) S OA oc l b off hbo (by omega) ⟨by omega, by omega⟩ HSb.out w3 (by omega) hs3 ho3) KpO.trans (kpO_b (by omega)) (Below.refl _ _) (fun _ => rfl)
    (ConI w w3 b off l) (ConX w l) (conI_own w w3 b off l _ (by omega)) (fun c => conX_own w l c _ (by omega)) h0
    (ConA (fun gx pv => { tmps := #[.slice OA n oc, undef, .pointer (some ⟨w.heap.size, 0, none⟩), .pointer (some ⟨w.heap.size + 1, 0, none⟩), .pointer (some ⟨gx, 0, none⟩), .slice OA n oc, .func (.func 62) #[] #[.pointer (some ⟨w.heap.size + 1 + 1, 0, none⟩)], pv, undef, undef, undef, undef, undef, undef, undef], defers := [] }) w3 b off) (fun x a' => conA_own _ w3 b off x a' _) ?assign ?body ?done ?stop
  case assign =>
    intro y pre x W K hI hK
    have hlt := seqX_lt l x.2
    obtain rfl := hbo (by omega)
    obtain ⟨PA, pc, hv, -⟩ := plV_is HO3.out x.1 hlt
    have HK := Lib.hid hK
    have HI := Lib.hid hI
    clear hK hI
    have HV := Lib.hid hv
    rw [hv]
    gi_wp2
    have hsz := HI.out
    obtain ⟨A, c, i1, i2, i3, i4, i5, i6⟩ := hsz
    have hbW : Below W.heap.size W (W.alloc (.cells #[.slice PA (plT l x.1).length pc] 22)) := (Below.refl _ _).alloc (Nat.le_refl _) _
    refine HK.out _ _ ((KeepsOthers.alloc W _).from _) (KpO.of_below hbW (by omega)) ⟨A, c, (hbW.block _ (by omega)).trans i1, (hbW.block _ (by omega)).trans i2, ownsRow_grown i3 (World.grownBy_alloc W _ none) (fun r e => by cases e), by have := hbW.size; omega, i5.trans (hbW.mono i5.size), i6⟩ ⟨W.heap.size, ?_, ?_, by omega⟩
    · rw [HV.out]
    · rw [HV.out]; exact heap_alloc_new W _
  case body =>
    rintro y pre x a' W hyl hyr ⟨A, c, i1, i2, i3, i4, i5, i6⟩ ⟨gx, rfl, hgx, hgl⟩ hlen2
    have hlt := seqX_lt l x.2
    obtain rfl := hbo (by omega)
    have hpls : ∀ z : PlX l, SlP W S (plV w3 b off z.1) (plT l z.1) := fun z => by
      obtain ⟨PA, pc, hv, hst, hc, hl⟩ := plV_is HO3.out z.1 (seqX_lt l z.2)
      exact ⟨PA, pc, hv, hst.keep fun k hk => HSW.out W i5 k hk, hc, hl⟩
    have hSW : ∀ b, S b → b < W.heap.size := fun k hk => by have := HS.out k hk; omega
    have hg0 := Go.Joins.cell_of_block hgx 0
    have hlp : (plTs pre).length = pre.length := by simp [plTs]
    have hrow : PlsAt W S A (plTs pre) := row_pls (by rw [hlp]; exact i3) (fun i hi => by
      rw [hlp] at hi
      refine ⟨plV w3 b off pre[i].1, by simp [plVs, hi], ?_⟩
      have := hpls pre[i]
      simpa [plTs] using this)
    have hcs := contSs_any S (plT l x.1) (plV w3 b off x.1) gx A c (plTs pre) W hSW (Array.getElem?_eq_some_iff.1 hgx).1 hg0 (hpls x) hrow (by rw [hlp]; omega)
    rw [hlp] at hcs
    have HC := Lib.hid hcs
    have HPX := Lib.hid (hpls x)
    have HI := Lib.hid (And.intro i1 (And.intro i2 (And.intro i3 (And.intro i4 (And.intro i5 (And.intro i6 (And.intro hgx hgl)))))))
    have y1 := Go.Joins.cell_of_block i2 0
    obtain ⟨PA, pc, hv, -⟩ := hpls x
    have HV := Lib.hid hv
    rw [hv]
    clear i1 i2 i3 i5 i6 hgx hg0 hrow hcs hpls hv
    gi_wp2
    refine ⟨trivial, ?_⟩
    refine (CallsIn.inRound y (callsIn_wide.2 HC.out)).mono ?_
    rintro e W2 ⟨rfl, hb2⟩
    clear y1
    obtain ⟨i1, i2, i3, i4, i5, i6, hgx, hgl⟩ := HI.out
    rw [HV.out] at hgx
    have hb02 := i5.trans (hb2.mono i5.size)
    have hgxl := (Array.getElem?_eq_some_iff.1 hgx).1
    have j1 := (hb2.block _ (by omega)).trans i1
    have j2 := (hb2.block _ (by omega)).trans i2
    have jx := (hb2.block gx hgxl).trans hgx
    have j3 := ownsRow_grown (row := none) i3 ⟨hb2.os, hb2.tape, hb2.output, hb2.size, fun k hk _ => hb2.block k hk⟩ (fun r e => by cases e)
    have hko : KeepsOthers W W2 := KeepsOthers.of_grownBy (row := none) ⟨hb2.os, hb2.tape, hb2.output, hb2.size, fun k hk _ => hb2.block k hk⟩ (fun j o e => by cases e)
    have HJ := Lib.hid (And.intro j1 (And.intro j2 (And.intro j3 (And.intro hb02 (And.intro hko hb2)))))
    have z0 := Go.Joins.cell_of_block j1 0
    have zf := fun i => Go.Joins.unfrozen_of_block j1 i
    have z1 := Go.Joins.cell_of_block j2 0
    have z1f := fun i => Go.Joins.unfrozen_of_block j2 i
    have zx := Go.Joins.cell_of_block jx 0
    have hs2 := hb2.size
    cases hm : (plTs pre).any fun q => meetP (plT l x.1) q
    · have HM := Lib.hid hm
      have hne : ∀ k, k < w.heap.size + 3 → some k ≠ (Value.slice A pre.length c).ownBlock := fun k hk e => by
        have := (row_type j3 k e.symm).1
        omega
      have hjr : ∀ X : Obj, (W2.alloc X).ownsRow (w.heap.size + 3) 22 1 (.slice A pre.length c) pre.length (plVs w3 b off pre) := fun X => ownsRow_grown j3 (World.grownBy_alloc W2 X none) (fun r e => by cases e)
      have hj2 : ∀ (X : Obj) (w4 : World), (W2.alloc X).grownBy w4 (Value.slice A pre.length c).ownBlock → w4.heap[w.heap.size + 1]? = some (.cells #[.slice A pre.length c] 47 (0, 0)) := fun X w4 hg4 =>
        (hg4.block (w.heap.size + 1) (by simp; omega) (hne _ (by omega))).trans ((((Below.refl _ _).alloc (Nat.le_refl _) _ : Below W2.heap.size W2 (W2.alloc X)).block _ (by omega)).trans j2)
      have HNEK := Lib.hid hne
      have HJ2 := Lib.hid hj2
      clear hm HC j1 j2 jx j3 hb02 hko hb2 i1 i2 i3 i5 i6 hgx hne hj2
      gi_wp2_with (gi_at_builtin; refine wpListIn_append_own _ rfl _ _ 47 rfl (w.heap.size + 3) 22 i0 (.slice none 0 0) 1 24 Try.underlying47 hi hz0 hz1 hz2 rfl (by decide) _ pre.length (plVs w3 b off pre) rfl (hjr _) ⟨W2.heap.size, 0, none⟩ 1 1 [.slice PA (plT l x.1).length pc] rfl rfl (cell_one_new _ _ _) (by simp [Value.oneCell']) (by unfold maxLen; omega) (by omega) (by simp; omega) ?_; intro v' w4 hown' hg4 hnil4; obtain ⟨A', c', rfl⟩ := own_shape hown'; have k2 := HJ2.out _ _ hg4; have k2c := Go.Joins.cell_of_block k2 0; have k2f := fun i => Go.Joins.unfrozen_of_block k2 i; have HOW := Lib.hid (And.intro hown' (And.intro hg4 k2)); clear hown' hg4 hnil4 k2)
      obtain ⟨hown', hg4, k2⟩ := HOW.out
      obtain ⟨j1, j2, j3, hb02, hko, hb2⟩ := HJ.out
      obtain ⟨-, -, -, -, -, i6, -, -⟩ := HI.out
      have hal : Below W2.heap.size W2 (W2.alloc (.cells #[.slice PA (plT l x.1).length pc] 22)) := (Below.refl _ _).alloc (Nat.le_refl _) _
      obtain ⟨hbox, hg5, hz5⟩ := one_set k2 (.slice A' (pre.length + 1) c')
      have hsame : ∀ k, k < w.heap.size + 3 → k ≠ w.heap.size + 1 → (w4.setCell ⟨w.heap.size + 1, 0, none⟩ (.slice A' (pre.length + 1) c')).heap[k]? = W2.heap[k]? := fun k hk hn => (hg5.block k (by have := hg4.size; simp at this; omega) (fun e => by injection e; omega)).trans ((hg4.block k (by simp; omega) (HNEK.out k hk)).trans (hal.block k (by omega)))
      have hrt := row_type j3
      have hk4 : KeepsOthers W2 w4 := by
        refine KeepsOthers.trans (KeepsOthers.of_grownBy (row := none) ⟨hal.os, hal.tape, hal.output, hal.size, fun k hk _ => hal.block k hk⟩ (fun j o e => by cases e)) (KeepsOthers.of_grownBy hg4 fun j o e h => ?_)
        obtain ⟨-, cur, fr, hc⟩ := hrt j e
        have h2 := (hal.block j (Array.getElem?_eq_some_iff.1 hc).1).trans hc
        rw [h2] at h
        injection h with h
        rw [← h]; rfl
      have hk5 : KeepsOthers w4 (w4.setCell ⟨w.heap.size + 1, 0, none⟩ (.slice A' (pre.length + 1) c')) := KeepsOthers.of_grownBy hg5 fun j o e h => (by injection e with e; subst e; rw [k2] at h; injection h with h; rw [← h]; rfl)
      have hs4 : W2.heap.size + 1 ≤ w4.heap.size := by have := hg4.size; simpa using this
      have htA : ∀ (k : Nat) (cs : Array Value) (fr : Nat × Nat), W2.heap[k]? = some (.cells cs 27 fr) → (w4.setCell ⟨w.heap.size + 1, 0, none⟩ (.slice A' (pre.length + 1) c')).heap[k]? = some (.cells cs 27 fr) := fun k cs fr hc => by
        have hkl := (Array.getElem?_eq_some_iff.1 hc).1
        refine (hg5.block k (by omega) (fun e => ?_)).trans ((hg4.block k (by simp; omega) (fun e => ?_)).trans ((hal.block k hkl).trans hc))
        · injection e with e
          subst e
          rw [j2] at hc
          injection hc with hc
          injection hc with _ ht _
          exact absurd ht (by decide)
        · obtain ⟨-, cur, fr', hc2⟩ := hrt k e.symm
          rw [hc2] at hc
          injection hc with hc
          injection hc with _ ht _
          exact absurd ht (by decide)
      refine ⟨KeepsOthers.from ((hko.trans hk4).trans hk5) _, ⟨by have := hb2.size; omega, fun k hk hn => (hsame k hk (fun e => hn (.inr e))).trans (hb2.block k (by omega)), fun k cs fr hc => htA k cs fr ((hb2.block k (Array.getElem?_eq_some_iff.1 hc).1).trans hc)⟩, A', c', (hsame _ (by omega) (by omega)).trans j1, ?_, ?_, by omega, ⟨hg5.os.trans (hg4.os.trans (hal.os.trans hb02.os)), hg5.tape.trans (hg4.tape.trans (hal.tape.trans hb02.tape)), hg5.output.trans (hg4.output.trans (hal.output.trans hb02.output)), by have := hb02.size; omega, fun k hk => (hsame k (by omega) (by omega)).trans (hb02.block k hk)⟩, ?_⟩
      · rw [List.length_append, List.length_singleton]; exact hbox
      · rw [List.length_append, List.length_singleton, show plVs w3 b off (pre ++ [x]) = plVs w3 b off pre ++ [.slice PA (plT l x.1).length pc] by simp [plVs, HV.out]]
        obtain ⟨o1, o2⟩ := hown'
        refine ⟨o1, ?_⟩
        rcases o2 with o2 | ⟨g, cap, cur, hv', hB, hh, rr⟩
        · exact Or.inl o2
        · exact Or.inr ⟨g, cap, cur, hv', hB, (hg5.block g (Array.getElem?_eq_some_iff.1 hh).1 (fun e => by injection e; omega)).trans hh, rr⟩
      · rw [show plTs (pre ++ [x]) = plTs pre ++ [plT l x.1] by simp [plTs], confL_snoc, List.nil_append, HM.out, i6]; rfl
    · have HM := Lib.hid hm
      clear hm HC j1 j2 jx j3 hb02 hko hb2 i1 i2 i3 i5 i6 hgx
      gi_wp2
      obtain ⟨j1, j2, j3, hb02, hko, hb2⟩ := HJ.out
      obtain ⟨-, -, -, -, -, i6, -, -⟩ := HI.out
      obtain ⟨hbox, hg5, hz5⟩ := one_set j1 (.bool true)
      refine ⟨KeepsOthers.from (hko.trans (KeepsOthers.of_grownBy hg5 fun j o e h => (by injection e with e; subst e; rw [j1] at h; injection h with h; rw [← h]; rfl))) _, rfl, ?_, hbox, by omega, ⟨hg5.os.trans hb02.os, hg5.tape.trans hb02.tape, hg5.output.trans hb02.output, by have := hg5.size; omega, fun k hk => (hg5.block k (by omega) (fun e => by injection e; omega)).trans (hb02.block k hk)⟩⟩
      rw [show plTs (pre ++ [x]) = plTs pre ++ [plT l x.1] by simp [plTs], confL_snoc, List.nil_append, HM.out, Bool.or_true]
  case done =>
    rintro D ys W hD hys ⟨A, c, i1, i2, i3, i4, i5, i6⟩ hK
    have hf : r = false := by
      rw [HR.out, ← seqX_all, ← hys, ← plTs_eq]
      exact i6
    subst hf
    have y0 := Go.Joins.cell_of_block i1 0
    have yf := fun i => Go.Joins.unfrozen_of_block i1 i
    have HV := Lib.hid (And.intro i1 (And.intro i4 i5))
    have HKD := Lib.hid hK
    clear i1 i2 i3 i4 i5 i6 hK hys
    gi_wp2
    obtain ⟨i1, i2, i3⟩ := HV.out
    obtain ⟨hbox, hg5, hz5⟩ := one_set i1 (.bool false)
    generalize W.setCell ⟨w.heap.size, 0, none⟩ (.bool false) = W5 at *
    have hDW : D < W.heap.size := (Array.getElem?_eq_some_iff.1 HKD.out).1
    have hK5 : W5.heap[D]? = some (.deferred (some [])) := (hg5.block D hDW (fun e => by injection e; omega)).trans HKD.out
    have hg6 := grownBy_putObj' W5 D (.deferred none)
    have hbox6 : (W5.putObj D (.deferred none)).heap[w.heap.size]? = some (.cells #[.bool false] 4 (0, 0)) := (hg6.block _ (by omega) (fun e => by injection e; omega)).trans hbox
    refine ⟨by simp, .inl ⟨_, _, rfl, run_takeDeferred hK5, ?_⟩⟩
    refine ⟨_, results_cell_b rfl _ _ w.heap.size false rfl hbox6, rfl, ?_⟩
    exact ⟨hg6.os.trans (hg5.os.trans i3.os), hg6.tape.trans (hg5.tape.trans i3.tape), hg6.output.trans (hg5.output.trans i3.output), by have := hg6.size; omega, fun b hb => (hg6.block b (by omega) (fun e => by injection e; omega)).trans ((hg5.block b (by omega) (fun e => by injection e; omega)).trans (i3.block b hb))⟩
  case stop =>
    rintro D c' pre W hD ⟨rest, hrest⟩ ⟨rfl, hcf, hbox, h2, h3⟩ hK
    have hf : r = true := by
      rw [HR.out, ← seqX_all, ← hrest, List.map_append, ← plTs_eq]
      exact confL_pre _ _ _ hcf
    subst hf
    have HKD := Lib.hid hK
    have HV := Lib.hid (And.intro hbox (And.intro h2 h3))
    clear hK hcf hrest hbox h2 h3
    gi_wp2
    obtain ⟨hbox, h2, h3⟩ := HV.out
    have hDW : D < W.heap.size := (Array.getElem?_eq_some_iff.1 HKD.out).1
    have hg6 := grownBy_putObj' W D (.deferred none)
    have hbox6 := (hg6.block w.heap.size (by omega) (fun e => by injection e; omega)).trans hbox
    refine ⟨by simp, .inl ⟨_, _, rfl, run_takeDeferred HKD.out, ?_⟩⟩
    refine ⟨_, results_cell_b rfl _ _ w.heap.size true rfl hbox6, rfl, ?_⟩
    exact ⟨hg6.os.trans h3.os, hg6.tape.trans h3.tape, hg6.output.trans h3.output, by have := hg6.size; omega, fun b hb => (hg6.block b (by omega) (fun e => by injection e; omega)).trans (h3.block b hb)⟩
end Go.Proofs.Ytipiplnhbecjeaa

/- What keeps an update from being one, by the program. -/
namespace Go.Proofs.Ytipiplnhbecjeaa
set_option linter.unusedVariables false
set_option linter.unusedSimpArgs false
open Go.RowKit
set_option maxRecDepth 100000
theorem mayP_pos {p : List ByteArray} (h : mayP p = true) : 0 < p.length := by
  unfold mayP at h
  simp at h
  omega
theorem formed_places {s : SpecT} (h : formedS s = true) : s.ops.length ≤ 16 ∧ ∀ p ∈ placesL s.ops, 0 < p.length := by
  unfold formedS at h
  cases hr : s.rep
  · rw [hr] at h
    simp only [Bool.false_eq_true, if_false, Bool.and_eq_true, decide_eq_true_eq] at h
    exact ⟨h.1.2, fun p hp => mayP_pos (all_places h.2 p hp)⟩
  · rw [hr] at h
    simp only [if_true, Bool.and_eq_true, decide_eq_true_eq] at h
    have h0 : s.ops = [] := List.eq_nil_of_length_eq_zero h.1.1
    rw [h0]
    exact ⟨by simp, fun p hp => by simp [placesL] at hp⟩
set_option maxHeartbeats 8000000 in
theorem spcheck_any (S : Nat → Prop) (s : SpecT) (cs : Array Value) (w : World) (hS : ∀ b, S b → b < w.heap.size) (h : SpecL w S s cs) (hd : SmallS s) :
    Calls Try.prog 7 #[.agg cs] w fun e w' => e = .returned (.int .i64 (checkS s)) ∧ Below w.heap.size w w' := by
  have HL := Lib.hid h
  obtain ⟨DA, dc, DA', dc', OA, oc, rfl, hv, ho, hoc, hol⟩ := h
  obtain ⟨w1, hw1⟩ : ∃ W, W = w.alloc (.cells #[.bool s.rep, .int .i64 s.doc.kind, .int .i64 s.doc.num, .string s.doc.text, .slice DA s.doc.items.length dc, .slice DA' s.doc.names.length dc', .slice OA s.ops.length oc] 35) := ⟨_, rfl⟩
  have hbk : SBox w1 w.heap.size s DA dc DA' dc' OA oc := by rw [hw1]; exact heap_alloc_new w _
  have hb1 : Below w.heap.size w w1 := by rw [hw1]; exact (Below.refl _ _).alloc (Nat.le_refl _) _
  have hS1 : ∀ b, S b → b < w1.heap.size := fun b hb => Nat.lt_of_lt_of_le (hS b hb) hb1.size
  have y0 := Go.Joins.cell_of_block hbk 0
  have y1 := Go.Joins.cell_of_block hbk 1
  have y2 := Go.Joins.cell_of_block hbk 2
  have y3 := Go.Joins.cell_of_block hbk 3
  have y4 := Go.Joins.cell_of_block hbk 4
  have y5 := Go.Joins.cell_of_block hbk 5
  have y6 := Go.Joins.cell_of_block hbk 6
  have HF := Lib.hid (formed_any S s _ w1 hS1 (HL.out.below hS hb1) hd)
  have HB1 := Lib.hid hb1
  have HBK := Lib.hid hbk
  have HO := Lib.hid ho
  have HS := Lib.hid hS
  obtain ⟨r, hr⟩ : ∃ r, r = checkS s := ⟨_, rfl⟩
  have HR := Lib.hid hr
  rw [← hr]
  have HW1 := Lib.hid hw1
  clear hbk hb1 hS1 hv ho hoc hol hd hS hr
  go_enter Try.func7, Try.ntmps7
  go_wp2_with fail
  rw [← hw1]
  clear hw1
  refine HF.out.mono ?_
  rintro e w2 ⟨rfl, hb2⟩
  have HB2 := Lib.hid (HB1.out.trans (hb2.mono HB1.out.size))
  have hbk2 := HBK.out.below hb2
  have HBK2 := Lib.hid hbk2
  clear hb2 HF y0 y1 y2 y3 y4 y5 y6
  cases hf : formedS s
  · have HE : Hid (checkS s = 72) := Lib.hid (by unfold checkS; rw [hf]; rfl)
    clear hf
    go_wp2_with fail
    go_ret
    exact ⟨by rw [HR.out, HE.out]; rfl, HB2.out⟩
  obtain ⟨hl16, hpp⟩ := formed_places hf
  have HFF := Lib.hid hf
  have HT := Lib.hid (touches_any S s _ w2 (fun b hb => Nat.lt_of_lt_of_le (HS.out b hb) HB2.out.size) (HL.out.below HS.out HB2.out) hpp)
  have y0 := Go.Joins.cell_of_block hbk2 0
  have y1 := Go.Joins.cell_of_block hbk2 1
  have y2 := Go.Joins.cell_of_block hbk2 2
  have y3 := Go.Joins.cell_of_block hbk2 3
  have y4 := Go.Joins.cell_of_block hbk2 4
  have y5 := Go.Joins.cell_of_block hbk2 5
  have y6 := Go.Joins.cell_of_block hbk2 6
  clear hf hbk2 hpp
  go_wp2_with fail
  refine HT.out.mono ?_
  rintro e w3 ⟨rfl, hb3⟩
  have HB3 := Lib.hid (HB2.out.trans (hb3.mono HB2.out.size))
  have hbk3 := HBK2.out.below hb3
  clear hb3 HT y0 y1 y2 y3 y4 y5 y6
  cases ht : touchesS s
  rotate_left
  · have HE : Hid (checkS s = 70) := Lib.hid (by unfold checkS; rw [HFF.out, ht]; rfl)
    clear ht hbk3
    go_wp2_with fail
    go_ret
    exact ⟨by rw [HR.out, HE.out]; rfl, HB3.out⟩
  have HTT := Lib.hid ht
  have HC := Lib.hid (conflicts_any S OA oc s.ops w3 (fun b hb => Nat.lt_of_lt_of_le (HS.out b hb) HB3.out.size) (HO.out.below' HS.out HB3.out) (by omega))
  have y6 := Go.Joins.cell_of_block hbk3 6
  clear ht hbk3
  go_wp2_with fail
  refine HC.out.mono ?_
  rintro e w4 ⟨rfl, hb4⟩
  have HB4 := Lib.hid (HB3.out.trans (hb4.mono HB3.out.size))
  clear hb4 HC y6
  cases hc : confL [] (placesL s.ops)
  · have HE : Hid (checkS s = 0) := Lib.hid (by unfold checkS; rw [HFF.out, HTT.out, hc]; rfl)
    clear hc
    go_wp2_with fail
    go_ret
    exact ⟨by rw [HR.out, HE.out]; rfl, HB4.out⟩
  · have HE : Hid (checkS s = 71) := Lib.hid (by unfold checkS; rw [HFF.out, HTT.out, hc]; rfl)
    clear hc
    go_wp2_with fail
    go_ret
    exact ⟨by rw [HR.out, HE.out]; rfl, HB4.out⟩
end Go.Proofs.Ytipiplnhbecjeaa
