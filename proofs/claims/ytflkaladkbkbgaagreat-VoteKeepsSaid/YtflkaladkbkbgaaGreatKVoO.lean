/- The library's Backward over rows of bytes: for every loop body. -/
import Derived.Test.YtflkaladkbkbgaaGreatKVoM
namespace Go.Proofs.YtflkaladkbkbgaaGreat
set_option linter.unusedVariables false
set_option linter.unusedSimpArgs false
open Go.RowKit Go.Shelf
attribute [local go_sem] Oper.semAt_some
set_option maxRecDepth 100000
/-- A row's values: slices. -/
def slv (x : Option Addr × Nat × Nat) : Value := .slice x.1 x.2.1 x.2.2
def SlsAt (w : World) (S : Nat → Prop) (A : Option Addr) (xs : List (Option Addr × Nat × Nat)) : Prop :=
  0 < xs.length → ∃ b off, A = some ⟨b, off, none⟩ ∧ S b ∧ ∀ i (h : i < xs.length), w.cell? ⟨b, off + i, none⟩ = some (slv xs[i])
theorem SlsAt.keep {w w' : World} {S : Nat → Prop} {A : Option Addr} {xs : List (Option Addr × Nat × Nat)} (h : SlsAt w S A xs) (hk : ∀ b, S b → w'.heap[b]? = w.heap[b]?) : SlsAt w' S A xs := fun hp => by
  obtain ⟨b, off, h1, h2, h3⟩ := h hp
  exact ⟨b, off, h1, h2, fun i hi => (World.cell?_of_block (a := ⟨b, off + i, none⟩) (hk b h2)).trans (h3 i hi)⟩
def KpL (bx m : Nat) (W W' : World) : Prop := W.heap.size ≤ W'.heap.size ∧ ∀ b, b < m → b ≠ bx → W'.heap[b]? = W.heap[b]?
theorem KpL.refl (bx m : Nat) (W : World) : KpL bx m W W := ⟨Nat.le_refl _, fun _ _ _ => rfl⟩
theorem KpL.trans {bx m : Nat} {A B C : World} (h : KpL bx m A B) (k : KpL bx m B C) : KpL bx m A C := ⟨Nat.le_trans h.1 k.1, fun b hb hx => (k.2 b hb hx).trans (h.2 b hb hx)⟩
theorem kpL_b {bx m : Nat} {w : World} (hn : m ≤ w.heap.size) (W : World) (l : Nat) (o o' : Obj) (hl : w.heap.size ≤ l) (h : W.heap[l]? = some o) (_ : o.isCells = false) (_ : o.isWalk = false) : KpL bx m W (W.putObj l o') :=
  ⟨(grownBy_putObj' W l o').size, fun b hb _ => (grownBy_putObj' W l o').block b (by have := (Array.getElem?_eq_some_iff.1 h).1; omega) (fun e => by injection e with e; omega)⟩
/-- The places that have come behind k rounds. (An element is named by its place: so whatever comes is one of the row's, or nothing.) -/
def upL (n k : Nat) : List Nat := (List.range k).map fun j => n - 1 - j
theorem upL_succ (n k : Nat) : upL n (k + 1) = upL n k ++ [n - 1 - k] := by simp [upL, List.range_succ]
theorem upL_length (n k : Nat) : (upL n k).length = k := by simp [upL]
def atL (zs : List (Option Addr × Nat × Nat)) (i : Nat) : Option Addr × Nat × Nat := zs[i]?.getD (none, 0, 0)
set_option maxHeartbeats 2000000 in
theorem backL_in (F : Fence) (n : Nat) (hf : F.fn 85) (hro : F.round = none) (hn : 1 ≤ n) (l Bs bx m : Nat) (S : Nat → Prop) (A : Option Addr) (c : Nat) (zs : List (Option Addr × Nat × Nat)) (hlen : zs.length ≤ 9223372036854775807) (hBs : Bs < m ∧ Bs ≠ bx) (hS : ∀ b, S b → b < m ∧ b ≠ bx) (J Jx : List Nat → World → Prop)
    (hY : ∀ pre (x : Nat) W, J pre W → pre.length < zs.length → YieldAt F (n - 1) Tryz.prog l #[.int .i64 (x : Int), slv (atL zs x)] W fun e W' =>
      (e = .returned (.bool true) ∧ J (pre ++ [x]) W' ∧ KpL bx m W W') ∨ (e = .returned (.bool false) ∧ Jx (pre ++ [x]) W'))
    (W : World) (hc : W.cell? ⟨Bs, 0, none⟩ = some (.slice A zs.length c)) (hst : SlsAt W S A zs) (h0 : J [] W) :
    CallsIn F n Tryz.prog 85 #[.func (.yield l) #[] #[], .pointer (some ⟨Bs, 0, none⟩)] W fun e W' => (∃ v, e = .returned v) ∧
      ((∃ ys, ys = upL zs.length zs.length ∧ J ys W') ∨ (∃ pre, (∃ k, k ≤ zs.length ∧ pre = upL zs.length k) ∧ Jx pre W')) := by
  have HST := Lib.hid hst
  clear hst
  refine callsIn_of_wp Tryz.func85 rfl hf ?_ hro
  simp only [Tryz.ntmps85, List.size_toArray, List.length_cons, List.length_nil, Nat.reduceAdd, Nat.reduceSub, Array.replicate_succ, Array.replicate_zero, List.push_toArray, List.append_toArray, List.nil_append, List.cons_append]
  gi_wp2
  gi_loopw [3] (fun i wr => ∃ (k : Nat) (P : Int), k ≤ zs.length ∧ Hid (P = (zs.length : Int) - 1 - k) ∧ i = .int .i64 P ∧ J (upL zs.length k) wr ∧ Hid (KpL bx m W wr))
    (fun i _ => (intOf i + 1).toNat)
  case atStart => exact ⟨0, (zs.length : Int) - 1, Nat.zero_le _, Lib.hid (by omega), rfl, h0, Lib.hid (KpL.refl _ _ _)⟩
  case round =>
    obtain ⟨k, P, hk, HP, rfl, hJs, HK⟩ := hrel
    by_cases hlt : k < zs.length
    · obtain ⟨q, rfl⟩ : ∃ q : Nat, P = q := ⟨P.toNat, by have := HP.out; omega⟩
      have hq : zs.length - 1 - k = q := by have := HP.out; omega
      have hql : q < zs.length := by omega
      obtain ⟨b, off, rfl, hb, hx⟩ := HST.out (by omega)
      have hcx : wr.cell? ⟨b, off + q, none⟩ = some (slv zs[q]) := (World.cell?_of_block (a := ⟨b, off + q, none⟩) (HK.out.2 b (hS b hb).1 (hS b hb).2)).trans (hx q hql)
      have hcb : wr.cell? ⟨Bs, 0, none⟩ = some (.slice (some ⟨b, off, none⟩) zs.length c) := (World.cell?_of_block (a := ⟨Bs, 0, none⟩) (HK.out.2 Bs hBs.1 hBs.2)).trans hc
      obtain ⟨s, hs⟩ : ∃ s, s = zs[q] := ⟨_, rfl⟩
      have hge : decide (0 ≤ (q : Int)) = true := decide_eq_true (by omega)
      obtain ⟨fn, tmps, assign, body, hy, hR⟩ := hY _ q wr hJs (by rw [upL_length]; exact hlt)
      try dsimp only at hy
      have HU : Hid (upL zs.length (k + 1) = upL zs.length k ++ [q]) := Lib.hid (by rw [upL_succ, hq])
      have hat : atL zs q = s := by unfold atL; rw [hs, List.getElem?_eq_getElem hql]; rfl
      rw [hat] at hy
      rw [← hs] at hcx
      clear hx hs hJs hat
      obtain ⟨s1, s2, s3⟩ := s
      unfold slv at hcx hy
      dsimp only at hcx hy
      gi_wp2
      refine hR.mono ?_
      rintro e W3 (⟨rfl, hJ3, hk3⟩ | ⟨rfl, hJx3⟩)
      · gi_wp2
        go_roundw
        case rel => exact ⟨k + 1, (q : Int) - 1, by omega, Lib.hid (by have := HP.out; omega), by first | rfl | go_num, by rw [HU.out]; exact hJ3, Lib.hid (HK.out.trans hk3)⟩
        case measure => simp [intOf]
      · gi_wp2
        refine bodyPost_ret (results_none rfl _ _ _) rfl ?_
        exact ⟨⟨_, rfl⟩, .inr ⟨_, ⟨k + 1, by omega, HU.out.symm⟩, hJx3⟩⟩
    · obtain rfl : k = zs.length := by omega
      have hge : decide (0 ≤ P) = false := decide_eq_false (by have := HP.out; omega)
      gi_wp2
      go_end0
      exact ⟨⟨_, rfl⟩, .inl ⟨_, rfl, hJs⟩⟩
theorem backL_stops (F : Fence) (n : Nat) (hf : F.fn 85) (hro : F.round = none) (hn : 1 ≤ n) (Bs bx m : Nat) (S : Nat → Prop) (A : Option Addr) (c : Nat) (zs : List (Option Addr × Nat × Nat)) (hlen : zs.length ≤ 9223372036854775807) (hBs : Bs < m ∧ Bs ≠ bx) (hS : ∀ b, S b → b < m ∧ b ≠ bx) (w : World) (hm : m ≤ w.heap.size) (hc : w.cell? ⟨Bs, 0, none⟩ = some (.slice A zs.length c)) (hst : SlsAt w S A zs) :
    SeqStopsK F n Tryz.prog 85 #[.pointer (some ⟨Bs, 0, none⟩)] (fun x : Nat => #[Value.int .i64 (x : Int), slv (atL zs x)]) (KpL bx m) (fun ys => ys = upL zs.length zs.length) (fun pre => ∃ k, k ≤ zs.length ∧ pre = upL zs.length k) zs.length w := fun l J Jx W hW _ _ hY h0 =>
  backL_in F n hf hro hn l Bs bx m S A c zs hlen hBs hS J Jx hY W ((hW.cell (p := ⟨Bs, 0, none⟩) (Nat.lt_of_lt_of_le hBs.1 hm)).trans hc) (hst.keep fun b hb => hW.block b (Nat.lt_of_lt_of_le (hS b hb).1 hm)) h0
end Go.Proofs.YtflkaladkbkbgaaGreat

/- The last ballot of any frames. -/
namespace Go.Proofs.YtflkaladkbkbgaaGreat
set_option linter.unusedVariables false
set_option linter.unusedSimpArgs false
open Go.RowKit Go.Shelf
attribute [local go_sem] Oper.semAt_some
set_option maxRecDepth 100000
/-- The last of the bodies that is a ballot. -/
def lastB (ls : List (List UInt8)) : Int × Int := match ls.reverse.find? readOk with
  | some b => (readBt b, readBn b)
  | none => (0, -1)
def bodyAt (ls : List (List UInt8)) (x : Nat) : List UInt8 := ls[x]?.getD []
theorem lastB_none (ls : List (List UInt8)) (h : ∀ x, x < ls.length → readOk (bodyAt ls x) = false) : lastB ls = (0, -1) := by
  have h1 : ls.reverse.find? readOk = none := by
    rw [List.find?_eq_none]
    intro b hb
    obtain ⟨x, hx, rfl⟩ := List.getElem_of_mem (List.mem_reverse.1 hb)
    have := h x hx
    unfold bodyAt at this
    rw [List.getElem?_eq_getElem hx] at this
    simpa using this
  unfold lastB
  rw [h1]
theorem lastB_some (ls : List (List UInt8)) (k : Nat) (hk : k < ls.length) (h : readOk (bodyAt ls (ls.length - 1 - k)) = true) (h0 : ∀ j, j < k → readOk (bodyAt ls (ls.length - 1 - j)) = false) :
    lastB ls = (readBt (bodyAt ls (ls.length - 1 - k)), readBn (bodyAt ls (ls.length - 1 - k))) := by
  have hx : ls.length - 1 - k < ls.length := by omega
  have e1 : ∀ j, j < ls.length → bodyAt ls (ls.length - 1 - j) = ls.reverse[j]?.getD [] := fun j hj => by
    unfold bodyAt
    rw [List.getElem?_reverse hj]
  have h1 : ls.reverse.find? readOk = some (bodyAt ls (ls.length - 1 - k)) := by
    rw [List.find?_eq_some_iff_getElem]
    refine ⟨h, k, by simpa using hk, ?_, fun j hj => ?_⟩
    · rw [e1 k hk, List.getElem?_eq_getElem (by simpa using hk)]; rfl
    · have h2 := h0 j hj
      rw [e1 j (by omega), List.getElem?_eq_getElem (by simp; omega)] at h2
      simp only [Option.getD_some] at h2
      rw [h2]; rfl
  unfold lastB
  rw [h1]
/-- A row of bodies as triples. -/
theorem bss_sls {w : World} {B : Nat} {A : Option Addr} {ls : List (List UInt8)} (h : BssAt w B A ls) :
    ∃ zs : List (Option Addr × Nat × Nat), zs.length = ls.length ∧ SlsAt w (fun b => b < B) A zs ∧ ∀ x, Rd w B (slv (atL zs x)) (bodyAt ls x) := by
  by_cases hp : 0 < ls.length
  · obtain ⟨b, off, hA, hb, hc⟩ := h hp
    have hz : ∀ i : Fin ls.length, ∃ z : Option Addr × Nat × Nat, w.cell? ⟨b, off + i, none⟩ = some (slv z) ∧ Rd w B (slv z) ls[i] := fun i => by
      obtain ⟨v, h1, h2⟩ := hc i i.2
      obtain ⟨A', c', rfl⟩ := h2.shapeY
      exact ⟨(A', ls[i].length, c'), h1, h2⟩
    refine ⟨List.ofFn fun i => Classical.choose (hz i), by simp, ?_, ?_⟩
    · intro _
      refine ⟨b, off, hA, hb, fun i hi => ?_⟩
      have hi' : i < ls.length := by simpa using hi
      rw [List.getElem_ofFn]
      exact (Classical.choose_spec (hz ⟨i, hi'⟩)).1
    · intro x
      by_cases hx : x < ls.length
      · have e1 : atL (List.ofFn fun i => Classical.choose (hz i)) x = Classical.choose (hz ⟨x, hx⟩) := by
          unfold atL
          rw [List.getElem?_eq_getElem (by simpa using hx), List.getElem_ofFn]; rfl
        have e2 : bodyAt ls x = ls[x] := by unfold bodyAt; rw [List.getElem?_eq_getElem hx]; rfl
        rw [e1, e2]
        exact (Classical.choose_spec (hz ⟨x, hx⟩)).2
      · have e1 : atL (List.ofFn fun i => Classical.choose (hz i)) x = (none, 0, 0) := by
          unfold atL
          rw [List.getElem?_eq_none (by simpa using hx)]; rfl
        have e2 : bodyAt ls x = [] := by unfold bodyAt; rw [List.getElem?_eq_none (by omega)]; rfl
        rw [e1, e2]
        exact rd_nil w B
  · have hn : ls = [] := List.eq_nil_of_length_eq_zero (by omega)
    subst hn
    exact ⟨[], rfl, fun hp => absurd hp (by simp), fun x => by simp [atL, bodyAt, slv]; exact rd_nil w B⟩
def LastJ (w : World) (ls : List (List UInt8)) (pre : List Nat) (W : World) : Prop := W.heap[w.heap.size]? = some (.cells #[.int .i64 0, .int .i64 0] 51 (0, 0)) ∧ w.heap.size + 2 ≤ W.heap.size ∧ Below w.heap.size w W ∧ ∀ x ∈ pre, readOk (bodyAt ls x) = false
def LastX (w : World) (ls : List (List UInt8)) (c : Code) (pre : List Nat) (W : World) : Prop := c = .ret ∧ ∃ pre' x, pre = pre' ++ [x] ∧ (∀ y ∈ pre', readOk (bodyAt ls y) = false) ∧ readOk (bodyAt ls x) = true ∧
  W.heap[w.heap.size]? = some (.cells #[.int .i64 (readBt (bodyAt ls x)), .int .i64 (readBn (bodyAt ls x))] 51 (0, 0)) ∧ w.heap.size + 2 ≤ W.heap.size ∧ Below w.heap.size w W
theorem lastJ_own (w : World) (ls : List (List UInt8)) (B : Nat) (hB : w.heap.size + 2 ≤ B) : OwnFrom B (LastJ w ls) := by
  rintro pre W W' row ⟨h1, h2, h3, h4⟩ hg hr
  exact ⟨(grownBy_keeps_cells hg (fun r e => (hr r e).2) h1 rfl).trans h1, Nat.le_trans h2 hg.size, h3.grown hg h3.size (fun k e => Nat.le_trans (by omega) (hr k e).1), h4⟩
theorem lastX_own (w : World) (ls : List (List UInt8)) (c : Code) (B : Nat) (hB : w.heap.size + 2 ≤ B) : OwnFrom B (LastX w ls c) := by
  rintro pre W W' row ⟨h0, pre', x, e, h4, h5, h1, h2, h3⟩ hg hr
  exact ⟨h0, pre', x, e, h4, h5, (grownBy_keeps_cells hg (fun r e => (hr r e).2) h1 rfl).trans h1, Nat.le_trans h2 hg.size, h3.grown hg h3.size (fun k e => Nat.le_trans (by omega) (hr k e).1)⟩
theorem upL_mem {n k x : Nat} : x ∈ upL n k ↔ ∃ j, j < k ∧ x = n - 1 - j := by
  unfold upL
  simp [eq_comm]
set_option maxHeartbeats 8000000 in
theorem lastOf_any (A : Option Addr) (c : Nat) (ls : List (List UInt8)) (w : World) (hbs : BssAt w w.heap.size A ls) (hn : ls.length ≤ 1000000) (hl : ∀ x, (bodyAt ls x).length ≤ 65536) :
    Calls Tryz.prog 38 #[.slice A ls.length c] w fun e w' => e = .returned (bv (lastB ls).1 (lastB ls).2) ∧ Below w.heap.size w w' := by
  obtain ⟨zs, hzl, hsl, hrd⟩ := bss_sls hbs
  rw [← hzl]
  have hn' : zs.length ≤ 9223372036854775807 := by omega
  have hB1 : Below w.heap.size w (w.alloc (.cells #[.int .i64 0, .int .i64 0] 51)) := two_below w _
  have hX1 : (w.alloc (.cells #[.int .i64 0, .int .i64 0] 51)).heap[w.heap.size]? = some (.cells #[.int .i64 0, .int .i64 0] 51 (0, 0)) := heap_alloc_new w _
  have HSL := Lib.hid hsl
  have HRD := Lib.hid hrd
  have HL := Lib.hid hl
  have HN := Lib.hid hn
  have HZL := Lib.hid hzl
  obtain ⟨⟨l1, l2⟩, hlb⟩ : ∃ lb, lb = lastB ls := ⟨_, rfl⟩
  rw [← hlb]
  have HLB := Lib.hid hlb
  clear hbs hsl hrd hl hn hzl hlb
  dsimp only
  refine (callsIn_wide (n := 8)).1 ?_
  refine callsIn_of_wp_marks Tryz.func38 rfl trivial ?_ rfl
  simp only [Tryz.ntmps38, List.size_toArray, List.length_cons, List.length_nil, Nat.reduceAdd, Nat.reduceSub, Array.replicate_succ, Array.replicate_zero, List.push_toArray, List.append_toArray, List.nil_append, List.cons_append]
  gi_wp2
  refine ⟨trivial, ?_⟩
  refine (backN0_in Fence.wide 7 trivial rfl _ _ _ _).mono ?_
  rintro e w' ⟨rfl, rfl⟩
  gi_wp2
  have hX2 : ((w.alloc (.cells #[.int .i64 0, .int .i64 0] 51)).alloc (.cells #[.slice A zs.length c] 39)).heap[w.heap.size]? = some (.cells #[.int .i64 0, .int .i64 0] 51 (0, 0)) := ((two_below _ _).block _ (by simp)).trans hX1
  have hB2 : Below w.heap.size w ((w.alloc (.cells #[.int .i64 0, .int .i64 0] 51)).alloc (.cells #[.slice A zs.length c] 39)) := below_two w _ _
  have hz2 : ((w.alloc (.cells #[.int .i64 0, .int .i64 0] 51)).alloc (.cells #[.slice A zs.length c] 39)).heap.size = w.heap.size + 2 := by simp
  have hs2 : ((w.alloc (.cells #[.int .i64 0, .int .i64 0] 51)).alloc (.cells #[.slice A zs.length c] 39)).cell? ⟨w.heap.size + 1, 0, none⟩ = some (.slice A zs.length c) := by
    have h9 := Go.Joins.cell_of_block (heap_alloc_new (w.alloc (.cells #[.int .i64 0, .int .i64 0] 51)) (.cells #[.slice A zs.length c] 39)) 0
    rw [show (w.alloc (.cells #[.int .i64 0, .int .i64 0] 51)).heap.size = w.heap.size + 1 from by simp] at h9
    exact h9
  generalize (w.alloc (.cells #[.int .i64 0, .int .i64 0] 51)).alloc (.cells #[.slice A zs.length c] 39) = w2 at *
  have h0 : LastJ w ls [] w2 := ⟨hX2, by omega, hB2, fun x hx => by cases hx⟩
  have hst2 : SlsAt w2 (fun b => b < w.heap.size) A zs := HSL.out.keep fun b hb => hB2.block b hb
  clear hX1 hB1 hX2 hB2
  refine wpIn_rangeFunc_ownF rfl (by omega) (gf := 85) (lb := #[.pointer (some ⟨w.heap.size + 1, 0, none⟩)]) rfl trivial (enters_of Tryz.func85 (by kernel_rfl) rfl)
    (backL_stops Fence.wide 7 trivial rfl (by omega) (w.heap.size + 1) w.heap.size (w.heap.size + 2) (fun b => b < w.heap.size) A c zs hn' ⟨by omega, by omega⟩ (fun b hb => ⟨by omega, by omega⟩) w2 (by omega) hs2 hst2) KpL.trans (kpL_b (by omega)) (Below.refl _ _) (fun _ => rfl)
    (LastJ w ls) (LastX w ls) (lastJ_own w ls _ (by omega)) (fun c => lastX_own w ls c _ (by omega)) h0
    (fun q => { tmps := #[.slice A zs.length c, undef, .pointer (some ⟨w.heap.size, 0, none⟩), undef, slv (atL zs q), undef, undef, .slice A zs.length c, .func (.func 85) #[] #[.pointer (some ⟨w.heap.size + 1, 0, none⟩)], .int .i64 (q : Int), slv (atL zs q), undef, undef, undef, undef, undef, undef, undef, undef], defers := [] }) ?assign ?body ?done ?stop
  case assign =>
    intro l q W K hK
    gi_wp2
    exact hK
  case body =>
    rintro l pre q W ⟨i1, i2, i3, i4⟩ hlen
    have HC := Lib.hid (read_bal (slv (atL zs q)) (bodyAt ls q) W (((HRD.out q).keep i3).upY i3.size) (by have := HL.out q; omega))
    obtain ⟨b, hb⟩ : ∃ b, b = bodyAt ls q := ⟨_, rfl⟩
    have HBQ := Lib.hid hb
    rw [← hb] at HC
    have I1 := Lib.hid (And.intro i1 (And.intro i2 (And.intro i3 i4)))
    obtain ⟨s, hs⟩ : ∃ s, s = atL zs q := ⟨_, rfl⟩
    rw [← hs] at HC ⊢
    obtain ⟨s1, s2, s3⟩ := s
    unfold slv at HC ⊢
    dsimp only at HC ⊢
    clear i1 i2 i3 i4 hb hs hlen
    obtain ⟨t, ht⟩ : ∃ t, t = readBt b := ⟨_, rfl⟩
    obtain ⟨u, hu⟩ : ∃ u, u = readBn b := ⟨_, rfl⟩
    have HTU := Lib.hid (And.intro ht hu)
    rw [← ht, ← hu] at HC
    clear ht hu
    gi_wp2
    refine ⟨trivial, ?_⟩
    refine (CallsIn.inRound l (callsIn_wide.2 HC.out)).mono ?_
    rintro e W2 ⟨rfl, hb2⟩
    unfold bv
    have HB2 := Lib.hid hb2
    clear hb2 HC
    have hb3 : Below W2.heap.size W2 (W2.alloc (.cells #[.int .i64 t, .int .i64 u] 51)) := two_below W2 _
    have hsW : w.heap.size < W2.heap.size := by have := I1.out.2.1; have := HB2.out.size; omega
    have hk3 := (hb3.block w.heap.size hsW).trans ((HB2.out.block w.heap.size (by have := I1.out.2.1; omega)).trans I1.out.1)
    cases hok : readOk b
    · have HOK := Lib.hid hok
      have HB3 := Lib.hid hb3
      clear hok hb3 hk3
      gi_wp2
      have hbb := HB2.out.trans (HB3.out.mono HB2.out.size)
      obtain ⟨j1, j2, j3, j4⟩ := I1.out
      refine ⟨KeepsOthers.of_grownBy (row := none) ⟨hbb.os, hbb.tape, hbb.output, hbb.size, fun k hk _ => hbb.block k hk⟩ (fun j o e => by cases e), ⟨hbb.size, fun b hb _ => hbb.block b (by omega)⟩, (hbb.block _ (by omega)).trans j1, Nat.le_trans j2 hbb.size, j3.trans (hbb.mono j3.size), fun x hx => ?_⟩
      rcases List.mem_append.1 hx with h | h
      · exact j4 x h
      · rw [List.mem_singleton.1 h, ← HBQ.out]; exact HOK.out
    · have HOK := Lib.hid hok
      have y0 := Go.Joins.cell_of_block hk3 0
      have y1 := Go.Joins.cell_of_block hk3 1
      have yf := fun i => Go.Joins.unfrozen_of_block hk3 i
      have HB3 := Lib.hid hb3
      have HK3 := Lib.hid hk3
      have HSW := Lib.hid hsW
      clear hok hb3 hk3 hsW
      gi_wp2
      obtain ⟨hbox, hg5, hz5⟩ := two_set (i := 0) (j := 1) HK3.out (.int .i64 t) (.int .i64 u)
      have hbb := HB2.out.trans (HB3.out.mono HB2.out.size)
      obtain ⟨j1, j2, j3, j4⟩ := I1.out
      have hsz := HSW.out
      refine ⟨(KeepsOthers.of_grownBy (row := none) ⟨hbb.os, hbb.tape, hbb.output, hbb.size, fun k hk _ => hbb.block k hk⟩ (fun j o e => by cases e)).trans (KeepsOthers.of_grownBy hg5 fun j o e h => by injection e with e; subst e; rw [HK3.out] at h; injection h with h; rw [← h]; rfl), rfl, pre, q, rfl, j4, by rw [← HBQ.out]; exact HOK.out, ?_, ?_, ?_⟩
      · rw [← HBQ.out, ← HTU.out.1, ← HTU.out.2]; exact hbox
      · have := hbb.size; omega
      · have hs := hbb.size
        exact ⟨hg5.os.trans (hbb.os.trans j3.os), hg5.tape.trans (hbb.tape.trans j3.tape), hg5.output.trans (hbb.output.trans j3.output), by have := hg5.size; omega, fun k hk => (hg5.block k (by omega) (fun e => by injection e; omega)).trans ((hbb.block k (by omega)).trans (j3.block k hk))⟩
  case done =>
    rintro D ys W hD rfl ⟨i1, i2, i3, i4⟩ hK
    have hlb : lastB ls = (0, -1) := lastB_none ls fun x hx => i4 x (upL_mem.2 ⟨zs.length - 1 - x, by have := HZL.out; omega, by have := HZL.out; omega⟩)
    rw [← HLB.out] at hlb
    injection hlb with e1 e2
    subst e1 e2
    have y0 := Go.Joins.cell_of_block i1 0
    have y1 := Go.Joins.cell_of_block i1 1
    have yf := fun i => Go.Joins.unfrozen_of_block i1 i
    have HV := Lib.hid (And.intro i1 (And.intro i2 i3))
    have HKD := Lib.hid hK
    clear i1 i2 i3 i4 hK
    gi_wp2
    obtain ⟨i1, i2, i3⟩ := HV.out
    obtain ⟨hbox, hg5, hz5⟩ := two_set (i := 0) (j := 1) i1 (.int .i64 0) (.int .i64 (-1))
    generalize (W.setCell ⟨w.heap.size, 0, none⟩ (.int .i64 0)).setCell ⟨w.heap.size, 1, none⟩ (.int .i64 (-1)) = W5 at *
    have hDW : D < W.heap.size := (Array.getElem?_eq_some_iff.1 HKD.out).1
    have hK5 : W5.heap[D]? = some (.deferred (some [])) := (hg5.block D hDW (fun e => by injection e; omega)).trans HKD.out
    have hg6 := grownBy_putObj' W5 D (.deferred none)
    have hbox6 : (W5.putObj D (.deferred none)).heap[w.heap.size]? = some (.cells #[.int .i64 0, .int .i64 (-1)] 51 (0, 0)) := (hg6.block _ (by omega) (fun e => by injection e; omega)).trans hbox
    refine ⟨by simp, .inl ⟨_, _, rfl, run_takeDeferred hK5, ?_⟩⟩
    refine ⟨_, results_cell_row rfl _ _ w.heap.size 51 _ (0, 0) _ rfl hbox6 Tryz.underlying51 rfl (by kernel_rfl), rfl, ?_⟩
    exact ⟨hg6.os.trans (hg5.os.trans i3.os), hg6.tape.trans (hg5.tape.trans i3.tape), hg6.output.trans (hg5.output.trans i3.output), by have := hg6.size; omega, fun b hb => (hg6.block b (by omega) (fun e => by injection e; omega)).trans ((hg5.block b (by omega) (fun e => by injection e; omega)).trans (i3.block b hb))⟩
  case stop =>
    rintro D c' pre W hD ⟨k, hk, rfl⟩ ⟨rfl, pre', x, he, h4, h5, hbox, h2, h3⟩ hK
    have hk0 : k ≠ 0 := fun e => by subst e; simp [upL] at he
    obtain ⟨j, rfl⟩ : ∃ j, k = j + 1 := ⟨k - 1, by omega⟩
    rw [upL_succ] at he
    obtain ⟨rfl, hx⟩ := List.append_inj' he rfl
    simp only [List.cons.injEq, and_true] at hx
    subst hx
    have hlb : lastB ls = (readBt (bodyAt ls (zs.length - 1 - j)), readBn (bodyAt ls (zs.length - 1 - j))) := by
      rw [HZL.out] at h4 h5 ⊢
      exact lastB_some ls j (by have := HZL.out; omega) h5 fun i hi => h4 _ (upL_mem.2 ⟨i, hi, rfl⟩)
    rw [← HLB.out] at hlb
    injection hlb with e1 e2
    subst e1 e2
    have HKD := Lib.hid hK
    have HV := Lib.hid (And.intro hbox (And.intro h2 h3))
    clear hK h4 h5 he hbox h2 h3
    gi_wp2
    obtain ⟨hbox, h2, h3⟩ := HV.out
    have hDW : D < W.heap.size := (Array.getElem?_eq_some_iff.1 HKD.out).1
    have hg6 := grownBy_putObj' W D (.deferred none)
    have hbox6 := (hg6.block w.heap.size (by omega) (fun e => by injection e; omega)).trans hbox
    refine ⟨by simp, .inl ⟨_, _, rfl, run_takeDeferred HKD.out, ?_⟩⟩
    refine ⟨_, results_cell_row rfl _ _ w.heap.size 51 _ (0, 0) _ rfl hbox6 Tryz.underlying51 rfl (by kernel_rfl), rfl, ?_⟩
    exact ⟨hg6.os.trans h3.os, hg6.tape.trans h3.tape, hg6.output.trans h3.output, by have := hg6.size; omega, fun b hb => (hg6.block b (by omega) (fun e => by injection e; omega)).trans (h3.block b hb)⟩
end Go.Proofs.YtflkaladkbkbgaaGreat

/- Votes opened, whatever file is there. -/
namespace Go.Proofs.YtflkaladkbkbgaaGreat
set_option linter.unusedVariables false
set_option linter.unusedSimpArgs false
open Go.RowKit Go.Maps
set_option maxRecDepth 100000
/-- What reading what counts does. -/
def LoadR (w : World) (Ft : Nat → Prop) (d v : Nat) (tn : Int × Int) (M' : DiskM) (e : Ending) (w' : World) : Prop :=
  e = .returned (.int .i64 0) ∧ VAt w' v d tn.1 tn.2 ∧ ∃ Ft', ¬ Ft' v ∧ Gr (fun b => Ft b ∨ b = v) w (fun b => Ft' b ∨ b = v) w' ∧ DAt w' Ft' d M'
section
variable {w : World} {Ft : Nat → Prop} {d : Nat} {M : DiskM}
theorem load_none2 (h : DAt w Ft d M) (hr : M.read voteN = ([], 4)) {v : Nat} {t n : Int} (hv : VAt w v d t n) (hvF : ¬ Ft v) :
    Calls Tryz.prog 21 #[.pointer (some ⟨v, 0, none⟩)] w (LoadR w Ft d v (0, -1) M) := by
  refine (load_none' h hr hv).mono ?_
  rintro e w' ⟨rfl, hv', hg⟩
  exact ⟨rfl, hv', Ft, hvF, ⟨hg.os, hg.tape, hg.output, hg.size, fun k hk hn => hg.block k hk (fun e => hn (.inr (by injection e))), fun k hk => .inl hk⟩, h.keep hg.size fun k hk => hg.block k (h.1 k hk) (fun e => by injection e with e; exact hvF (e ▸ hk))⟩
set_option maxHeartbeats 4000000 in
theorem load_any (h : DAt w Ft d M) (b : List UInt8) (bs : List (List UInt8)) (m : Nat) (hr : M.read voteN = (b, 0)) (hsc : ScanR b bs m) (hm : m ≤ b.length) (hbl : b.length ≤ 140737488000) (hcnt : bs.length ≤ 1000000) (hbs : ∀ x, (bodyAt bs x).length ≤ 65536)
    {M' : DiskM} (h0 : trimM voteN b.length m M = (0, M')) {v : Nat} {t n : Int} (hv : VAt w v d t n) (hvF : ¬ Ft v) :
    Calls Tryz.prog 21 #[.pointer (some ⟨v, 0, none⟩)] w (LoadR w Ft d v (lastB bs) M') := by
  have y0 := hv.c0
  have HV := Lib.hid hv
  have HVF := Lib.hid hvF
  have H := Lib.hid h
  have HT0 := Lib.hid (fun (W : World) (hd : DAt W Ft d M) => trim_any hd voteB (by decide) b bs m hr hsc hm hbl)
  have HBS := Lib.hid (And.intro hcnt hbs)
  have H0 := Lib.hid h0
  clear h hv hr hsc hm hbl hcnt hbs h0 hvF
  go_enter Tryz.func21, Tryz.ntmps21
  go_wp2_with fail
  refine (votesOn_any d w).mono ?_
  rintro e w1 ⟨rfl, hb1⟩
  have hT := HT0.out w1 (H.out.below hb1)
  rw [voteB_list, H0.out] at hT
  have HT := Lib.hid hT
  unfold voteB at HT
  have HB1 := Lib.hid hb1
  unfold fv
  clear hb1 y0 hT HT0
  go_wp2_with fail
  refine HT.out.mono ?_
  rintro e w2 ⟨v2, Ft2, rfl, hv2, hg2, hd2⟩
  rw [if_pos rfl] at hv2
  have hg2 : Gr Ft w1 Ft2 w2 := hg2
  have hd2 : DAt w2 Ft2 d M' := hd2
  obtain ⟨A2, c2, rfl, -, -⟩ := hv2.shape
  have HLO := Lib.hid (lastOf_any A2 c2 bs w2 (hv2.at rfl) HBS.out.1 HBS.out.2)
  have HG2 := Lib.hid ((Gr.of_below HB1.out (Ft := Ft)).trans hg2)
  have HD2 := Lib.hid hd2
  obtain ⟨k, hk⟩ : ∃ k, k = bs.length := ⟨_, rfl⟩
  rw [← hk] at HLO ⊢
  obtain ⟨⟨l1, l2⟩, hlb⟩ : ∃ lb, lb = lastB bs := ⟨_, rfl⟩
  rw [← hlb] at HLO
  have HLBB := Lib.hid hlb
  dsimp only at HLO
  clear hv2 hg2 hd2 HT hk hlb
  go_wp2_with fail
  refine HLO.out.mono ?_
  rintro e w3 ⟨rfl, hb3⟩
  have hvl := (Array.getElem?_eq_some_iff.1 HV.out).1
  have hs2 := HG2.out.size
  have hv3 : VAt w3 v d t n := (hb3.block v (by omega)).trans ((HG2.out.block v hvl HVF.out).trans HV.out)
  have y1 := hv3.c1
  have y2 := hv3.c2
  have yf := fun i => Go.Joins.unfrozen_of_block hv3 i
  have HV3 := Lib.hid hv3
  have HB3 := Lib.hid hb3
  unfold bv
  clear hb3 hv3 hvl hs2 HLO
  go_wp2_with fail
  obtain ⟨hbox, hg5, hz5⟩ := two_set (i := 1) (j := 2) HV3.out (.int .i64 l1) (.int .i64 l2)
  obtain ⟨W5, hW5⟩ : ∃ W5, W5 = (w3.setCell ⟨v, 1, none⟩ (.int .i64 l1)).setCell ⟨v, 2, none⟩ (.int .i64 l2) := ⟨_, rfl⟩
  rw [← hW5] at hbox hg5 hz5
  go_ret
  rw [← hW5]
  have hg2 := HG2.out
  have hb3 := HB3.out
  have hvl := (Array.getElem?_eq_some_iff.1 HV.out).1
  have hvF2 : ¬ Ft2 v := fun hf => by
    rcases hg2.ft v hf with h | h
    · exact HVF.out h
    · omega
  have hs2 := hg2.size
  have hs3 := hb3.size
  have hbox : VAt W5 v d (lastB bs).1 (lastB bs).2 := by rw [← HLBB.out]; exact hbox
  refine ⟨rfl, hbox, Ft2, hvF2, ⟨hg5.os.trans (hb3.os.trans hg2.os), hg5.tape.trans (hb3.tape.trans hg2.tape), hg5.output.trans (hb3.output.trans hg2.output), by omega, fun k hk hn => ?_, fun k hk => ?_⟩, (HD2.out.below hb3).keep (by omega) fun k hk => hg5.block k (by have := HD2.out.1 k hk; omega) (fun e => ?_)⟩
  · exact (hg5.block k (by omega) (fun e => hn (.inr (by injection e)))).trans ((hb3.block k (by omega)).trans (hg2.block k hk (fun h => hn (.inl h))))
  · rcases hk with hk | rfl
    · rcases hg2.ft k hk with h | h
      · exact .inl (.inl h)
      · exact .inr h
    · exact .inl (.inr rfl)
  · injection e with e
    exact hvF2 (e ▸ hk)
/-- Between Open's two steps. -/
def OpenQ (w : World) (Ft : Nat → Prop) (d v b : Nat) (M M1 M2 : DiskM) (tn : Int × Int) (row : Obj) (i : Nat) (W : World) : Prop :=
  ∃ Ft' t n, Gr Ft w Ft' W ∧ DAt W Ft' d (if i = 0 then M else if i = 1 then M1 else M2) ∧ ¬ Ft' v ∧ ¬ Ft' b ∧ VAt W v d t n ∧ (i = 2 → t = tn.1 ∧ n = tn.2) ∧ W.heap[b]? = some row
set_option maxHeartbeats 4000000 in
theorem vopen_any {M1 M2 : DiskM} {tn : Int × Int} (h : DAt w Ft d M) (h1 : remZ (newNm voteN) M = (0, M1)) (h2 : ∀ (W : World) (Ft' : Nat → Prop) (v : Nat) (t n : Int), DAt W Ft' d M1 → VAt W v d t n → ¬ Ft' v → Calls Tryz.prog 21 #[.pointer (some ⟨v, 0, none⟩)] W (LoadR W Ft' d v tn M2)) :
    Calls Tryz.prog 7 #[.pointer (some ⟨d, 0, none⟩)] w fun e w' => ∃ v Ft', e = .returned (.tuple #[.pointer (some ⟨v, 0, none⟩), .int .i64 0]) ∧ VAt w' v d tn.1 tn.2 ∧ w.heap.size ≤ v ∧ ¬ Ft' v ∧ Gr Ft w Ft' w' ∧ DAt w' Ft' d M2 := by
  have hmf : ∀ (fn : Fn) (first cap : Array Value) (w : World), (Instr.makeFunc fn first cap).run Tryz.prog w = .ok (.func fn first cap) w := fun _ _ _ _ => rfl
  obtain ⟨w1, hw1⟩ : ∃ W, W = w.alloc (.cells #[.pointer (some ⟨d, 0, none⟩), .int .i64 0, .int .i64 0] 53) := ⟨_, rfl⟩
  have hb1 : Below w.heap.size w w1 := by rw [hw1]; exact two_below w _
  have hv1 : VAt w1 w.heap.size d 0 0 := by rw [hw1]; exact heap_alloc_new w _
  have HB1 := Lib.hid hb1
  have HV1 := Lib.hid hv1
  have HW1 := Lib.hid hw1
  have H := Lib.hid h
  have HA := Lib.hid h1
  have HR := Lib.hid h2
  clear h h1 h2 hb1 hv1 hw1
  go_enter Tryz.func7, Tryz.ntmps7
  go_wp2_with fail
  rw [← HW1.out]
  refine (votesOn_any d w1).mono ?_
  rintro e w2 ⟨rfl, hb2⟩
  have HB2 := Lib.hid (HB1.out.trans (hb2.mono HB1.out.size))
  have HV2 : Hid (VAt w2 w.heap.size d 0 0) := Lib.hid ((hb2.block _ (Array.getElem?_eq_some_iff.1 HV1.out).1).trans HV1.out)
  unfold fv
  clear hb2
  go_wp2_with fail
  refine (draft_any d ⟨#[118, 111, 116, 101]⟩ w2 (by decide)).mono ?_
  rintro e w3 ⟨rfl, hb3⟩
  have HB3 := Lib.hid (HB2.out.trans (hb3.mono HB2.out.size))
  have HV3 : Hid (VAt w3 w.heap.size d 0 0) := Lib.hid ((hb3.block _ (Array.getElem?_eq_some_iff.1 HV2.out).1).trans HV2.out)
  rw [nvoteB_eq]
  unfold fv
  obtain ⟨nw, hnw⟩ : ∃ nw, nw = nvoteB := ⟨_, rfl⟩
  rw [← hnw]
  have HNW := Lib.hid hnw
  clear hb3 hnw
  go_wp2_with fail
  obtain ⟨vs, hvs⟩ : ∃ vs : List Stp, vs = [⟨20, #[.agg #[.pointer (some ⟨d, 0, none⟩), .string nw]], #[]⟩, ⟨21, #[.pointer (some ⟨w.heap.size, 0, none⟩)], #[]⟩] := ⟨_, rfl⟩
  obtain ⟨X, hX⟩ : ∃ X, X = Obj.cells (vs.map Stp.val).toArray 55 := ⟨_, rfl⟩
  rw [show (Obj.cells #[_, _] 55) = X by rw [hX, hvs]; rfl]
  have hv2 : vs.length = 2 := by rw [hvs]; rfl
  have hent : ∀ j (h : j < vs.length), EntersF vs[j].f := by
    subst hvs
    intro j h
    match j, h with
    | 0, _ => exact enters_fiRemove
    | 1, _ => exact enters_voload
  have hsz : w.heap.size < w3.heap.size := (Array.getElem?_eq_some_iff.1 HV3.out).1
  have hnx : ∀ k, w.heap.size ≤ k → ¬ Ft k := fun k hk hf => by have := H.out.1 k hf; omega
  have hb4 : Below w.heap.size w (w3.alloc X) := HB3.out.trans ((two_below w3 X).mono (by omega))
  have hDo : Calls Tryz.prog 17 #[.slice (some ⟨w3.heap.size, 0, none⟩) vs.length 2] (w3.alloc X) fun e w' => e = .returned (.int .i64 0) ∧ OpenQ w Ft d w.heap.size w3.heap.size M M1 M2 tn X 2 w' := by
    refine (do_any vs (by omega) w3.heap.size 2 (w3.alloc X) (OpenQ w Ft d w.heap.size w3.heap.size M M1 M2 tn X) (fun _ _ => False) ?_ ?_ hent ?_).mono ?_
    · exact ⟨Ft, 0, 0, Gr.of_below hb4, H.out.below hb4, hnx _ (Nat.le_refl _), hnx _ (by omega), ((two_below w3 X).block _ hsz).trans HV3.out, by omega, heap_alloc_new w3 X⟩
    · rintro i W ⟨Ft', t, n, hg, hd, k1, k2, k3, k4, k5⟩ j hj
      have h1 := Go.Joins.cell_of_block (w := W) (g := w3.heap.size) (by rw [k5, hX]) j
      rw [h1]
      simp [hj]
    · subst hvs
      rintro i hi W ⟨Ft', t, n, hg, hd, k1, k2, k3, k4, k5⟩
      match i, hi with
      | 0, _ =>
        refine (fiRemove_any (h := hd) nw (by rw [HNW.out]; decide)).mono ?_
        rintro e W2 ⟨rfl, Ft2, hg2, hd2⟩
        have e1 : remZ (newNm voteN) M = (if (M.rem nw.data.toList).1 = 4 then 0 else (M.rem nw.data.toList).1, (M.rem nw.data.toList).2) := by rw [HNW.out, nvoteB_list]; rfl
        rw [if_pos rfl] at hd2
        rw [if_pos rfl, ← e1, HA.out]
        rw [← e1, HA.out] at hd2
        have hvl : w.heap.size < W.heap.size := (Array.getElem?_eq_some_iff.1 k3).1
        have hbl : w3.heap.size < W.heap.size := (Array.getElem?_eq_some_iff.1 k5).1
        refine ⟨0, rfl, .inl ⟨rfl, Ft2, t, n, hg.trans hg2, by rw [if_neg (by omega), if_pos rfl]; exact hd2, fun hf => ?_, fun hf => ?_, (hg2.block _ hvl k1).trans k3, by omega, (hg2.block _ hbl k2).trans k5⟩⟩
        · rcases hg2.ft _ hf with h | h
          · exact k1 h
          · omega
        · rcases hg2.ft _ hf with h | h
          · exact k2 h
          · omega
      | 1, _ =>
        rw [if_neg (by omega), if_pos rfl] at hd
        refine (HR.out W Ft' _ t n hd k3 k1).mono ?_
        rintro e W2 ⟨rfl, hv2, Ft2, hn2, hgr, hd2⟩
        have hsw := hg.size
        have hvl : w.heap.size < W.heap.size := (Array.getElem?_eq_some_iff.1 k3).1
        have hbl : w3.heap.size < W.heap.size := (Array.getElem?_eq_some_iff.1 k5).1
        have hnFt : ∀ k, k < w.heap.size → ¬ Ft k → ¬ Ft' k := fun k hk hn hf => by
          rcases hg.ft k hf with h | h
          · exact hn h
          · omega
        refine ⟨0, rfl, .inl ⟨rfl, Ft2, tn.1, tn.2, ⟨hgr.os.trans hg.os, hgr.tape.trans hg.tape, hgr.output.trans hg.output, Nat.le_trans hg.size hgr.size, fun k hk hn => (hgr.block k (by omega) (fun e => ?_)).trans (hg.block k hk hn), fun k hk => ?_⟩, ?_, hn2, fun hf => ?_, hv2, fun _ => ⟨rfl, rfl⟩, ?_⟩⟩
        · rcases e with e | e
          · exact hnFt k hk hn e
          · omega
        · rcases hgr.ft k (.inl hk) with h | h
          · rcases h with h | h
            · exact hg.ft k h
            · exact .inr (by omega)
          · exact .inr (by omega)
        · rw [if_neg (by omega), if_neg (by omega)]
          exact hd2
        · rcases hgr.ft _ (.inl hf) with h | h
          · rcases h with h | h
            · exact k2 h
            · omega
          · omega
        · exact (hgr.block _ hbl (fun e => by
            rcases e with e | e
            · exact k2 e
            · omega)).trans k5
    · rintro e W ⟨r, rfl, hr⟩
      rcases hr with ⟨rfl, hP⟩ | ⟨-, hF⟩
      · rw [hv2] at hP
        exact ⟨rfl, hP⟩
      · exact hF.elim
  rw [hv2] at hDo
  have HD := Lib.hid hDo
  clear hDo hb4 hnx hsz hent hv2 hX hvs
  go_wp2_with fail
  refine HD.out.mono ?_
  rintro e w5 ⟨rfl, Ft', t, n, hg, hd, k1, k2, k3, k4, k5⟩
  obtain ⟨rfl, rfl⟩ := k4 rfl
  rw [if_neg (by omega), if_neg (by omega)] at hd
  have HX := Lib.hid (And.intro hg (And.intro hd (And.intro k1 k3)))
  clear hg hd k1 k2 k3 k4 k5 HD
  go_wp2_with fail
  go_ret2
  obtain ⟨hg, hd, k1, k3⟩ := HX.out
  exact ⟨_, Ft', rfl, k3, Nat.le_refl _, k1, hg, hd⟩
end
end Go.Proofs.YtflkaladkbkbgaaGreat
