/- The lives of layer 7. -/
import Derived.Test.YtipiplnhbecjeaaKSpRe
import Derived.Test.YtipiplnhbecjeaaKSpRg
import Derived.Test.YtipiplnhbecjeaaKSpS
namespace Go.Proofs.Ytipiplnhbecjeaa
set_option linter.unusedVariables false
set_option linter.unusedSimpArgs false
open Go.RowKit
set_option maxRecDepth 100000
/-- The law's own update where two7 laid it; its second operator's way lies at T. -/
structure TwoAt (w : World) (z : Nat) (T : Option Addr) : Prop where
  p1 : w.heap[z + 1]? = some (.cells #[.string ⟨#[97]⟩] 9 (0, 0))
  p2 : w.heap[z + 1 + 1]? = some (.cells #[.string ⟨#[98]⟩] 9 (0, 0))
  row : w.heap[z + 1 + 1 + 1 + 1]? = some (.cells #[.int .i64 1, .slice (some ⟨z + 1, 0, none⟩) 1 1, .int .i64 3, .int .i64 1, .string ⟨#[]⟩, .slice none 0 0, .slice none 0 0, .slice none 0 0, .int .i64 6, .slice (some ⟨z + 1 + 1, 0, none⟩) 1 1, .int .i64 0, .int .i64 0, .string ⟨#[]⟩, .slice none 0 0, .slice none 0 0, .slice T 2 2] 27 (0, 0))
theorem two_gen {w : World} {z : Nat} {T : Option Addr} {S : Nat → Prop} {to : List ByteArray} (h : TwoAt w z T) (h1 : S (z + 1)) (h2 : S (z + 1 + 1)) (h4 : S (z + 1 + 1 + 1 + 1)) (ht : StrsAt w S T to) (hn : to.length = 2) :
    SpecL w S ⟨false, .mk 0 0 ⟨#[]⟩ [] [], [⟨1, [⟨#[97]⟩], .mk 3 1 ⟨#[]⟩ [] [], []⟩, ⟨6, [⟨#[98]⟩], .mk 0 0 ⟨#[]⟩ [] [], to⟩]⟩ #[.bool false, .int .i64 0, .int .i64 0, .string ⟨#[]⟩, .slice none 0 0, .slice none 0 0, .slice (some ⟨z + 1 + 1 + 1 + 1, 0, none⟩) 2 2] := by
  refine ⟨none, 0, none, 0, some ⟨z + 1 + 1 + 1 + 1, 0, none⟩, 2, rfl, leaf_lv _ _ _ _ _ (by unfold Rng; omega) (by unfold Rng; omega) (by decide), fun _ => ⟨z + 1 + 1 + 1 + 1, 0, rfl, h4, fun i hi => ?_⟩, by simp, by simp⟩
  have hi2 : i < 2 := hi
  match i, hi2 with
  | 0, _ =>
    exact ⟨#[.int .i64 1, .slice (some ⟨z + 1, 0, none⟩) 1 1, .int .i64 3, .int .i64 1, .string ⟨#[]⟩, .slice none 0 0, .slice none 0 0, .slice none 0 0], fun j v hj => by
      have hj' : j < 8 := (Array.getElem?_eq_some_iff.1 hj).1
      rw [Go.Joins.cell_of_block h.row (0 + 0 * 8 + j)]
      match j, hj' with
      | 0, _ | 1, _ | 2, _ | 3, _ | 4, _ | 5, _ | 6, _ | 7, _ => exact hj,
      ⟨_, _, _, _, _, _, _, none, 0, rfl, leaf_lv _ _ _ _ _ (by unfold Rng; omega) (by unfold Rng; omega) (by decide), strs_new1 h.p1 h1 (by decide), strs_nil _ _ _, by simp, by simp, rng_k (k := 1) (by decide) (by decide), by simp, by simp⟩⟩
  | 1, _ =>
    exact ⟨#[.int .i64 6, .slice (some ⟨z + 1 + 1, 0, none⟩) 1 1, .int .i64 0, .int .i64 0, .string ⟨#[]⟩, .slice none 0 0, .slice none 0 0, .slice T 2 2], fun j v hj => by
      have hj' : j < 8 := (Array.getElem?_eq_some_iff.1 hj).1
      rw [Go.Joins.cell_of_block h.row (0 + 1 * 8 + j)]
      match j, hj' with
      | 0, _ | 1, _ | 2, _ | 3, _ | 4, _ | 5, _ | 6, _ | 7, _ => exact hj,
      ⟨some ⟨z + 1 + 1, 0, none⟩, 1, .int .i64 0, .int .i64 0, .string ⟨#[]⟩, .slice none 0 0, .slice none 0 0, T, 2, (by simp [hn]), leaf_lv _ _ _ _ _ (by unfold Rng; omega) (by unfold Rng; omega) (by decide), strs_new1 h.p2 h2 (by decide), ht, Nat.le_refl _, (by show to.length ≤ 2; omega), rng_k (k := 6) (by decide) (by decide), (by show 1 ≤ _; omega), (by show to.length ≤ _; omega)⟩⟩
def TwoR (w : World) (e : Ending) (w' : World) : Prop := e = .returned (.agg #[.bool false, .int .i64 0, .int .i64 0, .string ⟨#[]⟩, .slice none 0 0, .slice none 0 0, .slice (some ⟨w.heap.size + 1 + 1 + 1 + 1, 0, none⟩) 2 2]) ∧ TwoAt w' w.heap.size (some ⟨w.heap.size + 1 + 1 + 1, 0, none⟩) ∧ w'.heap[w.heap.size + 1 + 1 + 1]? = some (.cells #[.string ⟨#[99]⟩, .string ⟨#[100]⟩] 9 (0, 0)) ∧ Below w.heap.size w w' ∧ w'.heap.size = w.heap.size + 5
theorem TwoR.spec {w w' : World} {e : Ending} (h : TwoR w e w') : SpecL w' (fun b => w.heap.size ≤ b ∧ b < w'.heap.size) twoS #[.bool false, .int .i64 0, .int .i64 0, .string ⟨#[]⟩, .slice none 0 0, .slice none 0 0, .slice (some ⟨w.heap.size + 1 + 1 + 1 + 1, 0, none⟩) 2 2] := by
  obtain ⟨-, h1, h2, -, hz⟩ := h
  exact two_gen (to := [⟨#[99]⟩, ⟨#[100]⟩]) h1 ⟨by omega, by omega⟩ ⟨by omega, by omega⟩ ⟨by omega, by omega⟩ (strs_new2 h2 ⟨by omega, by omega⟩ (by decide) (by decide)) rfl
set_option maxHeartbeats 4000000 in
theorem two7x_any (w : World) : Calls Try.prog 11 #[] w (TwoR w) := by
  go_enter Try.func11, Try.ntmps11
  go_wp2_with fail
  obtain ⟨x0, hx0⟩ : ∃ x : Obj, x = .cells #[.bool false, .int .i64 0, .int .i64 0, .string ⟨#[]⟩, .slice none 0 0, .slice none 0 0, .slice (some ⟨w.heap.size + 1 + 1 + 1 + 1, 0, none⟩) 2 2] 35 := ⟨_, rfl⟩
  obtain ⟨x4, hx4⟩ : ∃ x : Obj, x = .cells #[.int .i64 1, .slice (some ⟨w.heap.size + 1, 0, none⟩) 1 1, .int .i64 3, .int .i64 1, .string ⟨#[]⟩, .slice none 0 0, .slice none 0 0, .slice none 0 0, .int .i64 6, .slice (some ⟨w.heap.size + 1 + 1, 0, none⟩) 1 1, .int .i64 0, .int .i64 0, .string ⟨#[]⟩, .slice none 0 0, .slice none 0 0, .slice (some ⟨w.heap.size + 1 + 1 + 1, 0, none⟩) 2 2] 27 := ⟨_, rfl⟩
  rw [← hx0, ← hx4]
  obtain ⟨s1, hs1⟩ : ∃ x : Obj, x = .cells #[.string ⟨#[97]⟩] 9 := ⟨_, rfl⟩
  obtain ⟨s2, hs2⟩ : ∃ x : Obj, x = .cells #[.string ⟨#[98]⟩] 9 := ⟨_, rfl⟩
  obtain ⟨s3, hs3⟩ : ∃ x : Obj, x = .cells #[.string ⟨#[99]⟩, .string ⟨#[100]⟩] 9 := ⟨_, rfl⟩
  rw [← hs1, ← hs2, ← hs3]
  obtain ⟨v1, hv1⟩ : ∃ v, v = w.alloc x0 := ⟨_, rfl⟩
  rw [← hv1]
  obtain ⟨v2, hv2⟩ : ∃ v, v = v1.alloc s1 := ⟨_, rfl⟩
  rw [← hv2]
  obtain ⟨v3, hv3⟩ : ∃ v, v = v2.alloc s2 := ⟨_, rfl⟩
  rw [← hv3]
  obtain ⟨v4, hv4⟩ : ∃ v, v = v3.alloc s3 := ⟨_, rfl⟩
  rw [← hv4]
  obtain ⟨w5, hv5⟩ : ∃ v, v = v4.alloc x4 := ⟨_, rfl⟩
  rw [← hv5]
  have z1 : v1.heap.size = w.heap.size + 1 := by rw [hv1]; simp
  have z2 : v2.heap.size = w.heap.size + 2 := by rw [hv2]; simp; omega
  have z3 : v3.heap.size = w.heap.size + 3 := by rw [hv3]; simp; omega
  have z4 : v4.heap.size = w.heap.size + 4 := by rw [hv4]; simp; omega
  have hz : w5.heap.size = w.heap.size + 5 := by rw [hv5]; simp; omega
  have p2 : ∀ b, b < v1.heap.size → v2.heap[b]? = v1.heap[b]? := fun b hb => by rw [hv2]; exact Below.heap_alloc v1 _ b hb
  have p3 : ∀ b, b < v2.heap.size → v3.heap[b]? = v2.heap[b]? := fun b hb => by rw [hv3]; exact Below.heap_alloc v2 _ b hb
  have p4 : ∀ b, b < v3.heap.size → v4.heap[b]? = v3.heap[b]? := fun b hb => by rw [hv4]; exact Below.heap_alloc v3 _ b hb
  have p5 : ∀ b, b < v4.heap.size → w5.heap[b]? = v4.heap[b]? := fun b hb => by rw [hv5]; exact Below.heap_alloc v4 _ b hb
  have hb : Below w.heap.size w w5 := by
    rw [hv5, hv4, hv3, hv2, hv1]
    exact (((((Below.refl _ _).alloc (Nat.le_refl _) _).alloc (by simp) _).alloc (by simp; omega) _).alloc (by simp; omega) _).alloc (by simp; omega) _
  have n0 : v1.heap[w.heap.size]? = some x0 := by rw [hv1]; exact heap_alloc_new w x0
  have n1 : v2.heap[w.heap.size + 1]? = some s1 := by rw [hv2, ← z1]; exact heap_alloc_new v1 s1
  have n2 : v3.heap[w.heap.size + 1 + 1]? = some s2 := by rw [hv3, show w.heap.size + 1 + 1 = v2.heap.size from z2.symm]; exact heap_alloc_new v2 s2
  have n3 : v4.heap[w.heap.size + 1 + 1 + 1]? = some s3 := by rw [hv4, show w.heap.size + 1 + 1 + 1 = v3.heap.size from z3.symm]; exact heap_alloc_new v3 s3
  have g4 : w5.heap[w.heap.size + 1 + 1 + 1 + 1]? = some x4 := by rw [hv5, show w.heap.size + 1 + 1 + 1 + 1 = v4.heap.size from z4.symm]; exact heap_alloc_new v4 x4
  have g0 : w5.heap[w.heap.size]? = some x0 := (p5 _ (by omega)).trans ((p4 _ (by omega)).trans ((p3 _ (by omega)).trans ((p2 _ (by omega)).trans n0)))
  have g1 : w5.heap[w.heap.size + 1]? = some s1 := (p5 _ (by omega)).trans ((p4 _ (by omega)).trans ((p3 _ (by omega)).trans n1))
  have g2 : w5.heap[w.heap.size + 1 + 1]? = some s2 := (p5 _ (by omega)).trans ((p4 _ (by omega)).trans n2)
  have g3 : w5.heap[w.heap.size + 1 + 1 + 1]? = some s3 := (p5 _ (by omega)).trans n3
  rw [hx0] at g0
  rw [hs1] at g1
  rw [hs2] at g2
  rw [hs3] at g3
  rw [hx4] at g4
  clear n0 n1 n2 n3 p2 p3 p4 p5 hv1 hv2 hv3 hv4 hv5 hx0 hx4 hs1 hs2 hs3
  exact bodyPost_ret (results_cell_s rfl _ _ _ _ _ _ rfl g0 (by kernel_rfl)) rfl ⟨rfl, ⟨g1, g2, g4⟩, g3, hb, hz⟩
theorem two_small : SmallS twoS ∧ SmallZ twoS := by
  refine ⟨⟨?_, fun o ho => ?_⟩, ?_, fun o ho => ?_⟩
  · exact Nat.le_trans (show depthT twoS.doc ≤ 8 by decide) (by omega)
  · have h : ∀ o ∈ twoS.ops, depthT o.val ≤ 8 := by
      intro o ho
      simp only [twoS, List.mem_cons, List.not_mem_nil, or_false] at ho
      rcases ho with rfl | rfl <;> decide
    have := h o ho; omega
  · exact Nat.le_trans (show sizeT twoS.doc ≤ 8 by decide) (by omega)
  · have h : ∀ o ∈ twoS.ops, sizeT o.val ≤ 8 := by
      intro o ho
      simp only [twoS, List.mem_cons, List.not_mem_nil, or_false] at ho
      rcases ho with rfl | rfl <;> decide
    have := h o ho; omega
theorem Rd.strS {w : World} {B : Nat} {v : Value} {l : List UInt8} (h : Rd w B v l) : (convert 39 9 v).run Try.prog w = .ok (.string ⟨l.toArray⟩) w := by
  obtain ⟨A, cap, hv, -⟩ := id h
  rw [hv] at h ⊢
  have := h.conv (Nat.le_refl _) cap
  rw [List.take_length] at this
  exact this
theorem rd_nil (w : World) (B : Nat) : Rd w B (.slice none 0 0) [] := by
  have h : Rd w w.heap.size (.slice none 0 0) [] := OwnB.rd (B := 0) (show OwnB w 0 (.slice none 0 0) [] from World.ownsRow_nil _ _ _ _)
  obtain ⟨A, cap, h1, h2, h3, h4⟩ := h
  exact ⟨A, cap, h1, h2, h3, fun hl => absurd hl (by simp)⟩
/-- What lives: a source, the changed update in a box, and what it is made of. -/
structure L7 (w u : World) (B g p z n : Nat) (st : Option (List UInt8)) : Prop where
  h : Below w.heap.size w u
  wB : w.heap.size ≤ g
  gB : g < z
  zp : z + 5 ≤ p
  pn : p < n
  nB : n < B
  B : B ≤ u.heap.size
  s : SrcL u g st
  x : TBox u p (.bool false) (.int .i64 0) (.int .i64 0) (.string ⟨#[]⟩) (.slice none 0 0) (.slice none 0 0) (.slice (some ⟨z + 1 + 1 + 1 + 1, 0, none⟩) 2 2)
  two : TwoAt u z (some ⟨n, 0, none⟩)
  way : u.heap[n]? = some (.cells #[.string ⟨#[97]⟩, .string ⟨#[120]⟩] 9 (0, 0))
theorem L7.keep {w u u' : World} {B g p z n : Nat} {st : Option (List UInt8)} (h : L7 w u B g p z n st) (hb : Below u.heap.size u u') : L7 w u' B g p z n st := by
  have hg := h.gB; have hp := h.zp; have hn := h.pn; have hB := h.nB; have hu := h.B; have hw := h.wB
  exact ⟨h.h.trans (hb.mono (by omega)), hw, hg, hp, hn, hB, Nat.le_trans hu hb.size, h.s.of (hb.block g (by omega)), h.x.call hb, ⟨(hb.block _ (by omega)).trans h.two.p1, (hb.block _ (by omega)).trans h.two.p2, (hb.block _ (by omega)).trans h.two.row⟩, (hb.block n (by omega)).trans h.way⟩
theorem L7.read {w u u' : World} {B g p z n : Nat} {st st' : Option (List UInt8)} (h : L7 w u B g p z n st) (hs : SrcL u' g st') (ho : Only u u' g) : L7 w u' B g p z n st' := by
  have hg := h.gB; have hp := h.zp; have hn := h.pn; have hB := h.nB; have hu := h.B; have hw := h.wB
  have hk : ∀ b, b < u.heap.size → b ≠ g → u'.heap[b]? = u.heap[b]? := fun b hb hne => ho.block b hb (by rintro ⟨⟩; exact hne rfl)
  exact ⟨⟨ho.os.trans h.h.os, ho.tape.trans h.h.tape, ho.output.trans h.h.output, Nat.le_trans h.h.size ho.size, fun b hb => (hk b (by have := h.h.size; omega) (by omega)).trans (h.h.block b hb)⟩, hw, hg, hp, hn, hB, Nat.le_trans hu ho.size, hs, (hk p (by omega) (by omega)).trans h.x, ⟨(hk _ (by omega) (by omega)).trans h.two.p1, (hk _ (by omega) (by omega)).trans h.two.p2, (hk _ (by omega) (by omega)).trans h.two.row⟩, (hk n (by omega) (by omega)).trans h.way⟩
theorem L7.spec {w u : World} {B g p z n : Nat} {st : Option (List UInt8)} (h : L7 w u B g p z n st) : SpecL u (fun b => b < u.heap.size) twoX #[.bool false, .int .i64 0, .int .i64 0, .string ⟨#[]⟩, .slice none 0 0, .slice none 0 0, .slice (some ⟨z + 1 + 1 + 1 + 1, 0, none⟩) 2 2] := by
  have hg := h.gB; have hp := h.zp; have hn := h.pn; have hB := h.nB; have hu := h.B; have hw := h.wB
  exact two_gen (to := [⟨#[97]⟩, ⟨#[120]⟩]) h.two (by omega) (by omega) (by omega) (strs_new2 h.way (by omega) (by decide) (by decide)) rfl
theorem twoX_small : SmallS twoX := by
  refine ⟨Nat.le_trans (show depthT twoX.doc ≤ 8 by decide) (by omega), fun o ho => ?_⟩
  have h : ∀ o ∈ twoX.ops, depthT o.val ≤ 8 := by
    intro o ho
    simp only [twoX, List.mem_cons, List.not_mem_nil, or_false] at ho
    rcases ho with rfl | rfl <;> decide
  have := h o ho; omega
theorem none_small : SmallS ⟨false, noneV, []⟩ := ⟨Nat.le_trans (show depthT noneV ≤ 8 by decide) (by omega), fun o ho => by cases ho⟩
theorem two_op {w : World} {z : Nat} {T : Option Addr} {S : Nat → Prop} (h : TwoAt w z T) (h1 : S (z + 1)) :
    OpL w S ⟨1, [⟨#[97]⟩], .mk 3 1 ⟨#[]⟩ [] [], []⟩ #[.int .i64 1, .slice (some ⟨z + 1, 0, none⟩) 1 1, .int .i64 3, .int .i64 1, .string ⟨#[]⟩, .slice none 0 0, .slice none 0 0, .slice none 0 0] :=
  ⟨_, _, _, _, _, _, _, none, 0, rfl, leaf_lv _ _ _ _ _ (by unfold Rng; omega) (by unfold Rng; omega) (by decide), strs_new1 h.p1 h1 (by decide), strs_nil _ _ _, by simp, by simp, rng_k (k := 1) (by decide) (by decide), by simp, by simp⟩
theorem none_op (w : World) (S : Nat → Prop) : OpL w S ⟨0, [], noneV, []⟩ #[.int .i64 0, .slice none 0 0, .int .i64 0, .int .i64 0, .string ⟨#[]⟩, .slice none 0 0, .slice none 0 0, .slice none 0 0] :=
  ⟨none, 0, _, _, _, _, _, none, 0, rfl, leaf_lv _ _ _ _ _ (by unfold Rng; omega) (by unfold Rng; omega) (by decide), strs_nil _ _ _, strs_nil _ _ _, by simp, by simp, rng_k (k := 0) (by decide) (by decide), by simp, by simp⟩
set_option maxHeartbeats 16000000 in
theorem lives7_any (w : World) : Calls Try.prog 5 #[] w fun e w' => e = .returned (.bool true) ∧ Below w.heap.size w w' := by
  have HT1 := Lib.hid (two7x_any w)
  go_enter Try.func5, Try.ntmps5
  go_wp2_with fail
  refine HT1.out.mono ?_
  rintro e w1 h1
  have hsp1 := h1.spec
  have hb1 := h1.2.2.2.1
  obtain ⟨rfl, -⟩ := h1
  have HP := Lib.hid (spput_any (fun b => w.heap.size ≤ b ∧ b < w1.heap.size) twoS _ (.slice none 0 0) [] w1 (fun b hb => hb.2) hsp1 two_small.1 two_small.2 (rd_nil _ _) (by decide))
  have HB1 := Lib.hid hb1
  clear hsp1 hb1 HT1
  go_wp2_with fail
  refine HP.out.mono ?_
  rintro e w2 ⟨bv, rfl, hv2, hb2⟩
  rw [two_code, List.nil_append] at hv2
  have HF := Lib.hid (from_any bv ⟨twoB.toArray⟩ w2 hv2.rd.strS)
  have HV2 := Lib.hid hv2.rd
  have HB2 := Lib.hid (HB1.out.trans (hb2.mono HB1.out.size))
  clear hv2 hb2 HP HB1
  go_wp2_with fail
  refine HF.out.mono ?_
  rintro e w3 ⟨rfl, hs3, hb3⟩
  have hgl := hs3.lt
  have hwz := HB2.out.size
  have HV3 := Lib.hid (HV2.out.keep hb3)
  have HB3 := Lib.hid (HB2.out.trans (hb3.mono HB2.out.size))
  clear hb3 HB2 HV2 HF
  generalize w2.heap.size = g at *
  have HS3 := Lib.hid (show SrcL w3 g (some twoB) from ⟨hs3, by decide⟩)
  have HT3 := Lib.hid (two7x_any w3)
  clear hs3
  go_wp2_with fail
  refine HT3.out.mono ?_
  rintro e w4 ⟨rfl, h4, -, hb4, hz4⟩
  have hrow := h4.row
  have hr4 := Go.Joins.cell_of_block hrow 15
  have hf4 := Go.Joins.unfrozen_of_block hrow 15
  obtain ⟨v5, hv5⟩ : ∃ W, W = w4.setCell ⟨w3.heap.size + 1 + 1 + 1 + 1, 15, none⟩ (.slice (some ⟨w3.heap.size + 5 + 1, 0, none⟩) 2 2) := ⟨_, rfl⟩
  obtain ⟨v6, hv6⟩ : ∃ W, W = v5.alloc (.cells #[.bool false, .int .i64 0, .int .i64 0, .string ⟨#[]⟩, .slice none 0 0, .slice none 0 0, .slice (some ⟨w3.heap.size + 1 + 1 + 1 + 1, 0, none⟩) 2 2] 35) := ⟨_, rfl⟩
  obtain ⟨w7, hw7⟩ : ∃ W, W = v6.alloc (.cells #[.string ⟨#[97]⟩, .string ⟨#[120]⟩] 9) := ⟨_, rfl⟩
  have z5 : v5.heap.size = w3.heap.size + 5 := by rw [hv5]; simp; omega
  have z6 : v6.heap.size = w3.heap.size + 5 + 1 := by rw [hv6]; simp; omega
  have z7 : w7.heap.size = w3.heap.size + 7 := by rw [hw7]; simp; omega
  have k5 : ∀ b, b ≠ w3.heap.size + 1 + 1 + 1 + 1 → v5.heap[b]? = w4.heap[b]? := fun b hb => by rw [hv5]; exact heap_setCell_other _ ⟨w3.heap.size + 1 + 1 + 1 + 1, 15, none⟩ b _ hb
  have k6 : ∀ b, b < v5.heap.size → v6.heap[b]? = v5.heap[b]? := fun b hb => by rw [hv6]; exact Below.heap_alloc v5 _ b hb
  have k7 : ∀ b, b < v6.heap.size → w7.heap[b]? = v6.heap[b]? := fun b hb => by rw [hw7]; exact Below.heap_alloc v6 _ b hb
  have row5 : v5.heap[w3.heap.size + 1 + 1 + 1 + 1]? = some (.cells #[.int .i64 1, .slice (some ⟨w3.heap.size + 1, 0, none⟩) 1 1, .int .i64 3, .int .i64 1, .string ⟨#[]⟩, .slice none 0 0, .slice none 0 0, .slice none 0 0, .int .i64 6, .slice (some ⟨w3.heap.size + 1 + 1, 0, none⟩) 1 1, .int .i64 0, .int .i64 0, .string ⟨#[]⟩, .slice none 0 0, .slice none 0 0, .slice (some ⟨w3.heap.size + 5 + 1, 0, none⟩) 2 2] 27 (0, 0)) := by rw [hv5]; exact Go.Joins.block_setCell (i := 15) hrow _
  have x6 : TBox v6 (w3.heap.size + 5) (.bool false) (.int .i64 0) (.int .i64 0) (.string ⟨#[]⟩) (.slice none 0 0) (.slice none 0 0) (.slice (some ⟨w3.heap.size + 1 + 1 + 1 + 1, 0, none⟩) 2 2) := by rw [hv6, ← z5]; exact TBox.new v5 _ _ _ _ _ _ _
  have y7 : w7.heap[w3.heap.size + 5 + 1]? = some (.cells #[.string ⟨#[97]⟩, .string ⟨#[120]⟩] 9 (0, 0)) := by rw [hw7, ← z6]; exact heap_alloc_new v6 _
  have hb37 : Below w3.heap.size w3 w7 := by
    refine ⟨?_, ?_, ?_, by omega, fun b hb => (k7 b (by omega)).trans ((k6 b (by omega)).trans ((k5 b (by omega)).trans (hb4.block b hb)))⟩
    · rw [hw7, hv6, hv5]; exact hb4.os
    · rw [hw7, hv6, hv5]; exact hb4.tape
    · rw [hw7, hv6, hv5]; exact hb4.output
  have hL : L7 w w7 (w3.heap.size + 7) g (w3.heap.size + 5) w3.heap.size (w3.heap.size + 5 + 1) (some twoB) :=
    ⟨HB3.out.trans (hb37.mono HB3.out.size), hwz, hgl, Nat.le_refl _, by omega, by omega, by omega, HS3.out.of (hb37.block g hgl), (k7 _ (by omega)).trans x6, ⟨(k7 _ (by omega)).trans ((k6 _ (by omega)).trans ((k5 _ (by omega)).trans h4.p1)), (k7 _ (by omega)).trans ((k6 _ (by omega)).trans ((k5 _ (by omega)).trans h4.p2)), (k7 _ (by omega)).trans ((k6 _ (by omega)).trans row5)⟩, y7⟩
  have hcv : (convert 39 9 bv).run Try.prog w7 = .ok (.string ⟨#[0, 2, 1, 1, 1, 97, 3, 2, 6, 1, 1, 98, 2, 1, 99, 1, 100]⟩) w7 := (HV3.out.keep (hb37.mono (by omega))).strS
  have HL7 := Lib.hid hL
  have HRD := Lib.hid (spread_any g (some twoB) w7 hL.s)
  clear hL hb37 y7 x6 row5 k5 k6 k7 z5 z6 z7 hb4 h4 hrow HB3 HS3 HV3 HT3
  rw [hv6, hv5] at hw7
  rw [hw7] at hcv HRD
  have HW7 := Lib.hid hw7
  go_wp2_with fail
  refine HRD.out.mono ?_
  rintro e w8 ⟨cs8, rfl, hsp8, hs8, ho8⟩
  rw [two_read] at hsp8 hs8
  rw [← HW7.out] at hsp8 ho8
  clear hw7 HW7
  have HL8 := Lib.hid (HL7.out.read hs8 ho8)
  have HSP8 := Lib.hid (hsp8.imp (S' := fun b => b < w8.heap.size) fun b hb => hb.2)
  have HT8 := Lib.hid (two7x_any w8)
  clear hsp8 hs8 ho8 HRD HL7 hcv
  go_wp2_with fail
  refine HT8.out.mono ?_
  rintro e w9 h9
  have hsp9 := h9.spec.imp (S' := fun b => b < w9.heap.size) fun b hb => hb.2
  have hb9 := h9.2.2.2.1
  obtain ⟨rfl, -⟩ := h9
  have HL9 := Lib.hid (HL8.out.keep hb9)
  have HSM := Lib.hid (rsame7_any (fun b => b < w9.heap.size) twoS twoS _ _ w9 (fun b hb => hb) (HSP8.out.keep (fun b hb => hb9.block b hb) |>.imp fun b hb => Nat.lt_of_lt_of_le hb hb9.size) hsp9)
  clear hsp9 hb9 HL8 HSP8 HT8
  go_wp2_with fail
  refine HSM.out.mono ?_
  rintro e w10 ⟨⟨r, rfl, hr⟩, hb10⟩
  obtain rfl : r = true := hr.2 trivial
  have HL10 := Lib.hid (HL9.out.keep hb10)
  have HD := Lib.hid (sdone_st g (some []) w10 HL10.out.s)
  clear hr hb10 HL9 HSM
  go_wp2_with fail
  refine HD.out.mono ?_
  rintro e w10 ⟨rfl, rfl⟩
  rw [show doneOf (some []) = 0 from rfl]
  have HT10 := Lib.hid (two7x_any w10)
  clear HD
  go_wp2_with fail
  refine HT10.out.mono ?_
  rintro e w11 h11
  have hsp11 := h11.spec
  have hb11 := h11.2.2.2.1
  obtain ⟨rfl, -⟩ := h11
  have HL11 := Lib.hid (HL10.out.keep hb11)
  have HC := Lib.hid (spcheck_any _ twoS _ w11 (fun b hb => hb.2) hsp11 two_small.1)
  clear hsp11 hb11 HL10 HT10
  go_wp2_with fail
  refine HC.out.mono ?_
  rintro e w12 ⟨rfl, hb12⟩
  rw [two_check]
  have HL12 := Lib.hid (HL11.out.keep hb12)
  have HC2 := Lib.hid (spcheck_any _ twoX _ w12 (fun b hb => hb) HL12.out.spec twoX_small)
  clear hb12 HL11 HC
  have hx := HL12.out.x
  have x0 := hx.g0
  have x1 := hx.g1
  have x2 := hx.g2
  have x3 := hx.g3
  have x4 := hx.g4
  have x5 := hx.g5
  have x6 := hx.g6
  clear hx
  go_wp2_with fail
  refine HC2.out.mono ?_
  rintro e w13 ⟨rfl, hb13⟩
  rw [twoX_check]
  have HL13 := Lib.hid (HL12.out.keep hb13)
  have HC3 := Lib.hid (spcheck_any (fun _ => False) ⟨false, noneV, []⟩ _ w13 (fun b hb => hb.elim) (none_spec _ _) none_small)
  clear hb13 HL12 HC2 x0 x1 x2 x3 x4 x5 x6
  go_wp2_with fail
  refine HC3.out.mono ?_
  rintro e w14 ⟨rfl, hb14⟩
  rw [none_check]
  have HL14 := Lib.hid (HL13.out.keep hb14)
  have HM := Lib.hid (spmay_any (fun b => b < w14.heap.size) ⟨1, [⟨#[97]⟩], .mk 3 1 ⟨#[]⟩ [] [], []⟩ _ w14 (fun b hb => hb) (two_op HL14.out.two (by have := HL14.out.zp; have := HL14.out.pn; have := HL14.out.nB; have := HL14.out.B; omega)) (Nat.le_trans (show depthT (.mk 3 1 ⟨#[]⟩ [] []) ≤ 8 by decide) (by omega)))
  clear hb14 HL13 HC3
  have x6 := HL14.out.x.g6
  have y0 := Go.Joins.cell_of_block HL14.out.two.row 0
  have y1 := Go.Joins.cell_of_block HL14.out.two.row 1
  have y2 := Go.Joins.cell_of_block HL14.out.two.row 2
  have y3 := Go.Joins.cell_of_block HL14.out.two.row 3
  have y4 := Go.Joins.cell_of_block HL14.out.two.row 4
  have y5 := Go.Joins.cell_of_block HL14.out.two.row 5
  have y6 := Go.Joins.cell_of_block HL14.out.two.row 6
  have y7 := Go.Joins.cell_of_block HL14.out.two.row 7
  go_wp2_with fail
  refine HM.out.mono ?_
  rintro e w15 ⟨rfl, hb15⟩
  rw [set_may]
  have HL15 := Lib.hid (HL14.out.keep hb15)
  have HM2 := Lib.hid (spmay_any (fun _ => False) ⟨0, [], noneV, []⟩ _ w15 (fun b hb => hb.elim) (none_op w15 _) (Nat.le_trans (show depthT noneV ≤ 8 by decide) (by omega)))
  clear hb15 HL14 HM x6 y0 y1 y2 y3 y4 y5 y6 y7
  go_wp2_with fail
  refine HM2.out.mono ?_
  rintro e w16 ⟨rfl, hb16⟩
  rw [none_may]
  have HL16 := Lib.hid (HL15.out.keep hb16)
  have HT16 := Lib.hid (two7x_any w16)
  clear hb16 HL15 HM2
  go_wp2_with fail
  refine HT16.out.mono ?_
  rintro e w17 h17
  have hsp17 := h17.spec
  have hb17 := h17.2.2.2.1
  obtain ⟨rfl, -⟩ := h17
  have HL17 := Lib.hid (HL16.out.keep hb17)
  have HPL := Lib.hid (spplaces_any _ twoS _ w17 (fun b hb => hb.2) hsp17 two_small.1 (by decide))
  clear hsp17 hb17 HL16 HT16
  go_wp2_with fail
  refine HPL.out.mono ?_
  rintro e w18 ⟨A, c, rfl, -, hb18⟩
  rw [two_places]
  have HL18 := Lib.hid (HL17.out.keep hb18)
  clear hb18 HL17 HPL
  go_wp2_with fail
  go_ret
  exact ⟨rfl, HL18.out.h⟩
end Go.Proofs.Ytipiplnhbecjeaa
