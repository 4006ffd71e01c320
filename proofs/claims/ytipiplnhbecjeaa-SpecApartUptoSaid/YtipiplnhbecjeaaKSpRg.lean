/- The document's Same of updates. -/
import Derived.Test.YtipiplnhbecjeaaKSpRe
import Derived.Test.YtipiplnhbecjeaaKRefQ
import Derived.BigRegion
namespace Go.Proofs.Ytipiplnhbecjeaa
set_option linter.unusedVariables false
set_option linter.unusedSimpArgs false
open Go.RowKit
set_option maxRecDepth 100000
theorem OpT.eq_iff (a b : OpT) : a = b ↔ a.kind = b.kind ∧ a.path = b.path ∧ a.to = b.to ∧ a.val = b.val := by
  obtain ⟨a1, a2, a3, a4⟩ := a
  obtain ⟨b1, b2, b3, b4⟩ := b
  simp only [OpT.mk.injEq]
  constructor
  · rintro ⟨h1, h2, h3, h4⟩; exact ⟨h1, h2, h4, h3⟩
  · rintro ⟨h1, h2, h3, h4⟩; exact ⟨h1, h2, h4, h3⟩
theorem SpecT.eq_iff (a b : SpecT) : a = b ↔ a.rep = b.rep ∧ a.doc = b.doc ∧ a.ops = b.ops := by
  obtain ⟨a1, a2, a3⟩ := a
  obtain ⟨b1, b2, b3⟩ := b
  simp only [SpecT.mk.injEq]
def SameR (p : Prop) (w : World) (e : Ending) (w' : World) : Prop := (∃ r : Bool, e = .returned (.bool r) ∧ (r = true ↔ p)) ∧ Below w.heap.size w w'
/-- Eight cells at a place of a row, each one named. -/
theorem OpsL.cellsX {w : World} {S : Nat → Prop} {A : Option Addr} {l : List OpT} (h : OpsL w S A l) (k : Nat) (hk : k < l.length) :
    ∃ b off PA pc VA vc VA' vc' TA tc, A = some ⟨b, off, none⟩ ∧ S b ∧ LV w S l[k].val (.agg #[.int .i64 l[k].val.kind, .int .i64 l[k].val.num, .string l[k].val.text, .slice VA l[k].val.items.length vc, .slice VA' l[k].val.names.length vc']) ∧ StrsAt w S PA l[k].path ∧ StrsAt w S TA l[k].to ∧ l[k].path.length ≤ 8796093021952 ∧ l[k].to.length ≤ 8796093021952 ∧
      w.cell? ⟨b, off + k * 8, none⟩ = some (.int .i64 l[k].kind) ∧ w.cell? ⟨b, off + k * 8 + 1, none⟩ = some (.slice PA l[k].path.length pc) ∧ w.cell? ⟨b, off + k * 8 + 2, none⟩ = some (.int .i64 l[k].val.kind) ∧ w.cell? ⟨b, off + k * 8 + 3, none⟩ = some (.int .i64 l[k].val.num) ∧ w.cell? ⟨b, off + k * 8 + 4, none⟩ = some (.string l[k].val.text) ∧ w.cell? ⟨b, off + k * 8 + 5, none⟩ = some (.slice VA l[k].val.items.length vc) ∧ w.cell? ⟨b, off + k * 8 + 6, none⟩ = some (.slice VA' l[k].val.names.length vc') ∧ w.cell? ⟨b, off + k * 8 + 7, none⟩ = some (.slice TA l[k].to.length tc) := by
  obtain ⟨b, off, hA, hb, hc⟩ := h (by omega)
  obtain ⟨cs, h1, h2⟩ := hc k hk
  obtain ⟨PA, pc, x0, x1, x2, x3, x4, TA, tc, rfl, h3, h4, h5, -, -, -, h6, h7⟩ := h2
  obtain ⟨VA, vc, VA', vc', hvs, -⟩ := h3.shape
  simp only [Value.agg.injEq, Array.mk.injEq, List.cons.injEq, and_true] at hvs
  obtain ⟨rfl, rfl, rfl, rfl, rfl⟩ := hvs
  exact ⟨b, off, PA, pc, VA, vc, VA', vc', TA, tc, hA, hb, h3, h4, h5, h6, h7, h1 0 _ rfl, h1 1 _ rfl, h1 2 _ rfl, h1 3 _ rfl, h1 4 _ rfl, h1 5 _ rfl, h1 6 _ rfl, h1 7 _ rfl⟩
def BelowW (w W : World) : Prop := Below w.heap.size w W
theorem OBox.call {w w' : World} {p : Nat} {c0 c1 c2 c3 c4 c5 c6 c7 : Value} (h : OBox w p c0 c1 c2 c3 c4 c5 c6 c7) (hb : Below w.heap.size w w') : OBox w' p c0 c1 c2 c3 c4 c5 c6 c7 := (hb.block p h.lt).trans h
theorem with_tail {F : Nat → Nat → World → Prop} {G : Nat → Nat → World → Prop} {P : Prop} (h1 : (∀ i0 i1 W, F i0 i1 W → G i0 i1 W) → P) (h2 : ∀ i0 i1 W, F i0 i1 W → G i0 i1 W) : P := h1 h2
set_option maxHeartbeats 16000000 in
theorem rsame7_any (S : Nat → Prop) (a b : SpecT) (ca cb : Array Value) (w : World) (hS : ∀ b, S b → b < w.heap.size) (ha : SpecL w S a ca) (hb : SpecL w S b cb) : Calls Try.prog 13 #[.agg ca, .agg cb] w (SameR (a = b) w) := by
  obtain ⟨DA, dc, DA', dc', OA, oc, rfl, hva, hoa, hoca, hola⟩ := ha
  obtain ⟨EA, ec, EA', ec', PA, pc, rfl, hvb, hob, hocb, holb⟩ := hb
  obtain ⟨w2, hw2⟩ : ∃ W, W = (w.alloc (.cells #[.bool a.rep, .int .i64 a.doc.kind, .int .i64 a.doc.num, .string a.doc.text, .slice DA a.doc.items.length dc, .slice DA' a.doc.names.length dc', .slice OA a.ops.length oc] 35)).alloc (.cells #[.bool b.rep, .int .i64 b.doc.kind, .int .i64 b.doc.num, .string b.doc.text, .slice EA b.doc.items.length ec, .slice EA' b.doc.names.length ec', .slice PA b.ops.length pc] 35) := ⟨_, rfl⟩
  have hq : TBox w2 w.heap.size (.bool a.rep) (.int .i64 a.doc.kind) (.int .i64 a.doc.num) (.string a.doc.text) (.slice DA a.doc.items.length dc) (.slice DA' a.doc.names.length dc') (.slice OA a.ops.length oc) := by rw [hw2]; exact (TBox.new w _ _ _ _ _ _ _).alloc _
  have hr : TBox w2 (w.heap.size + 1) (.bool b.rep) (.int .i64 b.doc.kind) (.int .i64 b.doc.num) (.string b.doc.text) (.slice EA b.doc.items.length ec) (.slice EA' b.doc.names.length ec') (.slice PA b.ops.length pc) := by
    have h := TBox.new (w.alloc (.cells #[.bool a.rep, .int .i64 a.doc.kind, .int .i64 a.doc.num, .string a.doc.text, .slice DA a.doc.items.length dc, .slice DA' a.doc.names.length dc', .slice OA a.ops.length oc] 35)) (.bool b.rep) (.int .i64 b.doc.kind) (.int .i64 b.doc.num) (.string b.doc.text) (.slice EA b.doc.items.length ec) (.slice EA' b.doc.names.length ec') (.slice PA b.ops.length pc)
    rw [← hw2, show (w.alloc (.cells #[.bool a.rep, .int .i64 a.doc.kind, .int .i64 a.doc.num, .string a.doc.text, .slice DA a.doc.items.length dc, .slice DA' a.doc.names.length dc', .slice OA a.ops.length oc] 35)).heap.size = w.heap.size + 1 by simp] at h
    exact h
  have hb2 : Below w.heap.size w w2 := by rw [hw2]; exact ((Below.refl _ _).alloc (Nat.le_refl _) _).alloc (by simp) _
  have hz2 : w2.heap.size = w.heap.size + 2 := by rw [hw2]; simp
  have hS2 : ∀ b, S b → b < w2.heap.size := fun b hb => by have := hS b hb; omega
  have hk2 : ∀ b, S b → w2.heap[b]? = w.heap[b]? := fun b hb => hb2.block b (hS b hb)
  have HQ := Lib.hid hq
  have HR := Lib.hid hr
  have HB2 := Lib.hid hb2
  have HZ2 := Lib.hid hz2
  have HS2 := Lib.hid hS2
  have HOA := Lib.hid (hoa.keep hk2)
  have HOB := Lib.hid (hob.keep hk2)
  have HV := Lib.hid (rsame_any S (depthT a.doc) a.doc b.doc _ _ w2 (Nat.le_refl _) hS2 (hva.keep hk2) (hvb.keep hk2))
  have HLL := Lib.hid (And.intro hola holb)
  have HW2 := Lib.hid hw2
  have hqf := fun i => hq.free i
  have q0 := hq.g0
  have r0 := hr.g0
  have q1 := hq.g1
  have r1 := hr.g1
  have q2 := hq.g2
  have r2 := hr.g2
  have q3 := hq.g3
  have r3 := hr.g3
  have q4 := hq.g4
  have r4 := hr.g4
  have q5 := hq.g5
  have r5 := hr.g5
  have q6 := hq.g6
  have r6 := hr.g6
  rw [hw2] at q0 r0 q1 r1 q2 r2 q3 r3 q4 r4 q5 r5 q6 r6 HV
  clear hva hvb hoa hob hq hr hb2 hz2 hS2 hk2 hoca hocb hola holb hqf
  obtain ⟨ra, hra⟩ : ∃ r, r = a.rep := ⟨_, rfl⟩
  obtain ⟨rb, hrb⟩ : ∃ r, r = b.rep := ⟨_, rfl⟩
  rw [← hra, ← hrb]
  rw [← hra, ← hrb] at hw2
  rw [← hra] at q0 HV
  rw [← hrb] at r0
  rw [← hrb] at HV
  simp only [← hra, ← hrb] at q0 r0 q1 r1 q2 r2 q3 r3 q4 r4 q5 r5 q6 r6
  have HRA := Lib.hid hra
  have HRB := Lib.hid hrb
  clear hra hrb
  go_enter Try.func13, Try.ntmps13
  by_cases hrr : ra = rb
  · have HRR : Hid (a.rep = b.rep) := Lib.hid (by rw [← HRA.out, ← HRB.out]; exact hrr)
    clear HRA HRB
    subst hrr
    have d0 : (ra != ra) = false := by simp
    go_wp2_with fail
    refine HV.out.mono ?_
    rintro e w3 ⟨⟨x, rfl, hx⟩, hb3⟩
    rw [← hw2] at hb3
    have HX := Lib.hid hx
    have HB3 := Lib.hid hb3
    have hq3 := HQ.out.call hb3
    have hr3 := HR.out.call hb3
    have HQ3 := Lib.hid hq3
    have HR3 := Lib.hid hr3
    clear hx hb3 HV q0 r0 q1 r1 q2 r2 q3 r3 q4 r4 q5 r5 q6 r6
    have q0 := hq3.g0
    have r0 := hr3.g0
    have q1 := hq3.g1
    have r1 := hr3.g1
    have q2 := hq3.g2
    have r2 := hr3.g2
    have q3 := hq3.g3
    have r3 := hr3.g3
    have q4 := hq3.g4
    have r4 := hr3.g4
    have q5 := hq3.g5
    have r5 := hr3.g5
    have q6 := hq3.g6
    have r6 := hr3.g6
    have l0 := HLL.out.1
    have l1 := HLL.out.2
    clear hq3 hr3 hw2 d0
    obtain ⟨na, hna⟩ : ∃ n, n = a.ops.length := ⟨_, rfl⟩
    obtain ⟨nb, hnb⟩ : ∃ n, n = b.ops.length := ⟨_, rfl⟩
    rw [← hna] at l0 q6
    rw [← hnb] at l1 r6
    have HNA := Lib.hid hna
    have HNB := Lib.hid hnb
    clear hna hnb
    cases x with
    | false =>
      go_wp2_with fail
      go_ret
      exact ⟨⟨false, rfl, by simp; intro h; have := HX.out.2 (by rw [h]); cases this⟩, HB2.out.trans (HB3.out.mono HB2.out.size)⟩
    | true =>
      by_cases hl : na = nb
      · have dl : ((na : Int) != (nb : Int)) = false := by simp [hl]
        have HL := Lib.hid hl
        clear hl
        go_wp2_with fail
        go_loopw [5] (fun i wr => ∃ k : Nat, i = .int .i64 k ∧ k ≤ na ∧ Hid (Below w3.heap.size w3 wr) ∧ Hid (∀ j (h : j < a.ops.length) (h' : j < b.ops.length), j < k → a.ops[j] = b.ops[j])) (fun i _ => na - (intOf i).toNat)
        case atStart => exact ⟨0, rfl, by omega, Lib.hid (Below.refl _ _), Lib.hid (fun j _ _ h => by omega)⟩
        case round =>
          obtain ⟨k, rfl, hk, HBR, HEQ⟩ := hrel
          have hqr := HQ3.out.call HBR.out
          have hrr := HR3.out.call HBR.out
          rw [← HNA.out] at hqr
          rw [← HNB.out] at hrr
          clear q0 r0 q1 r1 q2 r2 q3 r3 q4 r4 q5 r5 q6 r6
          have q0 := hqr.g0
          have r0 := hrr.g0
          have q1 := hqr.g1
          have r1 := hrr.g1
          have q2 := hqr.g2
          have r2 := hrr.g2
          have q3 := hqr.g3
          have r3 := hrr.g3
          have q4 := hqr.g4
          have r4 := hrr.g4
          have q5 := hqr.g5
          have r5 := hrr.g5
          have q6 := hqr.g6
          have r6 := hrr.g6
          by_cases hlt : k < na
          · have d1 : decide ((k : Int) < (na : Int)) = true := decide_eq_true (by omega)
            obtain ⟨A0, o0, P0, pc0, V0, vc0, W0, wc0, T0, tc0, rfl, hSA, hva, hpa, hta, hpl, htl, g0, g1, g2, g3, g4, g5, g6, g7⟩ := ((HOA.out.keep fun b hb => (HB3.out.block b (HS2.out b hb))).keep fun b hb => HBR.out.block b (Nat.lt_of_lt_of_le (HS2.out b hb) HB3.out.size)).cellsX k (by rw [← HNA.out]; exact hlt)
            obtain ⟨B0, p0, P1, pc1, V1, vc1, W1, wc1, T1, tc1, rfl, hSB, hvb, hpb, htb, hpm, htm, m0, m1, m2, m3, m4, m5, m6, m7⟩ := ((HOB.out.keep fun b hb => (HB3.out.block b (HS2.out b hb))).keep fun b hb => HBR.out.block b (Nat.lt_of_lt_of_le (HS2.out b hb) HB3.out.size)).cellsX k (by rw [← HNB.out, ← HL.out]; exact hlt)
            obtain ⟨x, hx⟩ : ∃ x, x = a.ops[k]'(by rw [← HNA.out]; exact hlt) := ⟨_, rfl⟩
            obtain ⟨y, hy⟩ : ∃ y, y = b.ops[k]'(by rw [← HNB.out, ← HL.out]; exact hlt) := ⟨_, rfl⟩
            rw [← hx] at hva hpa hta hpl htl g0 g1 g2 g3 g4 g5 g6 g7
            rw [← hy] at hvb hpb htb hpm htm m0 m1 m2 m3 m4 m5 m6 m7
            have HXY := Lib.hid (And.intro hx hy)
            have HAB := Lib.hid (And.intro hva (And.intro hpa (And.intro hta (And.intro hpl (And.intro htl (And.intro hvb (And.intro hpb (And.intro htb (And.intro hpm htm)))))))))
            have hlt2 : k < nb := by have := HL.out; omega
            have zq := hqr.lt
            have zr := hrr.lt
            have zA : A0 < wr.heap.size := Nat.lt_of_lt_of_le (HS2.out _ hSA) (Nat.le_trans HB3.out.size HBR.out.size)
            have zB : B0 < wr.heap.size := Nat.lt_of_lt_of_le (HS2.out _ hSB) (Nat.le_trans HB3.out.size HBR.out.size)
            have HSR := Lib.hid (show ∀ b, S b → b < wr.heap.size from fun b hb => Nat.lt_of_lt_of_le (HS2.out b hb) (Nat.le_trans HB3.out.size HBR.out.size))
            have HFIN := Lib.hid (show ∀ W, Below wr.heap.size wr W → BelowW w W from fun W hW => HB2.out.trans (HB3.out.mono HB2.out.size |>.trans ((HBR.out.trans (hW.mono HBR.out.size)).mono (Nat.le_trans HB2.out.size HB3.out.size))))
            have HW3 := Lib.hid (show ∀ W, Below wr.heap.size wr W → Below w3.heap.size w3 W from fun W hW => HBR.out.trans (hW.mono HBR.out.size))
            have HNO := Lib.hid (show x ≠ y → a ≠ b from fun hne h => hne (by rw [HXY.out.1, HXY.out.2]; subst h; rfl))
            have HNX := Lib.hid (show x = y → ∀ j (h : j < a.ops.length) (h' : j < b.ops.length), j < k + 1 → a.ops[j] = b.ops[j] from fun he j h h' hj => by
              by_cases hjk : j < k
              · exact HEQ.out j h h' hjk
              · obtain rfl : j = k := by omega
                rw [← HXY.out.1, ← HXY.out.2]; exact he)
            clear HOA HOB HQ HR HB2 HQ3 HR3 HB3 HBR HEQ HX hqr hrr hva hpa hta hpl htl hvb hpb htb hpm htm hx hy HXY hSA hSB HZ2 HS2 HW2
            have HALL := Lib.hid (And.intro HSR (And.intro HFIN (And.intro HW3 (And.intro HNO (And.intro HNX HAB)))))
            clear HSR HFIN HW3 HNO HNX HAB
            go_wp2_with fail
            generalize hu : w.heap.size + 1 = u at r0 r1 r2 r3 r4 r5 r6 zr ⊢
            generalize hv : w.heap.size = v at q0 q1 q2 q3 q4 q5 q6 zq ⊢
            have HU := Lib.hid (And.intro hu hv)
            clear hu hv
            apply with_tail (F := fun i0 i1 W => OBox W i0 (.int .i64 x.kind) (.slice P0 x.path.length pc0) (.int .i64 x.val.kind) (.int .i64 x.val.num) (.string x.val.text) (.slice V0 x.val.items.length vc0) (.slice W0 x.val.names.length wc0) (.slice T0 x.to.length tc0) ∧ OBox W i1 (.int .i64 y.kind) (.slice P1 y.path.length pc1) (.int .i64 y.val.kind) (.int .i64 y.val.num) (.string y.val.text) (.slice V1 y.val.items.length vc1) (.slice W1 y.val.names.length wc1) (.slice T1 y.to.length tc1) ∧ Below wr.heap.size wr W)
            · intro TAIL
              go_region
              · generalize hW : ((wr.alloc (.cells #[.int .i64 x.kind, .slice P0 x.path.length pc0, .int .i64 x.val.kind, .int .i64 x.val.num, .string x.val.text, .slice V0 x.val.items.length vc0, .slice W0 x.val.names.length wc0, .slice T0 x.to.length tc0] 27)).alloc (.cells #[.int .i64 y.kind, .slice P1 y.path.length pc1, .int .i64 y.val.kind, .int .i64 y.val.num, .string y.val.text, .slice V1 y.val.items.length vc1, .slice W1 y.val.names.length wc1, .slice T1 y.to.length tc1] 27)).drew = W
                have hn : OBox W wr.heap.size (.int .i64 x.kind) (.slice P0 x.path.length pc0) (.int .i64 x.val.kind) (.int .i64 x.val.num) (.string x.val.text) (.slice V0 x.val.items.length vc0) (.slice W0 x.val.names.length wc0) (.slice T0 x.to.length tc0) := by rw [← hW]; exact (OBox.new wr (.int .i64 x.kind) (.slice P0 x.path.length pc0) (.int .i64 x.val.kind) (.int .i64 x.val.num) (.string x.val.text) (.slice V0 x.val.items.length vc0) (.slice W0 x.val.names.length wc0) (.slice T0 x.to.length tc0)).alloc _
                have hm : OBox W (wr.heap.size + 1) (.int .i64 y.kind) (.slice P1 y.path.length pc1) (.int .i64 y.val.kind) (.int .i64 y.val.num) (.string y.val.text) (.slice V1 y.val.items.length vc1) (.slice W1 y.val.names.length wc1) (.slice T1 y.to.length tc1) := by
                  have h := OBox.new (wr.alloc (.cells #[.int .i64 x.kind, .slice P0 x.path.length pc0, .int .i64 x.val.kind, .int .i64 x.val.num, .string x.val.text, .slice V0 x.val.items.length vc0, .slice W0 x.val.names.length wc0, .slice T0 x.to.length tc0] 27)) (.int .i64 y.kind) (.slice P1 y.path.length pc1) (.int .i64 y.val.kind) (.int .i64 y.val.num) (.string y.val.text) (.slice V1 y.val.items.length vc1) (.slice W1 y.val.names.length wc1) (.slice T1 y.to.length tc1)
                  rw [show (wr.alloc (.cells #[.int .i64 x.kind, .slice P0 x.path.length pc0, .int .i64 x.val.kind, .int .i64 x.val.num, .string x.val.text, .slice V0 x.val.items.length vc0, .slice W0 x.val.names.length wc0, .slice T0 x.to.length tc0] 27)).heap.size = wr.heap.size + 1 by simp] at h
                  rw [← hW]; exact h
                have hB : Below wr.heap.size wr W := by rw [← hW]; exact (((Below.refl _ _).alloc (Nat.le_refl _) _).alloc (by simp) _).drew
                have hp := hn
                have hq := hm
                clear hn hm hW
                generalize wr.heap.size + 1 = i1 at hp hq ⊢
                generalize hz : wr.heap.size = i0 at hp hq ⊢
                exact TAIL i0 i1 W ⟨hp, hq, hB⟩
              · generalize hW : ((wr.alloc (.cells #[.int .i64 y.kind, .slice P1 y.path.length pc1, .int .i64 y.val.kind, .int .i64 y.val.num, .string y.val.text, .slice V1 y.val.items.length vc1, .slice W1 y.val.names.length wc1, .slice T1 y.to.length tc1] 27)).alloc (.cells #[.int .i64 x.kind, .slice P0 x.path.length pc0, .int .i64 x.val.kind, .int .i64 x.val.num, .string x.val.text, .slice V0 x.val.items.length vc0, .slice W0 x.val.names.length wc0, .slice T0 x.to.length tc0] 27)).drew = W
                have hn : OBox W wr.heap.size (.int .i64 y.kind) (.slice P1 y.path.length pc1) (.int .i64 y.val.kind) (.int .i64 y.val.num) (.string y.val.text) (.slice V1 y.val.items.length vc1) (.slice W1 y.val.names.length wc1) (.slice T1 y.to.length tc1) := by rw [← hW]; exact (OBox.new wr (.int .i64 y.kind) (.slice P1 y.path.length pc1) (.int .i64 y.val.kind) (.int .i64 y.val.num) (.string y.val.text) (.slice V1 y.val.items.length vc1) (.slice W1 y.val.names.length wc1) (.slice T1 y.to.length tc1)).alloc _
                have hm : OBox W (wr.heap.size + 1) (.int .i64 x.kind) (.slice P0 x.path.length pc0) (.int .i64 x.val.kind) (.int .i64 x.val.num) (.string x.val.text) (.slice V0 x.val.items.length vc0) (.slice W0 x.val.names.length wc0) (.slice T0 x.to.length tc0) := by
                  have h := OBox.new (wr.alloc (.cells #[.int .i64 y.kind, .slice P1 y.path.length pc1, .int .i64 y.val.kind, .int .i64 y.val.num, .string y.val.text, .slice V1 y.val.items.length vc1, .slice W1 y.val.names.length wc1, .slice T1 y.to.length tc1] 27)) (.int .i64 x.kind) (.slice P0 x.path.length pc0) (.int .i64 x.val.kind) (.int .i64 x.val.num) (.string x.val.text) (.slice V0 x.val.items.length vc0) (.slice W0 x.val.names.length wc0) (.slice T0 x.to.length tc0)
                  rw [show (wr.alloc (.cells #[.int .i64 y.kind, .slice P1 y.path.length pc1, .int .i64 y.val.kind, .int .i64 y.val.num, .string y.val.text, .slice V1 y.val.items.length vc1, .slice W1 y.val.names.length wc1, .slice T1 y.to.length tc1] 27)).heap.size = wr.heap.size + 1 by simp] at h
                  rw [← hW]; exact h
                have hB : Below wr.heap.size wr W := by rw [← hW]; exact (((Below.refl _ _).alloc (Nat.le_refl _) _).alloc (by simp) _).drew
                have hp := hm
                have hq := hn
                clear hn hm hW
                generalize wr.heap.size + 1 = i1 at hp hq ⊢
                generalize hz : wr.heap.size = i0 at hp hq ⊢
                exact TAIL i1 i0 W ⟨hp, hq, hB⟩
            · intro i0 i1 W hF
              obtain ⟨hp, hq, hB⟩ := hF
              obtain ⟨HSR, HFIN, HW3, HNO, HNX, HAB⟩ := HALL.out
              clear HALL q0 q1 q2 q3 q4 q5 q6 r0 r1 r2 r3 r4 r5 r6 g0 g1 g2 g3 g4 g5 g6 g7 m0 m1 m2 m3 m4 m5 m6 m7 zq zr zA zB
              have HB := Lib.hid hB
              have HP := Lib.hid hp
              have HQ := Lib.hid hq
              have hS1 : ∀ b, S b → b < W.heap.size := fun b hb => Nat.lt_of_lt_of_le (HSR.out b hb) HB.out.size
              have hk1 : ∀ b, S b → W.heap[b]? = wr.heap[b]? := fun b hb => HB.out.block b (HSR.out b hb)
              have HC1 := Lib.hid (rpsame_any P0 P1 pc0 pc1 x.path y.path W S S (HAB.out.2.1.keep hk1) (HAB.out.2.2.2.2.2.2.1.keep hk1) hS1 hS1 (by have := HAB.out.2.2.2.1; omega) (by have := HAB.out.2.2.2.2.2.2.2.2.1; omega))
              have e0 := hp.g0
              have f0 := hq.g0
              have e1 := hp.g1
              have f1 := hq.g1
              have e2 := hp.g2
              have f2 := hq.g2
              have e3 := hp.g3
              have f3 := hq.g3
              have e4 := hp.g4
              have f4 := hq.g4
              have e5 := hp.g5
              have f5 := hq.g5
              have e6 := hp.g6
              have f6 := hq.g6
              have e7 := hp.g7
              have f7 := hq.g7
              clear hp hq hB hS1 hk1
              by_cases hkk : x.kind = y.kind
              · have dk : (x.kind != y.kind) = false := by simp [hkk]
                have HKK := Lib.hid hkk
                clear hkk
                go_wp2_with fail
                refine HC1.out.mono ?_
                rintro e W1' ⟨rfl, hb⟩
                obtain ⟨x1, hx⟩ : ∃ r, r = decide (x.path = y.path) := ⟨_, rfl⟩
                rw [← hx]
                have HX1 : Hid (x1 = true ↔ x.path = y.path) := Lib.hid (by rw [hx]; exact decide_eq_true_iff)
                clear hx
                clear e0 f0 e1 f1 e2 f2 e3 f3 e4 f4 e5 f5 e6 f6 e7 f7
                have hb0 := HB.out
                have hp := HP.out.call hb
                have hq := HQ.out.call hb
                replace HB := Lib.hid (hb0.trans (hb.mono hb0.size))
                clear HP HQ HC1
                have HP := Lib.hid hp
                have HQ := Lib.hid hq
                have hS1 : ∀ b, S b → b < W1'.heap.size := fun b hb => Nat.lt_of_lt_of_le (HSR.out b hb) HB.out.size
                have hk1 : ∀ b, S b → W1'.heap[b]? = wr.heap[b]? := fun b hb => HB.out.block b (HSR.out b hb)
                have HC2 := Lib.hid (rpsame_any T0 T1 tc0 tc1 x.to y.to W1' S S (HAB.out.2.2.1.keep hk1) (HAB.out.2.2.2.2.2.2.2.1.keep hk1) hS1 hS1 (by have := HAB.out.2.2.2.2.1; omega) (by have := HAB.out.2.2.2.2.2.2.2.2.2; omega))
                have e0 := hp.g0
                have f0 := hq.g0
                have e1 := hp.g1
                have f1 := hq.g1
                have e2 := hp.g2
                have f2 := hq.g2
                have e3 := hp.g3
                have f3 := hq.g3
                have e4 := hp.g4
                have f4 := hq.g4
                have e5 := hp.g5
                have f5 := hq.g5
                have e6 := hp.g6
                have f6 := hq.g6
                have e7 := hp.g7
                have f7 := hq.g7
                clear hp hq hb hb0 hS1 hk1
                cases x1 with
                | false =>
                  go_wp2_with fail
                  go_ret
                  exact ⟨⟨false, rfl, by simp; exact HNO.out fun h => by have := HX1.out.2 (by rw [h]); cases this⟩, HFIN.out _ HB.out⟩
                | true =>
                  go_wp2_with fail
                  refine HC2.out.mono ?_
                  rintro e W2' ⟨rfl, hb⟩
                  obtain ⟨x2, hx⟩ : ∃ r, r = decide (x.to = y.to) := ⟨_, rfl⟩
                  rw [← hx]
                  have HX2 : Hid (x2 = true ↔ x.to = y.to) := Lib.hid (by rw [hx]; exact decide_eq_true_iff)
                  clear hx
                  clear e0 f0 e1 f1 e2 f2 e3 f3 e4 f4 e5 f5 e6 f6 e7 f7
                  have hb0 := HB.out
                  have hp := HP.out.call hb
                  have hq := HQ.out.call hb
                  replace HB := Lib.hid (hb0.trans (hb.mono hb0.size))
                  clear HP HQ HC2
                  have HP := Lib.hid hp
                  have HQ := Lib.hid hq
                  have hS1 : ∀ b, S b → b < W2'.heap.size := fun b hb => Nat.lt_of_lt_of_le (HSR.out b hb) HB.out.size
                  have hk1 : ∀ b, S b → W2'.heap[b]? = wr.heap[b]? := fun b hb => HB.out.block b (HSR.out b hb)
                  have HC3 := Lib.hid (rsame_any S (depthT x.val) x.val y.val _ _ W2' (Nat.le_refl _) hS1 (HAB.out.1.keep hk1) (HAB.out.2.2.2.2.2.1.keep hk1))
                  have e0 := hp.g0
                  have f0 := hq.g0
                  have e1 := hp.g1
                  have f1 := hq.g1
                  have e2 := hp.g2
                  have f2 := hq.g2
                  have e3 := hp.g3
                  have f3 := hq.g3
                  have e4 := hp.g4
                  have f4 := hq.g4
                  have e5 := hp.g5
                  have f5 := hq.g5
                  have e6 := hp.g6
                  have f6 := hq.g6
                  have e7 := hp.g7
                  have f7 := hq.g7
                  clear hp hq hb hb0 hS1 hk1
                  cases x2 with
                  | false =>
                    go_wp2_with fail
                    go_ret
                    exact ⟨⟨false, rfl, by simp; exact HNO.out fun h => by have := HX2.out.2 (by rw [h]); cases this⟩, HFIN.out _ HB.out⟩
                  | true =>
                    go_wp2_with fail
                    refine HC3.out.mono ?_
                    rintro e W3' ⟨⟨x3, rfl, hx⟩, hb⟩
                    have HX3 := Lib.hid hx
                    clear hx
                    clear e0 f0 e1 f1 e2 f2 e3 f3 e4 f4 e5 f5 e6 f6 e7 f7
                    have hb0 := HB.out
                    have hp := HP.out.call hb
                    have hq := HQ.out.call hb
                    replace HB := Lib.hid (hb0.trans (hb.mono hb0.size))
                    clear HP HQ HC3
                    have HP := Lib.hid hp
                    have HQ := Lib.hid hq
                    have hS1 : ∀ b, S b → b < W3'.heap.size := fun b hb => Nat.lt_of_lt_of_le (HSR.out b hb) HB.out.size
                    have hk1 : ∀ b, S b → W3'.heap[b]? = wr.heap[b]? := fun b hb => HB.out.block b (HSR.out b hb)
                    have e0 := hp.g0
                    have f0 := hq.g0
                    have e1 := hp.g1
                    have f1 := hq.g1
                    have e2 := hp.g2
                    have f2 := hq.g2
                    have e3 := hp.g3
                    have f3 := hq.g3
                    have e4 := hp.g4
                    have f4 := hq.g4
                    have e5 := hp.g5
                    have f5 := hq.g5
                    have e6 := hp.g6
                    have f6 := hq.g6
                    have e7 := hp.g7
                    have f7 := hq.g7
                    clear hp hq hb hb0 hS1 hk1
                    cases x3 with
                    | false =>
                      go_wp2_with fail
                      go_ret
                      exact ⟨⟨false, rfl, by simp; exact HNO.out fun h => by have := HX3.out.2 (by rw [h]); cases this⟩, HFIN.out _ HB.out⟩
                    | true =>
                      go_wp2_with fail
                      have hxy : x = y := (OpT.eq_iff x y).2 ⟨HKK.out, HX1.out.1 trivial, HX2.out.1 trivial, HX3.out.1 trivial⟩
                      obtain ⟨hu, hv⟩ := HU.out
                      clear HU
                      subst hu
                      subst hv
                      go_roundw
                      case rel => exact ⟨k + 1, by go_num, by omega, Lib.hid (HW3.out _ HB.out), Lib.hid (HNX.out hxy)⟩
                      case measure => simp [intOf]; omega
              · have dk : (x.kind != y.kind) = true := by simp [hkk]
                have HKK := Lib.hid hkk
                clear hkk
                go_wp2_with fail
                go_ret
                exact ⟨⟨false, rfl, by simp; exact HNO.out fun h => HKK.out (by rw [h])⟩, HFIN.out _ HB.out⟩
          · have d1 : decide ((k : Int) < (na : Int)) = false := decide_eq_false (by omega)
            go_wp2_with fail
            go_ret
            refine ⟨⟨true, rfl, by simp; exact (SpecT.eq_iff a b).2 ⟨HRR.out, HX.out.1 trivial, List.ext_getElem (by rw [← HNA.out, ← HNB.out]; exact HL.out) fun j h1 h2 => HEQ.out j h1 h2 (by have := HNA.out; omega)⟩⟩, HB2.out.trans (HB3.out.mono HB2.out.size |>.trans (HBR.out.mono (Nat.le_trans HB2.out.size HB3.out.size)))⟩
      · have dl : ((na : Int) != (nb : Int)) = true := by simp; omega
        have HL := Lib.hid hl
        clear hl
        go_wp2_with fail
        go_ret
        exact ⟨⟨false, rfl, by simp; intro h; exact HL.out (by rw [HNA.out, HNB.out, h])⟩, HB2.out.trans (HB3.out.mono HB2.out.size)⟩
  · have HRR : Hid (a.rep ≠ b.rep) := Lib.hid (by rw [← HRA.out, ← HRB.out]; exact hrr)
    clear HRA HRB
    cases ra <;> cases rb <;> first | exact absurd rfl hrr | skip
    all_goals
      go_wp2_with fail
      go_ret
      exact ⟨⟨false, rfl, by simp; intro h; exact HRR.out (by rw [h])⟩, by rw [← hw2]; exact HB2.out⟩
end Go.Proofs.Ytipiplnhbecjeaa
