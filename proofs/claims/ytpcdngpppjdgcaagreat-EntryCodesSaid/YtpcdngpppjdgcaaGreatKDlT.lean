/- The program's reading of a change's code. -/
import Derived.Test.YtpcdngpppjdgcaaGreatKCodA
import Derived.Test.YtpcdngpppjdgcaaGreatKDlH
import Derived.Test.YtpcdngpppjdgcaaGreatKCodS
import Derived.Test.YtpcdngpppjdgcaaGreatKTrA
import Derived.Test.YtpcdngpppjdgcaaGreatKValP
import Derived.Test.YtpcdngpppjdgcaaGreatKRefT
import Derived.Test.YtpcdngpppjdgcaaGreatKCodV
import Derived.Maps.AppendAt
namespace Go.Proofs.YtpcdngpppjdgcaaGreat
open Lib (hid)
set_option linter.unusedVariables false
set_option linter.unusedSimpArgs false
open Go.RowKit
set_option maxRecDepth 100000
def rdD (st : Option (List UInt8)) : DelT × Option (List UInt8) :=
  if (rdByte st).1 = 1 then (⟨1, (rdPathO (rdByte st).2).1, (readO (rdPathO (rdByte st).2).2).1, 0⟩, (readO (rdPathO (rdByte st).2).2).2)
  else if (rdByte st).1 = 3 then (⟨3, (rdPathO (rdByte st).2).1, noneV, ((rdCount 999 (rdPathO (rdByte st).2).2).1 : Nat)⟩, (rdCount 999 (rdPathO (rdByte st).2).2).2)
  else (⟨(rdByte st).1, (rdPathO (rdByte st).2).1, noneV, 0⟩, (rdPathO (rdByte st).2).2)
theorem results_cell_d {fn : Func} {p : Tmp} (h : fn.results = #[.cell p 95]) (tmps : Array Value) (w : World) (g : Nat) (t : TypeId) (cs : Array Value) (fr : Nat × Nat)
    (hp : tmps.getD p undef = .pointer (some ⟨g, 0, none⟩)) (hg : w.heap[g]? = some (.cells cs t fr)) (hi : (Tryz.prog.info? 95).map (·.size) = some cs.size) :
    (results fn tmps).run Tryz.prog w = .ok (.agg cs) w := by
  have hp' : tmps[p]?.getD undef = .pointer (some ⟨g, 0, none⟩) := by simpa using hp
  have e := run_loadVar_row w g t 95 cs fr _ hg Tryz.underlying95 rfl hi
  simp [results, h, hp', asAddr, Sem.run_bind, Result.andThen, e]
theorem own_none {w : World} {B n k c : Nat} {t : TypeId} {A : Option Addr} {xs : List Value} (h : w.ownsRow B t k (.slice A n c) n xs) : A = none → c = 0 := by
  obtain ⟨A', c', e, h1, -⟩ := own_slice h
  injection e with e1 e2 e3
  subst e1 e3
  exact h1
def ReadDR (g : Nat) (st : Option (List UInt8)) (w : World) (e : Ending) (w' : World) : Prop :=
  ∃ cs : Array Value, e = .returned (.agg cs) ∧ DelL w' (NewB w.heap.size w') (rdD st).1 cs ∧ SrcL w' g (rdD st).2 ∧ Only w w' g
theorem del_end {w W : World} {g : Nat} {st : Option (List UInt8)} {S : Nat → Prop} {c0 c1 c2 c3 c4 c5 c6 c7 : Value} (hs : SrcL W g (rdD st).2) (ho : Only w W g) (hg : g < w.heap.size) (h : DelL W S (rdD st).1 #[c0, c1, c2, c3, c4, c5, c6, c7]) (hS : ∀ b, S b → w.heap.size + 1 ≤ b ∧ b < W.heap.size) :
    ReadDR g st w (.returned (.agg #[c0, c1, c2, c3, c4, c5, c6, c7])) (eightD W w.heap.size c0 c1 c2 c3 c4 c5 c6 c7) := by
  have hz : (eightD W w.heap.size c0 c1 c2 c3 c4 c5 c6 c7).heap.size = W.heap.size := eightD_size
  refine ⟨_, rfl, (h.keep fun b hb => eightD_other b (by have := hS b hb; omega)).imp fun b hb => ?_, hs.of (eightD_other g (by omega)), ?_⟩
  · have := hS b hb
    exact ⟨by omega, by rw [hz]; omega⟩
  · exact ⟨eightD_rest.1.trans ho.os, eightD_rest.2.1.trans ho.tape, eightD_rest.2.2.trans ho.output, by rw [hz]; exact ho.size, fun b hb hne => (eightD_other b (by omega)).trans (ho.block b hb hne)⟩
set_option maxHeartbeats 8000000 in
theorem readd_any (g : Nat) (st : Option (List UInt8)) (w : World) (hs : SrcL w g st) : Calls Tryz.prog 140 #[.pointer (some ⟨g, 0, none⟩)] w (ReadDR g st w) := by
  have hgl := hs.lt
  have HC := hid (sbyte_any g st _ (hs.alloc (.cells #[.int .i64 0, .slice none 0 0, .int .i64 0, .int .i64 0, .string ⟨#[]⟩, .slice none 0 0, .slice none 0 0, .int .i64 0] 95)))
  have hr0 : DBox (w.alloc (.cells #[.int .i64 0, .slice none 0 0, .int .i64 0, .int .i64 0, .string ⟨#[]⟩, .slice none 0 0, .slice none 0 0, .int .i64 0] 95)) w.heap.size _ _ _ _ _ _ _ _ := DBox.new w _ _ _ _ _ _ _ _
  have ho0 : Only w (w.alloc (.cells #[.int .i64 0, .slice none 0 0, .int .i64 0, .int .i64 0, .string ⟨#[]⟩, .slice none 0 0, .slice none 0 0, .int .i64 0] 95)) g := ⟨rfl, rfl, rfl, by simp, fun b hb _ => Below.heap_alloc w _ b hb⟩
  have HR0 := hid hr0
  have HO0 := hid ho0
  clear hs hr0 ho0
  go_enter Tryz.func140, Tryz.ntmps140
  go_wp2_with fail
  refine HC.out.mono ?_
  rintro e w1 ⟨rfl, hs1, ho1⟩
  obtain ⟨n, hn⟩ : ∃ n, n = (rdByte st).1 := ⟨_, rfl⟩
  obtain ⟨s1, hs1'⟩ : ∃ s1, s1 = (rdByte st).2 := ⟨_, rfl⟩
  rw [← hs1'] at hs1
  rw [← hn]
  have hn256 : n < 256 := by rw [hn]; exact rdByte_lt st
  have hr1 := HR0.out.only ho1 (by omega)
  have hl1 := hr1.lt
  obtain ⟨X, hX⟩ : ∃ X : Obj, X = .cells #[.int .i64 n, .slice none 0 0, .int .i64 0, .int .i64 0, .string ⟨#[]⟩, .slice none 0 0, .slice none 0 0, .int .i64 0] 95 := ⟨_, rfl⟩
  have hq2 : DBox (w1.alloc X) w1.heap.size (.int .i64 n) (.slice none 0 0) (.int .i64 0) (.int .i64 0) (.string ⟨#[]⟩) (.slice none 0 0) (.slice none 0 0) (.int .i64 0) := by rw [hX]; exact DBox.new w1 _ _ _ _ _ _ _ _
  have HN := hid hn
  have HS1 := hid hs1'
  have HO2 := hid ((HO0.out.trans ho1).trans (show Only w1 (w1.alloc X) g from ⟨rfl, rfl, rfl, by simp, fun b hb _ => Below.heap_alloc w1 _ b hb⟩))
  have HP := hid (readpath_any g s1 (w1.alloc X) (hs1.alloc X))
  have HR2 := hid (hr1.alloc X)
  have HQ2 := hid hq2
  have hz2 : (w1.alloc X).heap.size = w1.heap.size + 1 := by simp
  have HZ2 := hid hz2
  rw [hX] at HP
  rw [hX] at HO2 HR2 HQ2 HZ2
  clear hs1 ho1 hn hs1' HC hX HR0 HO0 hr1 hq2 hz2
  go_wp2_with fail
  refine HP.out.mono ?_
  rintro e w3 ⟨A, c, rfl, hrow3, hs3, ho3⟩
  have hcA : A = none → c = 0 := own_none hrow3
  obtain ⟨hc3, hst3⟩ := strs_own hrow3 (by unfold rdPathO; exact rdK_size _ _)
  have hp8 := rdPathO_len s1
  obtain ⟨P, hP⟩ : ∃ P, P = (rdPathO s1).1 := ⟨_, rfl⟩
  obtain ⟨s2, hs2'⟩ : ∃ s, s = (rdPathO s1).2 := ⟨_, rfl⟩
  rw [← hP] at hc3 hst3 hp8 ⊢
  rw [← hs2'] at hs3
  have hr3 := HR2.out.only ho3 (by omega)
  have hq3 := HQ2.out.only ho3 (by omega)
  have ho4 := HO2.out.trans ho3
  have hz3 : w1.heap.size + 1 ≤ w3.heap.size := by have := ho3.size; have := HZ2.out; omega
  have hst4 := hst3.imp (S' := fun b => w1.heap.size + 1 ≤ b ∧ b < w3.heap.size) fun b hb => by rw [HZ2.out] at hb; exact hb
  obtain ⟨w4, hw4⟩ : ∃ W, W = w3.setCell ⟨w1.heap.size, 1, none⟩ (.slice A P.length c) := ⟨_, rfl⟩
  have k4 : ∀ b, b ≠ w1.heap.size → w4.heap[b]? = w3.heap[b]? := fun b hb => by rw [hw4]; exact heap_setCell_other _ ⟨w1.heap.size, 1, none⟩ b _ hb
  have z4 : w4.heap.size = w3.heap.size := by rw [hw4]; simp
  have hq4 := hq3.set1 (.slice A P.length c)
  rw [← hw4] at hq4
  have hr4 := hr3.other w1.heap.size 1 (.slice A P.length c) (by omega)
  rw [← hw4] at hr4
  have hs4 : SrcL w4 g s2 := hs3.of (k4 g (by omega))
  have ho5 : Only w w4 g := ⟨by rw [hw4]; exact ho4.os, by rw [hw4]; exact ho4.tape, by rw [hw4]; exact ho4.output, by rw [z4]; exact ho4.size, fun b hb hne => (k4 b (by omega)).trans (ho4.block b hb hne)⟩
  have hst5 : StrsAt w4 (fun b => w1.heap.size + 1 ≤ b ∧ b < w4.heap.size) A P := (hst4.keep fun b hb => k4 b (by omega)).imp fun b hb => by rw [z4]; exact hb
  have HQ4 := hid hq4
  have HR4 := hid hr4
  have HS4 := hid hs4
  have HO5 := hid ho5
  have HST := hid hst5
  have HPP := hid (And.intro hP hs2')
  have HC3 := hid (And.intro hc3 hcA)
  have HZ4 := hid (show w1.heap.size + 1 ≤ w4.heap.size by omega)
  have HL := hid (And.intro hl1 hp8)
  have HN256 := hid hn256
  have HP6 := hid (scount_any g s2 999 w4 hs4 (by omega))
  have HV6 := hid (cread_any g s2 w4 hs4)
  have q3f := fun i => hq3.free i
  have q30 := hq3.g0
  have q31 := hq3.g1
  have q32 := hq3.g2
  have q33 := hq3.g3
  have q34 := hq3.g4
  have q35 := hq3.g5
  have q36 := hq3.g6
  have q37 := hq3.g7
  have r3f := fun i => hr3.free i
  clear hrow3 hs3 ho3 hcA hc3 hst3 hP hs2' hr3 hq3 ho4 hst4 k4 z4 hq4 hr4 hs4 ho5 hst5 HP HO2 HR2 HQ2 HZ2 hz3 hp8 hn256
  by_cases h1 : n = 1
  · have d1 : ((n : Int) == 1) = true := beq_iff_eq.2 (by omega)
    have H6 := hid h1
    rw [hw4] at HV6
    clear HP6 h1
    go_wp2_with fail
    refine HV6.out.mono ?_
    rintro e w5 ⟨v, rfl, hs5, ho5, hv5⟩
    rw [← hw4] at ho5 hv5
    obtain ⟨VA, vc, VA', vc', rfl, -⟩ := hv5.shape
    obtain ⟨t, ht⟩ : ∃ t, t = (readO s2).1 := ⟨_, rfl⟩
    obtain ⟨s3, hs3'⟩ : ∃ s, s = (readO s2).2 := ⟨_, rfl⟩
    rw [← ht] at hv5 ⊢
    rw [← hs3'] at hs5
    have hz4 := HZ4.out
    have hl := HL.out
    have hz5 := ho5.size
    have hq5 := HQ4.out.only ho5 (by omega)
    have hr5 := HR4.out.only ho5 (by omega)
    obtain ⟨w6, hw6⟩ : ∃ W, W = five w5 w1.heap.size 2 (.int .i64 t.kind) (.int .i64 t.num) (.string t.text) (.slice VA t.items.length vc) (.slice VA' t.names.length vc') := ⟨_, rfl⟩
    have k6 : ∀ b, b ≠ w1.heap.size → w6.heap[b]? = w5.heap[b]? := fun b hb => by rw [hw6]; exact five_other _ _ _ _ _ _ _ _ b hb
    have z6 : w6.heap.size = w5.heap.size := by rw [hw6]; exact five_size _ _ _ _ _ _ _ _
    have hq6 : DBox (five w5 w1.heap.size 2 (.int .i64 t.kind) (.int .i64 t.num) (.string t.text) (.slice VA t.items.length vc) (.slice VA' t.names.length vc')) w1.heap.size _ _ _ _ _ _ _ _ := ((((hq5.set2 (.int .i64 t.kind)).set3 (.int .i64 t.num)).set4 (.string t.text)).set5 (.slice VA t.items.length vc)).set6 (.slice VA' t.names.length vc')
    have hr6 : DBox w6 w.heap.size _ _ _ _ _ _ _ _ := (k6 w.heap.size (by omega)).trans hr5
    rw [← hw6] at hq6
    have hs6 : SrcL w6 g s3 := hs5.of (k6 g (by omega))
    have ho6 : Only w w6 g := by
      have h := HO5.out.trans ho5
      have r := five_rest w5 w1.heap.size 2 (.int .i64 t.kind) (.int .i64 t.num) (.string t.text) (.slice VA t.items.length vc) (.slice VA' t.names.length vc')
      rw [← hw6] at r
      exact ⟨r.1.trans h.os, r.2.1.trans h.tape, r.2.2.trans h.output, by rw [z6]; exact h.size, fun b hb hne => (k6 b (by omega)).trans (h.block b hb hne)⟩
    have hv6 : LV w6 (fun b => w1.heap.size + 1 ≤ b ∧ b < w6.heap.size) t _ := (hv5.keep fun b hb => k6 b (by have := hb.1; omega)).imp fun b hb => ⟨by have := hb.1; omega, by rw [z6]; exact hb.2⟩
    have hsp6 : StrsAt w6 (fun b => w1.heap.size + 1 ≤ b ∧ b < w6.heap.size) A P := (HST.out.keep fun b hb => (k6 b (by have := hb.1; omega)).trans (ho5.block b hb.2 (by rintro ⟨⟩; have := hb.1; omega))).imp fun b hb => ⟨hb.1, by have := hb.2; omega⟩
    have HQ6 := hid hq6
    have HR6 := hid hr6
    have HX6 := hid (And.intro hs6 (And.intro ho6 (And.intro hv6 (And.intro hsp6 (And.intro ht hs3')))))
    have q5f := fun i => hq5.free i
    have u2 := hq5.g2
    have u3 := hq5.g3
    have u4 := hq5.g4
    have u5 := hq5.g5
    have u6 := hq5.g6
    clear hs5 ho5 hv5 ht hs3' hq5 hr5 k6 z6 hs6 ho6 hv6 hsp6 HV6 HQ4 HR4 HS4 HO5 HST hw4
    clear q3f q30 q31 q32 q33 q34 q35 q36 q37 r3f
    subst hw6
    have z4f := fun i => hq6.free i
    have r4f := fun i => hr6.free i
    have z0 := hq6.g0
    have z1 := hq6.g1
    have z2 := hq6.g2
    have z3 := hq6.g3
    have z4 := hq6.g4
    have z5 := hq6.g5
    have z6 := hq6.g6
    have z7 := hq6.g7
    have y0 := hr6.g0
    have y1 := hr6.g1
    have y2 := hr6.g2
    have y3 := hr6.g3
    have y4 := hr6.g4
    have y5 := hr6.g5
    have y6 := hr6.g6
    have y7 := hr6.g7
    clear hq6 hr6
    simp only [five] at z4f r4f z0 z1 z2 z3 z4 z5 z6 z7 y0 y1 y2 y3 y4 y5 y6 y7
    go_wp2_with fail
    refine bodyPost_ret (results_cell_d rfl _ _ w.heap.size 95 _ (0, 0) rfl (eightD_box HR6.out) (by kernel_rfl)) rfl ?_
    have h1 := H6.out
    subst h1
    obtain ⟨hs6, ho6, hv6, hsp6, ht, hs3'⟩ := HX6.out
    have e0 : rdD st = (⟨1, P, t, 0⟩, s3) := by
      unfold rdD
      rw [if_pos HN.out.symm, ← HS1.out, ← HPP.out.1, ← HPP.out.2, ← ht, ← hs3']
    refine del_end (S := fun b => w1.heap.size + 1 ≤ b ∧ b < (five w5 w1.heap.size 2 (.int .i64 t.kind) (.int .i64 t.num) (.string t.text) (.slice VA t.items.length vc) (.slice VA' t.names.length vc')).heap.size) (by rw [e0]; exact hs6) ho6 hgl ?_ (fun b hb => ⟨by omega, hb.2⟩)
    rw [e0]
    have hn := HN256.out
    exact ⟨A, c, _, _, _, _, rfl, hv6, hsp6, HC3.out.1, HC3.out.2, rng_k (k := 1) (by decide) (by decide), rng_k (k := 0) (by decide) (by decide), by show P.length ≤ _; omega⟩
  · have d1 : ((n : Int) == 1) = false := beq_eq_false_iff_ne.2 (by omega)
    have hg4 : g < w4.heap.size := HS4.out.lt
    by_cases h6 : n = 3
    · have d6 : ((n : Int) == 3) = true := beq_iff_eq.2 (by omega)
      have H6 := hid h6
      rw [hw4] at HP6
      clear HV6 h6 h1
      go_wp2_with fail
      refine HP6.out.mono ?_
      rintro e w5 ⟨rfl, hs5, ho5⟩
      rw [← hw4] at ho5
      have hT9 : (rdCount 999 s2).1 ≤ 999 := rdCount_le 999 s2 (by omega)
      obtain ⟨T, hT⟩ : ∃ T, T = (rdCount 999 s2).1 := ⟨_, rfl⟩
      obtain ⟨s3, hs3'⟩ : ∃ s, s = (rdCount 999 s2).2 := ⟨_, rfl⟩
      rw [← hT] at hT9 ⊢
      rw [← hs3'] at hs5
      have hz4 := HZ4.out
      have hl := HL.out
      have hz5 := ho5.size
      have hq5 := HQ4.out.only ho5 (by omega)
      have hr5 := HR4.out.only ho5 (by omega)
      obtain ⟨w6, hw6⟩ : ∃ W, W = w5.setCell ⟨w1.heap.size, 7, none⟩ (.int .i64 T) := ⟨_, rfl⟩
      have k6 : ∀ b, b ≠ w1.heap.size → w6.heap[b]? = w5.heap[b]? := fun b hb => by rw [hw6]; exact heap_setCell_other _ ⟨w1.heap.size, 7, none⟩ b _ hb
      have z6 : w6.heap.size = w5.heap.size := by rw [hw6]; simp
      have hq6 := hq5.set7 (.int .i64 T)
      rw [← hw6] at hq6
      have hr6 := hr5.other w1.heap.size 7 (.int .i64 T) (by omega)
      rw [← hw6] at hr6
      have hs6 : SrcL w6 g s3 := hs5.of (k6 g (by omega))
      have ho6 : Only w w6 g := by
        have h := HO5.out.trans ho5
        exact ⟨by rw [hw6]; exact h.os, by rw [hw6]; exact h.tape, by rw [hw6]; exact h.output, by rw [z6]; exact h.size, fun b hb hne => (k6 b (by omega)).trans (h.block b hb hne)⟩
      have hsp6 : StrsAt w6 (fun b => w1.heap.size + 1 ≤ b ∧ b < w6.heap.size) A P := (HST.out.keep fun b hb => (k6 b (by have := hb.1; omega)).trans (ho5.block b hb.2 (by rintro ⟨⟩; have := hb.1; omega))).imp fun b hb => ⟨hb.1, by have := hb.2; omega⟩
      have HQ6 := hid hq6
      have HR6 := hid hr6
      have HX6 := hid (And.intro hs6 (And.intro ho6 (And.intro hsp6 (And.intro hT9 (And.intro hT hs3')))))
      have q5f := fun i => hq5.free i
      have u7 := hq5.g7
      clear hs5 ho5 hT9 hT hs3' hq5 hr5 k6 z6 hs6 ho6 hsp6 HP6 HQ4 HR4 HS4 HO5 HST hw4
      clear q3f q30 q31 q32 q33 q34 q35 q36 q37 r3f
      subst hw6
      have z4f := fun i => hq6.free i
      have r4f := fun i => hr6.free i
      have z0 := hq6.g0
      have z1 := hq6.g1
      have z2 := hq6.g2
      have z3 := hq6.g3
      have z4 := hq6.g4
      have z5 := hq6.g5
      have z6 := hq6.g6
      have z7 := hq6.g7
      have y0 := hr6.g0
      have y1 := hr6.g1
      have y2 := hr6.g2
      have y3 := hr6.g3
      have y4 := hr6.g4
      have y5 := hr6.g5
      have y6 := hr6.g6
      have y7 := hr6.g7
      clear hq6 hr6
      go_wp2_with fail
      refine bodyPost_ret (results_cell_d rfl _ _ w.heap.size 95 _ (0, 0) rfl (eightD_box HR6.out) (by kernel_rfl)) rfl ?_
      have h6 := H6.out
      subst h6
      obtain ⟨hs6, ho6, hsp6, hT9, hT, hs3'⟩ := HX6.out
      have e0 : rdD st = (⟨3, P, noneV, (T : Nat)⟩, s3) := by
        unfold rdD
        rw [if_neg (by rw [← HN.out]; decide), if_pos HN.out.symm, ← HS1.out, ← HPP.out.1, ← HPP.out.2, ← hT, ← hs3']
      refine del_end (S := fun b => w1.heap.size + 1 ≤ b ∧ b < (w5.setCell ⟨w1.heap.size, 7, none⟩ (.int .i64 T)).heap.size) (by rw [e0]; exact hs6) ho6 hgl ?_ (fun b hb => ⟨by omega, hb.2⟩)
      rw [e0]
      exact ⟨A, c, none, 0, none, 0, rfl, leaf_lv _ _ _ _ _ (by unfold Rng; omega) (by unfold Rng; omega) (by decide), hsp6, HC3.out.1, HC3.out.2, rng_k (k := 3) (by decide) (by decide), (by unfold Rng; show (_ : Int) ≤ ((T : Nat) : Int) ∧ ((T : Nat) : Int) ≤ _; omega), by show P.length ≤ _; omega⟩
    · have d3 : ((n : Int) == 3) = false := beq_eq_false_iff_ne.2 (by omega)
      have H2 := hid (And.intro h1 h6)
      clear h1 h6
      subst hw4
      clear HP6 HV6
      have hq4 := HQ4.out
      have hr4 := HR4.out
      have z4f := fun i => hq4.free i
      have r4f := fun i => hr4.free i
      have z0 := hq4.g0
      have z1 := hq4.g1
      have z2 := hq4.g2
      have z3 := hq4.g3
      have z4 := hq4.g4
      have z5 := hq4.g5
      have z6 := hq4.g6
      have z7 := hq4.g7
      have y0 := hr4.g0
      have y1 := hr4.g1
      have y2 := hr4.g2
      have y3 := hr4.g3
      have y4 := hr4.g4
      have y5 := hr4.g5
      have y6 := hr4.g6
      have y7 := hr4.g7
      clear hq4 hr4
      go_wp2_with fail
      refine bodyPost_ret (results_cell_d rfl _ _ w.heap.size 95 _ (0, 0) rfl (eightD_box HR4.out) (by kernel_rfl)) rfl ?_
      have e0 : rdD st = (⟨n, P, noneV, 0⟩, s2) := by
        obtain ⟨h1, h3⟩ := H2.out
        unfold rdD
        rw [if_neg (by rw [← HN.out]; omega), if_neg (by rw [← HN.out]; omega), ← HN.out, ← HS1.out, ← HPP.out.1, ← HPP.out.2]
      have hl := HL.out
      refine del_end (S := fun b => w1.heap.size + 1 ≤ b ∧ b < (w3.setCell ⟨w1.heap.size, 1, none⟩ (.slice A P.length c)).heap.size) (by rw [e0]; exact HS4.out) HO5.out hgl ?_ (fun b hb => ⟨by omega, hb.2⟩)
      rw [e0]
      have hn := HN256.out
      exact ⟨A, c, none, 0, none, 0, rfl, leaf_lv _ _ _ _ _ (by unfold Rng; omega) (by unfold Rng; omega) (by decide), HST.out, HC3.out.1, HC3.out.2, rng_k (k := (n : Int)) (by omega) (by omega), rng_k (k := 0) (by decide) (by decide), by show P.length ≤ _; omega⟩
set_option maxHeartbeats 16000000 in
theorem dlmay_any (S : Nat → Prop) (d : DelT) (cs : Array Value) (w : World) (hS : ∀ b, S b → b < w.heap.size) (h : DelL w S d cs) (hd : depthT d.val ≤ 4611686018427387903) :
    Calls Tryz.prog 158 #[.agg cs] w fun e w' => e = .returned (.bool (mayD d)) ∧ Below w.heap.size w w' := by
  obtain ⟨PA, pc, VA, vc, VA', vc', rfl, hv, hp, hpc, hpn, hk, hn, hpl⟩ := h
  obtain ⟨w1, hw1⟩ : ∃ W, W = w.alloc (.cells #[.int .i64 d.kind, .slice PA d.path.length pc, .int .i64 d.val.kind, .int .i64 d.val.num, .string d.val.text, .slice VA d.val.items.length vc, .slice VA' d.val.names.length vc', .int .i64 d.num] 95) := ⟨_, rfl⟩
  have hbk : w1.heap[w.heap.size]? = some (.cells #[.int .i64 d.kind, .slice PA d.path.length pc, .int .i64 d.val.kind, .int .i64 d.val.num, .string d.val.text, .slice VA d.val.items.length vc, .slice VA' d.val.names.length vc', .int .i64 d.num] 95 (0, 0)) := by rw [hw1]; exact heap_alloc_new w _
  have hb1 : Below w.heap.size w w1 := by rw [hw1]; exact (Below.refl _ _).alloc (Nat.le_refl _) _
  have y0 := Go.Joins.cell_of_block hbk 0
  have y1 := Go.Joins.cell_of_block hbk 1
  have y2 := Go.Joins.cell_of_block hbk 2
  have y3 := Go.Joins.cell_of_block hbk 3
  have y4 := Go.Joins.cell_of_block hbk 4
  have y5 := Go.Joins.cell_of_block hbk 5
  have y6 := Go.Joins.cell_of_block hbk 6
  have y7 := Go.Joins.cell_of_block hbk 7
  have hS1 : ∀ b, S b → b < w1.heap.size := fun b hb => Nat.lt_of_lt_of_le (hS b hb) hb1.size
  have hv1 := hv.keep fun b hb => hb1.block b (hS b hb)
  have HMA := hid (pmay_any PA pc d.path w1 S (hp.keep fun b hb => hb1.block b (hS b hb)) (by omega))
  have HCK := hid (check_any S d.val _ w1 hS1 hv1 hd)
  have HNO := hid (none_any S d.val _ w1 hS1 hv1)
  have HBK := hid hbk
  have HB1 := hid hb1
  have HW1 := hid hw1
  have HS := hid hS
  obtain ⟨r, hr⟩ : ∃ r, r = mayD d := ⟨_, rfl⟩
  have HR := hid hr
  rw [← hr]
  clear hbk hb1 hS1 hv1 hv hp hpc hpn hk hn hpl hd hS hr
  go_enter Tryz.func158, Tryz.ntmps158
  go_wp2_with fail
  rw [← hw1]
  clear hw1
  refine HMA.out.mono ?_
  rintro e w2 ⟨rfl, rfl⟩
  clear HMA
  cases hmp : mayP d.path
  · go_wp2_with fail
    go_ret
    exact ⟨by rw [HR.out]; unfold mayD; rw [hmp]; rfl, HB1.out⟩
  have HMP := hid hmp
  clear hmp
  obtain ⟨k, hk⟩ : ∃ k, k = d.kind := ⟨_, rfl⟩
  rw [← hk] at y0
  have HK := hid hk.symm
  clear hk
  by_cases k1 : k = 1
  · subst k1
    go_wp2_with fail
    refine HCK.out.mono ?_
    rintro e w3 ⟨rfl, hb3⟩
    have HB3 := hid (HB1.out.trans (hb3.mono HB1.out.size))
    have HBK3 := (hb3.block _ (Array.getElem?_eq_some_iff.1 HBK.out).1).trans HBK.out
    have z7 := Go.Joins.cell_of_block HBK3 7
    obtain ⟨b1, d1⟩ : ∃ b, (checkT d.val == 0) = b := ⟨_, rfl⟩
    obtain ⟨b2, d2⟩ : ∃ b, (d.num == 0) = b := ⟨_, rfl⟩
    have HE : Hid (mayD d = (b1 && b2)) := hid (by
      rw [← d1, ← d2]
      unfold mayD
      rw [HMP.out, HK.out]
      rw [Bool.eq_iff_iff]
      simp)
    clear hb3 HBK3 HCK
    cases b1 <;> cases b2
    all_goals
      go_wp2_with fail
      go_ret
      exact ⟨by rw [HR.out, HE.out]; rfl, HB3.out⟩
  have e1 := beq_false_of_ne k1
  by_cases k2 : k = 2
  · subst k2
    go_wp2_with fail
    refine HNO.out.mono ?_
    rintro e w3 ⟨rfl, hb3⟩
    have HB3 := hid (HB1.out.trans (hb3.mono HB1.out.size))
    have HBK3 := (hb3.block _ (Array.getElem?_eq_some_iff.1 HBK.out).1).trans HBK.out
    have z7 := Go.Joins.cell_of_block HBK3 7
    obtain ⟨b1, d1⟩ : ∃ b, noneT d.val = b := ⟨_, rfl⟩
    obtain ⟨b2, d2⟩ : ∃ b, (d.num == 0) = b := ⟨_, rfl⟩
    have HE : Hid (mayD d = (b1 && b2)) := hid (by
      rw [← d1, ← d2]
      unfold mayD
      rw [HMP.out, HK.out]
      rw [Bool.eq_iff_iff]
      simp)
    clear hb3 HBK3 HNO
    cases b1 <;> cases b2
    all_goals
      go_wp2_with fail
      go_ret
      exact ⟨by rw [HR.out, HE.out]; rfl, HB3.out⟩
  have e2 := beq_false_of_ne k2
  by_cases k3 : k = 3
  · subst k3
    go_wp2_with fail
    refine HNO.out.mono ?_
    rintro e w3 ⟨rfl, hb3⟩
    have HB3 := hid (HB1.out.trans (hb3.mono HB1.out.size))
    have HBK3 := (hb3.block _ (Array.getElem?_eq_some_iff.1 HBK.out).1).trans HBK.out
    have z7 := Go.Joins.cell_of_block HBK3 7
    obtain ⟨b1, d1⟩ : ∃ b, noneT d.val = b := ⟨_, rfl⟩
    obtain ⟨b2, d2⟩ : ∃ b, decide (d.num ≥ 0) = b := ⟨_, rfl⟩
    obtain ⟨b3, d3⟩ : ∃ b, decide (d.num ≤ 999) = b := ⟨_, rfl⟩
    have HE : Hid (mayD d = (b1 && (b2 && b3))) := hid (by
      rw [← d1, ← d2, ← d3]
      unfold mayD
      rw [HMP.out, HK.out]
      rw [Bool.eq_iff_iff]
      simp)
    clear hb3 HBK3 HNO
    cases b1 <;> cases b2 <;> cases b3
    all_goals
      go_wp2_with fail
      go_ret
      exact ⟨by rw [HR.out, HE.out]; rfl, HB3.out⟩
  have e3 := beq_false_of_ne k3
  have HN : Hid (mayD d = false) := hid (by
    unfold mayD
    rw [HK.out]
    simp [k1, k2, k3])
  clear k1 k2 k3
  go_wp2_with fail
  go_ret
  exact ⟨by rw [HR.out, HN.out]; rfl, HB1.out⟩
theorem all_upto'D {α : Type} {p : α → Bool} {l : List α} (h : ∀ j (h : j < l.length), p l[j] = true) : l.all p = true := by
  rw [List.all_eq_true]
  intro x hx
  obtain ⟨j, hj, rfl⟩ := List.mem_iff_getElem.1 hx
  exact h j hj
theorem all_not'D {α : Type} {p : α → Bool} {l : List α} {j : Nat} (hj : j < l.length) (h : p l[j] = false) : l.all p = false := by
  rw [List.all_eq_false]
  exact ⟨l[j], List.getElem_mem hj, by rw [h]; simp⟩
set_option maxHeartbeats 4000000 in
theorem dlcheck1_any (S : Nat → Prop) (d : DelT) (cs : Array Value) (w : World) (hS : ∀ b, S b → b < w.heap.size) (h : DelL w S d cs) (hd : depthT d.val ≤ 4611686018427387903) :
    Calls Tryz.prog 157 #[.agg cs] w fun e w' => e = .returned (.bool (!mayD d)) ∧ Below w.heap.size w w' := by
  obtain ⟨PA, pc, VA, vc, VA', vc', rfl, hv, hp, hpc, hpn, hk, hn, hpl⟩ := id h
  obtain ⟨w1, hw1⟩ : ∃ W, W = w.alloc (.cells #[.int .i64 d.kind, .slice PA d.path.length pc, .int .i64 d.val.kind, .int .i64 d.val.num, .string d.val.text, .slice VA d.val.items.length vc, .slice VA' d.val.names.length vc', .int .i64 d.num] 95) := ⟨_, rfl⟩
  have hbk : w1.heap[w.heap.size]? = some (.cells #[.int .i64 d.kind, .slice PA d.path.length pc, .int .i64 d.val.kind, .int .i64 d.val.num, .string d.val.text, .slice VA d.val.items.length vc, .slice VA' d.val.names.length vc', .int .i64 d.num] 95 (0, 0)) := by rw [hw1]; exact heap_alloc_new w _
  have hb1 : Below w.heap.size w w1 := by rw [hw1]; exact (Below.refl _ _).alloc (Nat.le_refl _) _
  have y0 := Go.Joins.cell_of_block hbk 0
  have y1 := Go.Joins.cell_of_block hbk 1
  have y2 := Go.Joins.cell_of_block hbk 2
  have y3 := Go.Joins.cell_of_block hbk 3
  have y4 := Go.Joins.cell_of_block hbk 4
  have y5 := Go.Joins.cell_of_block hbk 5
  have y6 := Go.Joins.cell_of_block hbk 6
  have y7 := Go.Joins.cell_of_block hbk 7
  have HM := hid (dlmay_any S d _ w1 (fun b hb => Nat.lt_of_lt_of_le (hS b hb) hb1.size) (h.below hS hb1) hd)
  have HB1 := hid hb1
  clear hbk hb1 h hv hp hpc hpn hk hn hpl hS hd
  go_enter Tryz.func157, Tryz.ntmps157
  go_wp2_with fail
  rw [← hw1]
  refine HM.out.mono ?_
  rintro e w2 ⟨rfl, hb2⟩
  have HB2 := hid (HB1.out.trans (hb2.mono HB1.out.size))
  clear hb2
  clear HM
  go_wp2_with fail
  go_ret
  exact ⟨rfl, HB2.out⟩
set_option maxHeartbeats 4000000 in
theorem idxD_any (S : Nat → Prop) (A : Option Addr) (c : Nat) (l : List DelT) (w : World) (hS : ∀ b, S b → b < w.heap.size) (h : DelsL w S A l) (hn : l.length ≤ 140737488351232) (hd : SmallD l) :
    Calls Tryz.prog 178 #[.slice A l.length c, .func (.func 157) #[] #[]] w fun e w' => (∃ i : Int, e = .returned (.int .i64 i) ∧ decide (0 ≤ i) = (!(l.all mayD))) ∧ Below w.heap.size w w' := by
  have H := hid h
  have HS := hid hS
  have HD := hid hd
  have HN := hid hn
  clear h hS hd
  go_enter Tryz.func178, Tryz.ntmps178
  go_wp2_with fail
  go_loopw [8] (fun i wr => ∃ k : Nat, i = .int .i64 k ∧ k ≤ l.length ∧ Hid (Below w.heap.size w wr) ∧ Hid (∀ j (h : j < l.length), j < k → mayD l[j] = true)) (fun i _ => l.length - (intOf i).toNat)
  case atStart => exact ⟨0, rfl, by omega, hid (Below.refl _ _), hid fun j _ h => absurd h (by omega)⟩
  case round =>
    obtain ⟨k, rfl, hk, HB, HJ⟩ := hrel
    by_cases hlt : k < l.length
    · have hS2 : ∀ b, S b → b < wr.heap.size := fun b hb => Nat.lt_of_lt_of_le (HS.out b hb) HB.out.size
      obtain ⟨bp, off, PA, pc, VA, vc, VA', vc', rfl, hpS, ho, x0, x1, x2, x3, x4, x5, x6, x7⟩ := (H.out.below HS.out HB.out).cells k hlt
      have HC := hid (dlcheck1_any S l[k] _ wr hS2 ho (HD.out _ (List.getElem_mem hlt)))
      clear ho hS2 hpS
      go_wp2_with fail
      refine HC.out.mono ?_
      rintro e u ⟨rfl, hb⟩
      have HB2 := hid (HB.out.trans (hb.mono HB.out.size))
      clear hb HC x0 x1 x2 x3 x4 x5 x6 x7
      cases hm : mayD l[k]
      · have HM := hid hm
        clear hm
        go_wp2_with fail
        go_ret
        exact ⟨⟨k, rfl, by rw [all_not'D hlt HM.out]; simp⟩, HB2.out⟩
      · have HM := hid hm
        clear hm
        go_wp2_with fail
        go_roundw
        case rel => exact ⟨k + 1, by go_num, by omega, HB2, hid fun j h hjk => by
          by_cases e : j = k
          · subst e; exact HM.out
          · exact HJ.out j h (by omega)⟩
        case measure => simp [intOf]; omega
    · go_wp2_with fail
      go_ret
      exact ⟨⟨-1, rfl, by rw [all_upto'D fun j h => HJ.out j h (by omega)]; rfl⟩, HB.out⟩
theorem contD_any (S : Nat → Prop) (A : Option Addr) (c : Nat) (l : List DelT) (w : World) (hS : ∀ b, S b → b < w.heap.size) (h : DelsL w S A l) (hn : l.length ≤ 140737488351232) (hd : SmallD l) :
    Calls Tryz.prog 146 #[.slice A l.length c, .func (.func 157) #[] #[]] w fun e w' => e = .returned (.bool (!(l.all mayD))) ∧ Below w.heap.size w w' := by
  have HC := hid (idxD_any S A c l w hS h hn hd)
  clear h hS hd
  go_enter Tryz.func146, Tryz.ntmps146
  go_wp2_with fail
  refine HC.out.mono ?_
  rintro e u ⟨⟨i, rfl, hi⟩, hb⟩
  have HI := hid hi
  have HB := hid hb
  clear hi hb HC
  go_wp2_with fail
  go_ret
  exact ⟨ret_bool HI.out, HB.out⟩
set_option maxHeartbeats 4000000 in
theorem dlcheck_any (S : Nat → Prop) (A : Option Addr) (c : Nat) (l : List DelT) (w : World) (hS : ∀ b, S b → b < w.heap.size) (h : DelsL w S A l) (hn : l.length ≤ 140737488351232) (hd : SmallD l) :
    Calls Tryz.prog 123 #[.slice A l.length c] w fun e w' => e = .returned (.int .i64 (checkD l)) ∧ Below w.heap.size w w' := by
  have HC := hid (contD_any S A c l w hS h hn hd)
  clear h hS hd
  obtain ⟨r, hr⟩ : ∃ r, r = checkD l := ⟨_, rfl⟩
  have HR := hid hr
  rw [← hr]
  clear hr
  go_enter Tryz.func123, Tryz.ntmps123
  by_cases h64 : 64 < l.length
  · have d1 : decide ((l.length : Int) > 64) = true := decide_eq_true (by omega)
    go_wp2_with fail
    go_ret
    exact ⟨by rw [HR.out]; unfold checkD; rw [if_pos h64]; rfl, Below.refl _ _⟩
  · have d1 : decide ((l.length : Int) > 64) = false := decide_eq_false (by omega)
    have H64 := hid h64
    clear h64
    go_wp2_with fail
    refine HC.out.mono ?_
    rintro e u ⟨rfl, hb⟩
    have HB := hid hb
    clear hb HC
    cases ha : l.all mayD
    · have HA := hid ha
      clear ha
      go_wp2_with fail
      go_ret
      exact ⟨by rw [HR.out]; unfold checkD; rw [if_neg H64.out, HA.out]; rfl, HB.out⟩
    · have HA := hid ha
      clear ha
      go_wp2_with fail
      go_ret
      exact ⟨by rw [HR.out]; unfold checkD; rw [if_neg H64.out, HA.out]; rfl, HB.out⟩
def rdDK (st : Option (List UInt8)) : Nat → List DelT × Option (List UInt8)
  | 0 => ([], st)
  | k + 1 => ((rdDK st k).1 ++ [(rdD (rdDK st k).2).1], (rdD (rdDK st k).2).2)
theorem rdDK_len (st : Option (List UInt8)) : ∀ k, (rdDK st k).1.length = k
  | 0 => rfl
  | k + 1 => by simp [rdDK, rdDK_len st k]
theorem rdD_nn : (rdD none).2 = none := by
  unfold rdD
  rw [rdByte_nn]
  simp only [show ¬ ((0 : Nat) = 1) by decide, show ¬ ((0 : Nat) = 3) by decide, if_false]
  exact rdPath_nn
theorem rdDK_none {s : Option (List UInt8)} {k : Nat} (h : (rdDK s k).2 = none) : ∀ m, k ≤ m → (rdDK s m).2 = none
  | 0, hm => by obtain rfl : k = 0 := by omega
                exact h
  | m + 1, hm => by
    by_cases hk : k = m + 1
    · rw [← hk]; exact h
    · have h1 := rdDK_none h m (by omega)
      show (rdD (rdDK s m).2).2 = none
      rw [h1]; exact rdD_nn
theorem readO_deep (st : Option (List UInt8)) : depthT (readO st).1 ≤ 8 := by
  rcases st with _ | l
  · decide
  · rw [readO_some]
    cases hr : readS l with
    | none => decide
    | some p =>
      obtain ⟨t, r⟩ := p
      unfold readS at hr
      cases hw : rdW 8 l with
      | none => rw [hw] at hr; simp at hr
      | some q =>
        obtain ⟨u, r'⟩ := q
        rw [hw] at hr
        have hd := (rdW_deep 8 u l r' hw).1.1
        simp only [] at hr
        split at hr
        · simp only [Option.some.injEq, Prod.mk.injEq] at hr
          rw [hr.1] at hd
          exact hd
        · simp at hr
theorem rdD_depth (st : Option (List UInt8)) : depthT (rdD st).1.val ≤ 8 := by
  unfold rdD
  split
  · exact readO_deep _
  split
  · show depthT noneV ≤ 8; decide
  · show depthT noneV ≤ 8; decide
theorem rdDK_small (st : Option (List UInt8)) : ∀ k, SmallD (rdDK st k).1
  | 0, d, hd => absurd hd (by simp [rdDK])
  | k + 1, d, hd => by
    simp only [rdDK, List.mem_append, List.mem_singleton] at hd
    rcases hd with hd | rfl
    · exact rdDK_small st k d hd
    · have := rdD_depth (rdDK st k).2
      omega
def rdDl (st : Option (List UInt8)) : List DelT × Option (List UInt8) := match (rdDK (rdCount 64 st).2 (rdCount 64 st).1).2 with
  | none => ([], none)
  | some r => if checkD (rdDK (rdCount 64 st).2 (rdCount 64 st).1).1 = 0 then ((rdDK (rdCount 64 st).2 (rdCount 64 st).1).1, some r) else ([], none)
theorem rdDl_none {st : Option (List UInt8)} (h : (rdDK (rdCount 64 st).2 (rdCount 64 st).1).2 = none) : rdDl st = ([], none) := by unfold rdDl; rw [h]
theorem rdDl_some {st : Option (List UInt8)} {r : List UInt8} (h : (rdDK (rdCount 64 st).2 (rdCount 64 st).1).2 = some r) : rdDl st = if checkD (rdDK (rdCount 64 st).2 (rdCount 64 st).1).1 = 0 then ((rdDK (rdCount 64 st).2 (rdCount 64 st).1).1, some r) else ([], none) := by unfold rdDl; rw [h]
def ReadDsR (g : Nat) (st : Option (List UInt8)) (w : World) (e : Ending) (w' : World) : Prop :=
  ∃ A c, e = .returned (.slice A (rdDl st).1.length c) ∧ DelsL w' (NewB w.heap.size w') A (rdDl st).1 ∧ (A = none → c = 0 ∧ (rdDl st).1 = []) ∧ (rdDl st).1.length ≤ c ∧ SrcL w' g (rdDl st).2 ∧ Only w w' g
theorem dels_next {w wr w5 w7 : World} {g k c c7 p : Nat} {A : Option Addr} {s1 : Option (List UInt8)} {cs xs : List Value} {S : Nat → Prop} {v7 : Value} (hg : g < w.heap.size) (hw : Only w wr g) (hr : DelsRow w wr A c (rdDK s1 k).1) (ho5 : Only wr w5 g) (hs5 : SrcL w5 g (rdD (rdDK s1 k).2).2) (hop : DelL w5 (NewB wr.heap.size w5) (rdD (rdDK s1 k).2).1 cs.toArray)
    (hl : DelsC (w5.alloc (.cells cs.toArray 95)) S (rdDK s1 k).1 xs) (hS : ∀ b, S b → w.heap.size ≤ b ∧ b < (w5.alloc (.cells cs.toArray 95)).heap.size ∧ ∀ p, (Value.slice A k c).ownBlock = some p → b ≠ p)
    (hv : v7 = .slice (some ⟨p, 0, none⟩) (k + 1) c7) (hown : w7.ownsRow w.heap.size 95 8 v7 (k + 1) (xs ++ cs)) (hb : (w5.alloc (.cells cs.toArray 95)).grownBy w7 (Value.slice A k c).ownBlock) (hat : v7.ownBlock = (Value.slice A k c).ownBlock ∨ v7.ownBlock = some (w5.alloc (.cells cs.toArray 95)).heap.size) :
    DelsRow w w7 (some ⟨p, 0, none⟩) c7 (rdDK s1 (k + 1)).1 ∧ SrcL w7 g (rdDK s1 (k + 1)).2 ∧ Only w w7 g := by
  have hlen : (rdDK s1 k).1.length = k := rdDK_len s1 k
  have hpo : ∀ p, (Value.slice A k c).ownBlock = some p → w.heap.size ≤ p ∧ p < wr.heap.size := by
    have h := hr.own
    rw [hlen] at h
    exact h
  have hz5 := ho5.size
  have hzw := hw.size
  have hz6 : (w5.alloc (.cells cs.toArray 95)).heap.size = w5.heap.size + 1 := by simp
  have k6 : ∀ b, b < w5.heap.size → (w5.alloc (.cells cs.toArray 95)).heap[b]? = w5.heap[b]? := fun b hb => Below.heap_alloc w5 _ b hb
  have k7 : ∀ b, b < w5.heap.size → (∀ p, (Value.slice A k c).ownBlock = some p → b ≠ p) → w7.heap[b]? = w5.heap[b]? := fun b hb' hn => (hb.block b (by omega) (fun e => hn b e.symm rfl)).trans (k6 b hb')
  subst hv
  refine ⟨?_, ?_, ?_⟩
  · refine DelsRow.push (S2 := NewB wr.heap.size w5) hlen.symm hb ?_ hown hl (hop.keep fun b hb' => k6 b hb'.2) hS ?_
    · exact hat.imp id fun h => ⟨_, Nat.le_refl _, h⟩
    · intro b hb'
      have h1 : wr.heap.size ≤ b := hb'.1
      have h2 : b < w5.heap.size := hb'.2
      exact ⟨by omega, by omega, fun q hq e => by have := (hpo q hq).2; omega⟩
  · exact hs5.of (k7 g (by omega) fun q hq e => by have := (hpo q hq).1; omega)
  · refine ⟨hb.os.trans ((ho5.os).trans hw.os), hb.tape.trans ((ho5.tape).trans hw.tape), hb.output.trans ((ho5.output).trans hw.output), by have := hb.size; omega, fun b hb' hne => ?_⟩
    exact (k7 b (by omega) fun q hq e => by have := (hpo q hq).1; omega).trans ((ho5.block b (by omega) hne).trans (hw.block b hb' hne))
theorem DelsRow.none' {w0 w : World} {A : Option Addr} {c : Nat} {l : List DelT} (h : DelsRow w0 w A c l) : A = none → c = 0 ∧ l = [] := by
  rintro rfl
  obtain ⟨xs, S, h1, -⟩ := h
  rcases h1.2 with ⟨e, h0⟩ | ⟨g, cap, cur, e, -⟩
  · injection e with e1 e2 e3
    exact ⟨e3, List.eq_nil_of_length_eq_zero e2⟩
  · injection e with e1 e2 e3
    cases e1
set_option maxHeartbeats 16000000 in
theorem dlread_any (g : Nat) (st : Option (List UInt8)) (w : World) (hs : SrcL w g st) : Calls Tryz.prog 107 #[.pointer (some ⟨g, 0, none⟩)] w (ReadDsR g st w) := by
  obtain ⟨i0, hi, hz0, hz1, hz2⟩ := info_parts Tryz.infoDlt
  have h16 : (rdCount 64 st).1 ≤ 64 := rdCount_le 64 st (by omega)
  have HC := hid (scount_any g st 64 w hs (by omega))
  have HG := hid hs.lt
  obtain ⟨n, hn⟩ : ∃ n, n = (rdCount 64 st).1 := ⟨_, rfl⟩
  have HN := hid hn
  rw [← hn] at h16 HC
  clear hs hn
  go_enter Tryz.func107, Tryz.ntmps107
  go_wp2_with fail
  refine HC.out.mono ?_
  rintro e w1 ⟨rfl, hs1, ho1⟩
  obtain ⟨s1, hs1'⟩ : ∃ s1, s1 = (rdCount 64 st).2 := ⟨_, rfl⟩
  rw [← hs1'] at hs1
  have HS1 := hid hs1'
  have h0 : Hid (SrcL w1 g (rdDK s1 0).2 ∧ Only w w1 g) := hid ⟨hs1, ho1⟩
  clear hs1 ho1 hs1' HC
  go_wp2_with fail
  go_loopw [3, 6] (fun v i wr => ∃ (k : Nat) (A : Option Addr) (c : Nat), i = .int .i64 k ∧ k ≤ n ∧ v = .slice A k c ∧ Hid (k = 0 ∨ (rdDK s1 k).2 ≠ none) ∧ Hid (SrcL wr g (rdDK s1 k).2 ∧ Only w wr g) ∧ Hid (DelsRow w wr A c (rdDK s1 k).1)) (fun _ i _ => n - (intOf i).toNat)
  case atStart => exact ⟨0, none, 0, rfl, by omega, rfl, hid (.inl rfl), h0, hid (DelsRow.nil _ _)⟩
  case round =>
    obtain ⟨k, A, c, rfl, hk, rfl, HNN, HH, HR⟩ := hrel
    by_cases hlt : k < n
    · have d1 : decide ((k : Int) < (n : Int)) = true := decide_eq_true (by omega)
      have HT := hid (readd_any g (rdDK s1 k).2 wr HH.out.1)
      have hk16 : k < 64 := by omega
      go_wp2_with fail
      refine HT.out.mono ?_
      rintro e w5 ⟨cs, rfl, hop, hs5, ho5⟩
      obtain ⟨PA, pc, VA, vc, VA', vc', rfl, -⟩ := id hop
      have h1c := hop.oneL
      have hrow := (HR.out.only ho5 HG.out).alloc (.cells (List.toArray [.int .i64 (rdD (rdDK s1 k).2).1.kind, .slice PA (rdD (rdDK s1 k).2).1.path.length pc, .int .i64 (rdD (rdDK s1 k).2).1.val.kind, .int .i64 (rdD (rdDK s1 k).2).1.val.num, .string (rdD (rdDK s1 k).2).1.val.text, .slice VA (rdD (rdDK s1 k).2).1.val.items.length vc, .slice VA' (rdD (rdDK s1 k).2).1.val.names.length vc', .int .i64 (rdD (rdDK s1 k).2).1.num]) 95)
      obtain ⟨xs, S, r1, r2, r3⟩ := hrow
      rw [rdDK_len] at r1 r3
      have HX := hid (fun (w7 : World) (v7 : Value) (p c7 : Nat) (e7 : v7 = .slice (some ⟨p, 0, none⟩) (k + 1) c7) => dels_next (w7 := w7) (v7 := v7) (p := p) (c7 := c7) HG.out HH.out.2 HR.out ho5 hs5 hop r2 r3 e7)
      have HR1 := hid r1
      have H1C := hid h1c
      have hz5 : w.heap.size ≤ w5.heap.size := by have := ho5.size; have := HH.out.2.size; omega
      obtain ⟨o, hob⟩ : ∃ o, o = (rdD (rdDK s1 k).2).1 := ⟨_, rfl⟩
      rw [← hob] at HX HR1 H1C ⊢
      clear hs5 ho5 hop h1c r1 r2 r3 HT hob
      go_wp2_with (at_builtin; refine wpList_append_own_at _ rfl _ _ 26 rfl w.heap.size 95 i0 _ 8 120 Tryz.underlying26 hi hz0 hz1 hz2 rfl (by decide) _ k _ rfl HR1.out ⟨w5.heap.size, 0, none⟩ 1 1 _ rfl rfl (eight_new w5 _ _) H1C.out (by unfold maxLen; omega) (by omega) (by simp; omega) ?_; intro v7 w7 hown7 hg7 hnil7 hat7; obtain ⟨p, c7, rfl⟩ := row_pos hown7 (by omega); have HX7 := hid (HX.out w7 _ p c7 rfl hown7 hg7 hat7); clear hown7 hg7 hnil7 hat7)
      obtain ⟨st2, hst2⟩ : ∃ s, s = (rdDK s1 (k + 1)).2 := ⟨_, rfl⟩
      have HX8 := HX7
      rw [← hst2] at HX8
      have HST := hid hst2
      clear hst2
      cases st2 with
      | none =>
        have HB := hid (cbad_none g _ HX8.out.2.1)
        go_wp2_with fail
        refine HB.out.mono ?_
        rintro e w8 ⟨rfl, rfl⟩
        go_wp2_with fail
        go_ret
        unfold ReadDsR
        rw [rdDl_none (by rw [← HS1.out, ← HN.out]; exact rdDK_none HST.out.symm n (by omega))]
        exact ⟨none, 0, rfl, fun h => absurd h (by simp), fun _ => ⟨rfl, rfl⟩, Nat.le_refl _, HX8.out.2.1, HX8.out.2.2⟩
      | some r =>
        have HB := hid (cbad_some g r _ HX8.out.2.1)
        go_wp2_with fail
        refine HB.out.mono ?_
        rintro e w8 ⟨rfl, rfl⟩
        go_wp2_with fail
        go_roundw
        case rel => exact ⟨k + 1, some ⟨p, 0, none⟩, c7, by go_num, by omega, rfl, hid (.inr (by rw [← HST.out]; simp)), hid ⟨HX7.out.2.1, HX7.out.2.2⟩, hid HX7.out.1⟩
        case measure => simp [intOf]; omega
    · have hke : k = n := by omega
      have d1 : decide ((k : Int) < (n : Int)) = false := decide_eq_false (by omega)
      obtain ⟨l, hl⟩ : ∃ l, l = (rdDK s1 k).1 := ⟨_, rfl⟩
      obtain ⟨st2, hst2⟩ : ∃ s, s = (rdDK s1 k).2 := ⟨_, rfl⟩
      have hlk : l.length = k := by rw [hl]; exact rdDK_len s1 k
      have hsm : SmallD l := by rw [hl]; exact rdDK_small s1 k
      rw [← hl] at HR
      rw [← hst2] at HH HNN
      have HLS : Hid (l = (rdDK (rdCount 64 st).2 (rdCount 64 st).1).1 ∧ st2 = (rdDK (rdCount 64 st).2 (rdCount 64 st).1).2) := hid (by rw [← HS1.out, ← HN.out, ← hke]; exact ⟨hl, hst2⟩)
      have HRW := hid HR.out.rows
      have HRC := hid HR.out.cap
      have HRN := hid HR.out.none'
      have HK := hid (dlcheck_any (NewB w.heap.size wr) A c l wr (fun b hb => hb.2) HRW.out (by omega) hsm)
      rw [← hlk]
      clear hl hst2 hke hsm HR hk
      subst hlk
      go_wp2_with fail
      refine HK.out.mono ?_
      rintro e w4 ⟨rfl, hb4⟩
      have HS4 := hid (HH.out.1.of (hb4.block g HH.out.1.lt))
      have HO4 : Hid (Only w w4 g) := hid (HH.out.2.trans ⟨hb4.os, hb4.tape, hb4.output, hb4.size, fun b hb _ => hb4.block b hb⟩)
      have HW4 : Hid (DelsL w4 (NewB w.heap.size w4) A l) := hid ((HRW.out.keep fun b hb => hb4.block b hb.2).imp fun b hb => ⟨hb.1, Nat.lt_of_lt_of_le hb.2 hb4.size⟩)
      obtain ⟨x, hx⟩ : ∃ x, x = checkD l := ⟨_, rfl⟩
      rw [← hx]
      have HXX := hid hx
      clear hb4 hx HK HRW
      by_cases h0' : x = 0
      · subst h0'
        have hend : Hid (rdDl st = (l, st2)) := hid (by
          cases st2 with
          | none =>
            have hl0 : l.length = 0 := HNN.out.resolve_right (fun h => h rfl)
            rw [rdDl_none HLS.out.2.symm, List.eq_nil_of_length_eq_zero hl0]
          | some r => rw [rdDl_some HLS.out.2.symm, ← HLS.out.1, if_pos HXX.out.symm])
        go_wp2_with fail
        go_ret
        unfold ReadDsR
        rw [hend.out]
        exact ⟨A, c, rfl, HW4.out, HRN.out, HRC.out, HS4.out, HO4.out⟩
      · have h1 : (x == 0) = false := beq_false_of_ne h0'
        have h2 : (x != 0) = true := by simp [h0']
        go_wp2_with fail
        refine (cspoil_st g st2 _ HS4.out).mono ?_
        rintro e w5 ⟨rfl, hs5, ho5⟩
        have HX5 := hid (And.intro hs5 (HO4.out.trans ho5))
        clear hs5 ho5
        go_wp2_with fail
        go_ret
        unfold ReadDsR
        have e0 : rdDl st = ([], none) := by
          cases st2 with
          | none => exact rdDl_none HLS.out.2.symm
          | some r => rw [rdDl_some HLS.out.2.symm, ← HLS.out.1, if_neg (by rw [← HXX.out]; exact h0')]
        rw [e0]
        exact ⟨none, 0, rfl, fun h => absurd h (by simp), fun _ => ⟨rfl, rfl⟩, Nat.le_refl _, HX5.out.1, HX5.out.2⟩
theorem same_none {t : VT} {r : Bool} (h : r = true ↔ t = .mk 0 0 ⟨#[]⟩ [] []) : r = noneT t := by rw [Bool.eq_iff_iff, h, noneT_iff]
set_option maxHeartbeats 16000000 in
theorem r6may_any (S : Nat → Prop) (d : DelT) (cs : Array Value) (w : World) (hS : ∀ b, S b → b < w.heap.size) (h : DelL w S d cs) (hd : depthT d.val ≤ 4611686018427387903) :
    Calls Tryz.prog 110 #[.agg cs] w fun e w' => e = .returned (.bool (mayD d)) ∧ Below w.heap.size w w' := by
  obtain ⟨PA, pc, VA, vc, VA', vc', rfl, hv, hp, hpc, hpn, hk, hn, hpl⟩ := h
  obtain ⟨w1, hw1⟩ : ∃ W, W = w.alloc (.cells #[.int .i64 d.kind, .slice PA d.path.length pc, .int .i64 d.val.kind, .int .i64 d.val.num, .string d.val.text, .slice VA d.val.items.length vc, .slice VA' d.val.names.length vc', .int .i64 d.num] 95) := ⟨_, rfl⟩
  have hbk : w1.heap[w.heap.size]? = some (.cells #[.int .i64 d.kind, .slice PA d.path.length pc, .int .i64 d.val.kind, .int .i64 d.val.num, .string d.val.text, .slice VA d.val.items.length vc, .slice VA' d.val.names.length vc', .int .i64 d.num] 95 (0, 0)) := by rw [hw1]; exact heap_alloc_new w _
  have hb1 : Below w.heap.size w w1 := by rw [hw1]; exact (Below.refl _ _).alloc (Nat.le_refl _) _
  have y0 := Go.Joins.cell_of_block hbk 0
  have y1 := Go.Joins.cell_of_block hbk 1
  have y2 := Go.Joins.cell_of_block hbk 2
  have y3 := Go.Joins.cell_of_block hbk 3
  have y4 := Go.Joins.cell_of_block hbk 4
  have y5 := Go.Joins.cell_of_block hbk 5
  have y6 := Go.Joins.cell_of_block hbk 6
  have y7 := Go.Joins.cell_of_block hbk 7
  have hS1 : ∀ b, S b → b < w1.heap.size := fun b hb => Nat.lt_of_lt_of_le (hS b hb) hb1.size
  have hv1 := hv.keep fun b hb => hb1.block b (hS b hb)
  have HMA := hid (rpmay_any PA pc d.path w1 S (hp.keep fun b hb => hb1.block b (hS b hb)) (by omega))
  have HNO := hid (rsame_any S (depthT d.val) d.val (.mk 0 0 ⟨#[]⟩ [] []) _ (.agg #[.int .i64 0, .int .i64 0, .string ⟨#[]⟩, .slice none 0 0, .slice none 0 0]) _ (Nat.le_refl _) hS1 hv1 (zero_lv _ _))
  have HD := hid hd
  have HV := hid hv1
  have HBK := hid hbk
  have HB1 := hid hb1
  have HW1 := hid hw1
  have HS := hid hS
  obtain ⟨r, hr⟩ : ∃ r, r = mayD d := ⟨_, rfl⟩
  have HR := hid hr
  rw [← hr]
  clear hbk hb1 hS1 hv1 hv hp hpc hpn hk hn hpl hd hS hr
  go_enter Tryz.func110, Tryz.ntmps110
  go_wp2_with fail
  rw [← hw1]
  clear hw1
  refine HMA.out.mono ?_
  rintro e w2 ⟨rfl, rfl⟩
  clear HMA
  cases hmp : mayP d.path
  · go_wp2_with fail
    go_ret
    exact ⟨by rw [HR.out]; unfold mayD; rw [hmp]; rfl, HB1.out⟩
  have HMP := hid hmp
  clear hmp
  obtain ⟨k, hk⟩ : ∃ k, k = d.kind := ⟨_, rfl⟩
  rw [← hk] at y0
  have HK := hid hk.symm
  clear hk
  go_wp2_with fail
  refine HNO.out.mono ?_
  rintro e w3 ⟨⟨rn, rfl, hrn⟩, hb3⟩
  obtain rfl := same_none hrn
  have HB3 := hid (HB1.out.trans (hb3.mono HB1.out.size))
  have hk3 := (hb3.block _ (Array.getElem?_eq_some_iff.1 HBK.out).1).trans HBK.out
  have HV3 := hid (HV.out.keep fun b hb => hb3.block b (Nat.lt_of_lt_of_le (HS.out b hb) HB1.out.size))
  have HBK3 := hid hk3
  have x0 := Go.Joins.cell_of_block hk3 0
  have x1 := Go.Joins.cell_of_block hk3 1
  have x2 := Go.Joins.cell_of_block hk3 2
  have x3 := Go.Joins.cell_of_block hk3 3
  have x4 := Go.Joins.cell_of_block hk3 4
  have x5 := Go.Joins.cell_of_block hk3 5
  have x6 := Go.Joins.cell_of_block hk3 6
  have x7 := Go.Joins.cell_of_block hk3 7
  rw [HK.out] at x0
  clear hb3 hk3 HNO hrn y0 y1 y2 y3 y4 y5 y6 y7 HV HBK
  by_cases k1 : k = 1
  · subst k1
    have HCK := hid (rcheck_any S d.val _ w3 HD.out (fun b hb => Nat.lt_of_lt_of_le (HS.out b hb) HB3.out.size) HV3.out)
    go_wp2_with fail
    refine HCK.out.mono ?_
    rintro e w4 ⟨rfl, hb4⟩
    have HB4 := hid (HB3.out.trans (hb4.mono HB3.out.size))
    have HBK4 := (hb4.block _ (Array.getElem?_eq_some_iff.1 HBK3.out).1).trans HBK3.out
    have z7 := Go.Joins.cell_of_block HBK4 7
    obtain ⟨b1, d1⟩ : ∃ b, (checkT d.val == 0) = b := ⟨_, rfl⟩
    obtain ⟨b2, d2⟩ : ∃ b, (d.num == 0) = b := ⟨_, rfl⟩
    have HE : Hid (mayD d = (b1 && b2)) := hid (by
      rw [← d1, ← d2]
      unfold mayD
      rw [HMP.out, HK.out]
      rw [Bool.eq_iff_iff]
      simp)
    clear hb4 HBK4 HCK
    cases b1 <;> cases b2
    all_goals
      go_wp2_with fail
      go_ret
      exact ⟨by rw [HR.out, HE.out]; rfl, HB4.out⟩
  have e1 := beq_false_of_ne k1
  by_cases k2 : k = 2
  · subst k2
    obtain ⟨b1, d1⟩ : ∃ b, noneT d.val = b := ⟨_, rfl⟩
    obtain ⟨b2, d2⟩ : ∃ b, (d.num == 0) = b := ⟨_, rfl⟩
    have HE : Hid (mayD d = (b1 && b2)) := hid (by
      rw [← d1, ← d2]
      unfold mayD
      rw [HMP.out, HK.out]
      rw [Bool.eq_iff_iff]
      simp)
    rw [d1]
    cases b1 <;> cases b2
    all_goals
      go_wp2_with fail
      go_ret
      exact ⟨by rw [HR.out, HE.out]; rfl, HB3.out⟩
  have e2 := beq_false_of_ne k2
  by_cases k3 : k = 3
  · subst k3
    obtain ⟨b1, d1⟩ : ∃ b, noneT d.val = b := ⟨_, rfl⟩
    obtain ⟨b2, d2⟩ : ∃ b, decide (d.num ≥ 0) = b := ⟨_, rfl⟩
    obtain ⟨b3, d3⟩ : ∃ b, decide (d.num ≤ 999) = b := ⟨_, rfl⟩
    have HE : Hid (mayD d = (b1 && (b2 && b3))) := hid (by
      rw [← d1, ← d2, ← d3]
      unfold mayD
      rw [HMP.out, HK.out]
      rw [Bool.eq_iff_iff]
      simp)
    rw [d1]
    cases b1 <;> cases b2 <;> cases b3
    all_goals
      go_wp2_with fail
      go_ret
      exact ⟨by rw [HR.out, HE.out]; rfl, HB3.out⟩
  have e3 := beq_false_of_ne k3
  have HN : Hid (mayD d = false) := hid (by
    unfold mayD
    rw [HK.out]
    simp [k1, k2, k3])
  clear k1 k2 k3
  go_wp2_with fail
  go_ret
  exact ⟨by rw [HR.out, HN.out]; rfl, HB3.out⟩
def bigD (d : DelT) : Bool := largeT d.val || decide (50 < d.path.length)
def largeD (l : List DelT) : Bool := (l.take 70).any bigD || decide (100 < l.length)
theorem largeD_hit {l : List DelT} {k : Nat} (hk : k < l.length) (h70 : k < 70) (h : bigD l[k] = true) : largeD l = true := by
  unfold largeD
  rw [List.any_eq_true.2 ⟨l[k], List.mem_take_iff_getElem.2 ⟨k, by omega, rfl⟩, h⟩]
  rfl
theorem largeD_miss {l : List DelT} {k : Nat} (h : ∀ j (hj : j < l.length), j < k → bigD l[j] = false) (hk : k = l.length ∨ 70 ≤ k) : largeD l = decide (100 < l.length) := by
  unfold largeD
  rw [show (l.take 70).any bigD = false from List.any_eq_false.2 fun x hx => by
    obtain ⟨j, hj, rfl⟩ := List.mem_take_iff_getElem.1 hx
    rw [h j (by omega) (by omega)]
    simp]
  rfl
theorem largeD_small {l : List DelT} (h : largeD l = false) : l.length ≤ 100 ∧ ∀ d ∈ l.take 70, depthT d.val ≤ 41 ∧ d.path.length ≤ 50 ∧ largeT d.val = false := by
  unfold largeD at h
  simp only [Bool.or_eq_false_iff, decide_eq_false_iff_not] at h
  refine ⟨by omega, fun d hd => ?_⟩
  have h4 := List.any_eq_false.1 h.1 d hd
  unfold bigD at h4
  simp only [Bool.or_eq_true, not_or, decide_eq_true_eq, Bool.not_eq_true] at h4
  exact ⟨depth_small h4.1, by omega, h4.1⟩
set_option maxHeartbeats 16000000 in
theorem r6large_any (S : Nat → Prop) (A : Option Addr) (c : Nat) (l : List DelT) (w : World) (hS : ∀ b, S b → b < w.heap.size) (h : DelsL w S A l) (hn : l.length ≤ 140737488351232) :
    Calls Tryz.prog 42 #[.slice A l.length c] w fun e w' => e = .returned (.bool (largeD l)) ∧ Below w.heap.size w w' := by
  have H := hid h
  have HS := hid hS
  obtain ⟨r, hr⟩ : ∃ r, r = largeD l := ⟨_, rfl⟩
  have HR := hid hr
  rw [← hr]
  obtain ⟨n, hn'⟩ : ∃ n, n = l.length := ⟨_, rfl⟩
  have HN := hid hn'
  rw [← hn'] at hn ⊢
  clear h hS hr hn'
  go_enter Tryz.func42, Tryz.ntmps42
  go_wp2_with fail
  go_loopw [3] (fun i wr => ∃ k : Nat, i = .int .i64 k ∧ k ≤ n ∧ k ≤ 70 ∧ Hid (Below w.heap.size w wr) ∧ Hid (∀ j (h : j < l.length), j < k → bigD l[j] = false)) (fun i _ => n - (intOf i).toNat)
  case atStart => exact ⟨0, rfl, by omega, by omega, hid (Below.refl _ _), hid fun j _ h => absurd h (by omega)⟩
  case round =>
    obtain ⟨k, rfl, hk, hk6, HB, HJ⟩ := hrel
    by_cases hlt : k < n ∧ k < 70
    · obtain ⟨hlt, h70⟩ := hlt
      have d1 : decide ((k : Int) < (n : Int)) = true := decide_eq_true (by omega)
      have d2 : decide ((k : Int) < 70) = true := decide_eq_true (by omega)
      have hkl : k < l.length := by have := HN.out; omega
      have hS2 : ∀ b, S b → b < wr.heap.size := fun b hb => Nat.lt_of_lt_of_le (HS.out b hb) HB.out.size
      obtain ⟨p, off, PA, pc, VA, vc, VA', vc', rfl, hpS, ho, x0, x1, x2, x3, x4, x5, x6, x7⟩ := (H.out.below HS.out HB.out).cells k hkl
      have hlv : LV wr S l[k].val (.agg #[.int .i64 l[k].val.kind, .int .i64 l[k].val.num, .string l[k].val.text, .slice VA l[k].val.items.length vc, .slice VA' l[k].val.names.length vc']) := by
        obtain ⟨PB, pd, VB, vd, VB', vd', e, q0, -⟩ := ho
        simp only [Array.mk.injEq, List.cons.injEq, Value.slice.injEq, and_true, true_and] at e
        obtain ⟨⟨rfl, rfl⟩, ⟨rfl, rfl⟩, rfl, rfl⟩ := e
        exact q0
      have HLG := hid (large_any S l[k].val _ wr hS2 hlv)
      have hp2 := hS2 p hpS
      have HX : Hid (∀ W, Below wr.heap.size wr W → W.cell? ⟨p, off + k * 8 + 1, none⟩ = some (.slice PA l[k].path.length pc)) := hid fun W hW => (hW.cell (p := ⟨p, off + k * 8 + 1, none⟩) hp2).trans x1
      have HBO : Hid (bigD l[k] = (largeT l[k].val || decide (50 < l[k].path.length))) := hid rfl
      obtain ⟨np, hnp⟩ : ∃ n, n = l[k].path.length := ⟨_, rfl⟩
      obtain ⟨lg, hlg⟩ : ∃ b, b = largeT l[k].val := ⟨_, rfl⟩
      rw [← hnp] at HX HBO x1
      rw [← hlg] at HLG HBO
      have HH := hid (fun hb : bigD l[k] = true => largeD_hit hkl h70 hb)
      clear hlv hpS ho hnp hlg hS2 hp2
      go_wp2_with fail
      refine HLG.out.mono ?_
      rintro e u ⟨rfl, hb⟩
      have HB2 := hid (HB.out.trans (hb.mono HB.out.size))
      have x1' := HX.out u hb
      clear x0 x1 x2 x3 x4 x5 x6 x7 hb HLG HX
      cases lg
      rotate_left
      · have HT : Hid (largeD l = true) := hid (HH.out (by rw [HBO.out]; rfl))
        go_wp2_with fail
        go_ret
        exact ⟨by rw [HR.out, HT.out]; rfl, HB2.out⟩
      by_cases h50 : 50 < np
      · have d3 : decide ((np : Int) > 50) = true := decide_eq_true (by omega)
        have HT : Hid (largeD l = true) := hid (HH.out (by rw [HBO.out, decide_eq_true h50]; rfl))
        clear h50
        go_wp2_with fail
        go_ret
        exact ⟨by rw [HR.out, HT.out]; rfl, HB2.out⟩
      · have d3 : decide ((np : Int) > 50) = false := decide_eq_false (by omega)
        have HT : Hid (bigD l[k] = false) := hid (by rw [HBO.out, decide_eq_false h50]; rfl)
        clear h50
        go_wp2_with fail
        go_roundw
        case rel => exact ⟨k + 1, by go_num, by omega, by omega, HB2, hid fun j h hjk => by
          by_cases e : j = k
          · subst e; exact HT.out
          · exact HJ.out j h (by omega)⟩
        case measure => simp [intOf]; omega
    · have HM : Hid (largeD l = decide (100 < n)) := hid (by rw [HN.out]; exact largeD_miss HJ.out (by have := HN.out; omega))
      have hcut : (k < n ∧ ¬ k < 70) ∨ ¬ k < n := by omega
      clear hlt hk
      by_cases h50 : 100 < n
      · have d3 : decide ((n : Int) > 100) = true := decide_eq_true (by omega)
        have HE : Hid (largeD l = true) := hid (by rw [HM.out, decide_eq_true h50])
        clear h50
        rcases hcut with ⟨c1, c2⟩ | c1
        · have d1 : decide ((k : Int) < (n : Int)) = true := decide_eq_true (by omega)
          have d2 : decide ((k : Int) < 70) = false := decide_eq_false (by omega)
          go_wp2_with fail
          go_ret
          exact ⟨by rw [HR.out, HE.out]; rfl, HB.out⟩
        · have d1 : decide ((k : Int) < (n : Int)) = false := decide_eq_false (by omega)
          go_wp2_with fail
          go_ret
          exact ⟨by rw [HR.out, HE.out]; rfl, HB.out⟩
      · have d3 : decide ((n : Int) > 100) = false := decide_eq_false (by omega)
        have HE : Hid (largeD l = false) := hid (by rw [HM.out, decide_eq_false h50])
        clear h50
        rcases hcut with ⟨c1, c2⟩ | c1
        · have d1 : decide ((k : Int) < (n : Int)) = true := decide_eq_true (by omega)
          have d2 : decide ((k : Int) < 70) = false := decide_eq_false (by omega)
          go_wp2_with fail
          go_ret
          exact ⟨by rw [HR.out, HE.out]; rfl, HB.out⟩
        · have d1 : decide ((k : Int) < (n : Int)) = false := decide_eq_false (by omega)
          go_wp2_with fail
          go_ret
          exact ⟨by rw [HR.out, HE.out]; rfl, HB.out⟩
set_option maxHeartbeats 8000000 in
theorem r6check_any (S : Nat → Prop) (A : Option Addr) (c : Nat) (l : List DelT) (w : World) (hS : ∀ b, S b → b < w.heap.size) (h : DelsL w S A l) (hn : l.length ≤ 140737488351232) (hd : SmallD l) :
    Calls Tryz.prog 89 #[.slice A l.length c] w fun e w' => e = .returned (.int .i64 (checkD l)) ∧ Below w.heap.size w w' := by
  have H := hid h
  have HS := hid hS
  have HD := hid hd
  obtain ⟨r, hr⟩ : ∃ r, r = checkD l := ⟨_, rfl⟩
  have HR := hid hr
  rw [← hr]
  obtain ⟨n, hn'⟩ : ∃ n, n = l.length := ⟨_, rfl⟩
  have HN := hid hn'
  rw [← hn'] at hn ⊢
  clear h hS hr hn' hd
  go_enter Tryz.func89, Tryz.ntmps89
  by_cases h64 : 64 < n
  · have d1 : decide ((n : Int) > 64) = true := decide_eq_true (by omega)
    go_wp2_with fail
    go_ret
    exact ⟨by rw [HR.out]; unfold checkD; rw [if_pos (by have := HN.out; omega)]; rfl, Below.refl _ _⟩
  have d1 : decide ((n : Int) > 64) = false := decide_eq_false (by omega)
  have H64 : Hid (¬ 64 < l.length) := hid (by have := HN.out; omega)
  go_wp2_with fail
  go_loopw [3] (fun i wr => ∃ k : Nat, i = .int .i64 k ∧ k ≤ n ∧ Hid (Below w.heap.size w wr) ∧ Hid (∀ j (h : j < l.length), j < k → mayD l[j] = true)) (fun i _ => n - (intOf i).toNat)
  case atStart => exact ⟨0, rfl, by omega, hid (Below.refl _ _), hid fun j _ h => absurd h (by omega)⟩
  case round =>
    obtain ⟨k, rfl, hk, HB, HJ⟩ := hrel
    by_cases hlt : k < n
    · have d2 : decide ((k : Int) < (n : Int)) = true := decide_eq_true (by omega)
      have hkl : k < l.length := by have := HN.out; omega
      have hS2 : ∀ b, S b → b < wr.heap.size := fun b hb => Nat.lt_of_lt_of_le (HS.out b hb) HB.out.size
      obtain ⟨p, off, PA, pc, VA, vc, VA', vc', rfl, hpS, ho, x0, x1, x2, x3, x4, x5, x6, x7⟩ := (H.out.below HS.out HB.out).cells k hkl
      have HC := hid (r6may_any S l[k] _ wr hS2 ho (HD.out _ (List.getElem_mem hkl)))
      clear ho hS2 hpS
      go_wp2_with fail
      refine HC.out.mono ?_
      rintro e u ⟨rfl, hb⟩
      have HB2 := hid (HB.out.trans (hb.mono HB.out.size))
      clear hb HC x0 x1 x2 x3 x4 x5 x6 x7
      cases hm : mayD l[k]
      · have HM := hid hm
        clear hm
        go_wp2_with fail
        go_ret
        exact ⟨by rw [HR.out]; unfold checkD; rw [if_neg H64.out, all_not'D hkl HM.out]; rfl, HB2.out⟩
      · have HM := hid hm
        clear hm
        go_wp2_with fail
        go_roundw
        case rel => exact ⟨k + 1, by go_num, by omega, HB2, hid fun j h hjk => by
          by_cases e : j = k
          · subst e; exact HM.out
          · exact HJ.out j h (by omega)⟩
        case measure => simp [intOf]; omega
    · have d2 : decide ((k : Int) < (n : Int)) = false := decide_eq_false (by omega)
      have HA : Hid (l.all mayD = true) := hid (all_upto'D fun j h => HJ.out j h (by have := HN.out; omega))
      go_wp2_with fail
      go_ret
      exact ⟨by rw [HR.out]; unfold checkD; rw [if_neg H64.out, HA.out]; rfl, HB.out⟩
end Go.Proofs.YtpcdngpppjdgcaaGreat
