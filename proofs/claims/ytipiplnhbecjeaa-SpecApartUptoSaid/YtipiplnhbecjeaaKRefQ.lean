/- The order of two values that may be, as the document's answer has it. -/
import Derived.Test.YtipiplnhbecjeaaKVr
import Derived.Test.YtipiplnhbecjeaaKReg
namespace Go.Proofs.Ytipiplnhbecjeaa
set_option linter.unusedVariables false
set_option linter.unusedSimpArgs false
open Go.RowKit

theorem two_vars {w : World} {S : Nat → Prop} {a b : VT} {va vb : Value} (hS : ∀ b, S b → b < w.heap.size) (ha : LV w S a va) (hb : LV w S b vb) :
    ∃ A ca A' ca' B cb B' cb', va = .agg #[.int .i64 a.kind, .int .i64 a.num, .string a.text, .slice A a.items.length ca, .slice A' a.names.length ca'] ∧ vb = .agg #[.int .i64 b.kind, .int .i64 b.num, .string b.text, .slice B b.items.length cb, .slice B' b.names.length cb'] ∧
      (a.items.length ≤ 140737488351232 ∧ a.names.length ≤ 140737488351232 ∧ b.items.length ≤ 140737488351232 ∧ b.names.length ≤ 140737488351232) ∧ LVA w S A a.items ∧ StrsAt w S A' a.names ∧ LVA w S B b.items ∧ StrsAt w S B' b.names ∧
      Vr ((w.alloc (.cells #[.int .i64 a.kind, .int .i64 a.num, .string a.text, .slice A a.items.length ca, .slice A' a.names.length ca'] 25)).alloc (.cells #[.int .i64 b.kind, .int .i64 b.num, .string b.text, .slice B b.items.length cb, .slice B' b.names.length cb'] 25)) S w.heap.size a A ca A' ca' ∧
      Vr ((w.alloc (.cells #[.int .i64 a.kind, .int .i64 a.num, .string a.text, .slice A a.items.length ca, .slice A' a.names.length ca'] 25)).alloc (.cells #[.int .i64 b.kind, .int .i64 b.num, .string b.text, .slice B b.items.length cb, .slice B' b.names.length cb'] 25)) S (w.heap.size + 1) b B cb B' cb' ∧
      Below w.heap.size w ((w.alloc (.cells #[.int .i64 a.kind, .int .i64 a.num, .string a.text, .slice A a.items.length ca, .slice A' a.names.length ca'] 25)).alloc (.cells #[.int .i64 b.kind, .int .i64 b.num, .string b.text, .slice B b.items.length cb, .slice B' b.names.length cb'] 25)) := by
  obtain ⟨A, ca, A', ca', rfl, -, -, -, a4, a5, a6, a7⟩ := ha.shape
  obtain ⟨B, cb, B', cb', rfl, -, -, -, b4, b5, b6, b7⟩ := hb.shape
  refine ⟨A, ca, A', ca', B, cb, B', cb', rfl, rfl, ⟨a4, a5, b4, b5⟩, a7, a6, b7, b6, (Vr.new hS ha).alloc _, ?_, (below_box _).alloc (by simp) _⟩
  have h := Vr.new (sub_alloc hS (.cells #[.int .i64 a.kind, .int .i64 a.num, .string a.text, .slice A a.items.length ca, .slice A' a.names.length ca'] 25)) (hb.alloc hS (.cells #[.int .i64 a.kind, .int .i64 a.num, .string a.text, .slice A a.items.length ca, .slice A' a.names.length ca'] 25))
  have e : (w.alloc (.cells #[.int .i64 a.kind, .int .i64 a.num, .string a.text, .slice A a.items.length ca, .slice A' a.names.length ca'] 25)).heap.size = w.heap.size + 1 := by simp
  rw [e] at h
  exact h


theorem ore0 (x : Int) : ore 0 x = x := by simp [ore]
theorem cmpTL_stop (d : Bool) {l l' : List VT} {j : Nat} (ns ns' : List ByteArray) (h1 : j ≤ l.length) (h2 : j ≤ l'.length) (h : ¬ (j < l.length ∧ j < l'.length)) :
    cmpTL d (l.drop j) ns (l'.drop j) ns' = cmpI l.length l'.length := by
  rcases Nat.lt_trichotomy l.length l'.length with hl | hl | hl
  · rw [List.drop_eq_nil_of_le (by omega : l.length ≤ j), List.drop_eq_getElem_cons (by omega : j < l'.length)]
    unfold cmpTL cmpI
    rw [if_pos (by omega)]
  · rw [List.drop_eq_nil_of_le (by omega : l.length ≤ j), List.drop_eq_nil_of_le (by omega : l'.length ≤ j)]
    unfold cmpTL cmpI
    rw [if_neg (by omega), if_neg (by omega)]
  · rw [List.drop_eq_nil_of_le (by omega : l'.length ≤ j), List.drop_eq_getElem_cons (by omega : j < l.length)]
    unfold cmpTL cmpI
    rw [if_neg (by omega), if_pos (by omega)]

end Go.Proofs.Ytipiplnhbecjeaa

/- Whether two values are the same field by field, as the document's answer has it. -/
namespace Go.Proofs.Ytipiplnhbecjeaa
set_option linter.unusedVariables false
set_option linter.unusedSimpArgs false
open Go.RowKit

theorem VT.same {a b : VT} (h0 : a.kind = b.kind) (h1 : a.num = b.num) (h2 : a.text = b.text) (h3 : a.items = b.items) (h4 : a.names = b.names) : a = b := by
  cases a; cases b
  simp only [VT.kind, VT.num, VT.text, VT.items, VT.names] at *
  subst h0 h1 h2 h3 h4; rfl
theorem not_same {a b : VT} (h : ¬ a = b) : (false = true) ↔ a = b := ⟨fun h => (by cases h), fun h' => absurd h' h⟩

set_option maxHeartbeats 4000000 in
set_option maxRecDepth 100000 in
theorem rsame_any (S : Nat → Prop) : ∀ (n : Nat) (a b : VT) (va vb : Value) (w : World), depthT a ≤ n → (∀ b, S b → b < w.heap.size) → LV w S a va → LV w S b vb →
    Calls Try.prog 22 #[va, vb] w fun e w' => (∃ r : Bool, e = .returned (.bool r) ∧ (r = true ↔ a = b)) ∧ Below w.heap.size w w' := by
  intro n
  induction n with
  | zero => intro a b va vb w hd; cases a; rw [depthT_mk] at hd; omega
  | succ n ih =>
    intro a b va vb w hd hS ha hb
    obtain ⟨A, ca, A', ca', B, cb, B', cb', rfl, rfl, lens, a7, a6, b7, b6, v1, v2, hb0⟩ := two_vars hS ha hb
    have LENS := Lib.hid lens
    have A7 := Lib.hid a7
    have A6 := Lib.hid a6
    have B7 := Lib.hid b7
    have B6 := Lib.hid b6
    have P10 := Lib.hid v1
    have P20 := Lib.hid v2
    have HB0 := Lib.hid hb0
    have HD := Lib.hid hd
    have k0 := v1.x.c0
    have k1 := v1.x.c1
    have k2 := v1.x.c2
    have k3 := v1.x.c3
    have k4 := v1.x.c4
    have l0 := v2.x.c0
    have l1 := v2.x.c1
    have l2 := v2.x.c2
    have l3 := v2.x.c3
    have l4 := v2.x.c4
    clear ha hb lens a7 a6 b7 b6 v1 v2 hb0 hd
    by_cases hk : a.kind = b.kind
    · have ek1 : (a.kind == b.kind) = true := by simpa using hk
      have ek2 : (a.kind != b.kind) = false := by simpa using hk
      have HK := Lib.hid hk
      clear hk
      by_cases hi : a.num = b.num
      · have ei1 : (a.num == b.num) = true := by simpa using hi
        have ei2 : (a.num != b.num) = false := by simpa using hi
        have HI := Lib.hid hi
        clear hi
        by_cases ht : a.text.toList = b.text.toList
        · have et1 : (a.text.toList == b.text.toList) = true := by simpa using ht
          have HT : Hid (a.text = b.text) := Lib.hid (toList_inj ht)
          clear ht
          by_cases hl : a.items.length = b.items.length
          · have el1 : ((a.items.length : Int) == (b.items.length : Int)) = true := beq_iff_eq.2 (by omega)
            have el2 : ((a.items.length : Int) != (b.items.length : Int)) = false := bne_eq_false_iff_eq.2 (by omega)
            have el3 : (a.items.length == b.items.length) = true := by simpa using hl
            have HL := Lib.hid hl
            clear hl
            by_cases hn : a.names.length = b.names.length
            · have en1 : ((a.names.length : Int) == (b.names.length : Int)) = true := beq_iff_eq.2 (by omega)
              have en2 : ((a.names.length : Int) != (b.names.length : Int)) = false := bne_eq_false_iff_eq.2 (by omega)
              have en3 : (a.names.length == b.names.length) = true := by simpa using hn
              have HN := Lib.hid hn
              clear hn
              go_enter Try.func22, Try.ntmps22
              go_wp2_with fail
              clear k0 k1 k2 k3 k4 l0 l1 l2 l3 l4 ek1 ek2 ei1 ei2 et1 el1 el2 el3 en1 en2 en3
              go_loopw [5] (fun i wr => ∃ j : Nat, i = .int .i64 j ∧ j ≤ a.items.length ∧ Hid (∀ k (h : k < a.items.length) (h' : k < b.items.length), k < j → a.items[k] = b.items[k]) ∧ Hid (Below w.heap.size w wr) ∧
                Hid (Vr wr S w.heap.size a A ca A' ca') ∧ Hid (Vr wr S (w.heap.size + 1) b B cb B' cb')) (fun i _ => a.items.length - (intOf i).toNat)
              case atStart => exact ⟨0, rfl, Nat.zero_le _, Lib.hid (fun k _ _ h => absurd h (Nat.not_lt_zero _)), HB0, P10, P20⟩
              case round =>
                obtain ⟨j, rfl, hj1, HE, HB, P1, P2⟩ := hrel
                have k3 := P1.out.x.c3
                have hl1 := LENS.out.1
                by_cases hla : j < a.items.length
                · have hlb : j < b.items.length := by have := HL.out; omega
                  have HDJ : Hid (depthT a.items[j] ≤ n) := Lib.hid (by
                    have hdp := depthL_le (List.getElem_mem hla)
                    have hdt : depthT a = depthL a.items + 1 := by cases a; exact depthT_mk _ _ _ _ _
                    have := HD.out
                    omega)
                  obtain ⟨p, o, A2, e2, A3, e3, rfl, hp, h0, h1, h2, h3, h4, hx⟩ := item_at hS A7.out HB.out j hla
                  obtain ⟨p', o', B2, f2, B3, f3, rfl, hp', g0, g1, g2, g3, g4, hy⟩ := item_at hS B7.out HB.out j hlb
                  have hp2 : p < wr.heap.size := Nat.lt_of_lt_of_le hp HB.out.size
                  have hp2' : p' < wr.heap.size := Nat.lt_of_lt_of_le hp' HB.out.size
                  have HC := Lib.hid (ih a.items[j] b.items[j] _ _ wr.drew HDJ.out P1.out.drew.s hx.drew hy.drew)
                  clear hx hy hp hp' HDJ
                  go_wp2_with fail
                  try simp only [List.append_eq, List.cons_append, List.nil_append]
                  refine wp_region_lex (by kernel_rfl) (by kernel_rfl) (fun _ d _ _ _ h => by cases d <;> exact h) ?_
                  have q3 := cell_later (B := wr.heap.size) (w := wr.drew) P1.out.x.c3 P1.out.x.lt
                  have q3' := cell_later (B := wr.heap.size) (w := wr.drew) P2.out.x.c3 P2.out.x.lt
                  have p0 := cell_later (B := wr.heap.size) (w := wr.drew) h0 hp2
                  have p1 := cell_later (B := wr.heap.size) (w := wr.drew) h1 hp2
                  have p2 := cell_later (B := wr.heap.size) (w := wr.drew) h2 hp2
                  have p3 := cell_later (B := wr.heap.size) (w := wr.drew) h3 hp2
                  have p4 := cell_later (B := wr.heap.size) (w := wr.drew) h4 hp2
                  have s0 := cell_later (B := wr.heap.size) (w := wr.drew) g0 hp2'
                  have s1 := cell_later (B := wr.heap.size) (w := wr.drew) g1 hp2'
                  have s2 := cell_later (B := wr.heap.size) (w := wr.drew) g2 hp2'
                  have s3 := cell_later (B := wr.heap.size) (w := wr.drew) g3 hp2'
                  have s4 := cell_later (B := wr.heap.size) (w := wr.drew) g4 hp2'
                  first | refine mix_pure ?_ | refine mix_pureB ?_
                  simp only [List.takeWhile, List.dropWhile, isPure, Nat.reduceBNe]
                  repeat (go_big_quiet_step (fail))
                  refine wpQuiet_nil ?_
                  first | refine mix_call rfl (fun K hK => ?_) | refine mix_callB rfl (fun K hK => ?_)
                  go_simp
                  refine (HC.out).mono ?_
                  rintro e w4 ⟨⟨r, rfl, hr⟩, hb⟩
                  refine hK _ _ hb ?_
                  clear hK K
                  try simp only [Act.put]
                  have HRR := Lib.hid hr
                  clear hr
                  first | refine mix_pure ?_ | refine mix_pureB ?_
                  simp only [List.takeWhile, List.dropWhile, isPure, Nat.reduceBNe]
                  repeat (go_big_quiet_step (fail))
                  refine wpQuiet_nil ?_
                  unfold wpMix
                  have HB := Lib.hid (toStart HB.out (below_undrew hb))
                  have P1 := Lib.hid (P1.out.call (below_undrew hb))
                  have P2 := Lib.hid (P2.out.call (below_undrew hb))
                  clear q3 q3' p0 p1 p2 p3 p4 s0 s1 s2 s3 s4 hb HC h0 h1 h2 h3 h4 g0 g1 g2 g3 g4 hp2 hp2' k3
                  cases r
                  · have HF : Hid ((false = true) ↔ a = b) := Lib.hid (not_same fun h => by
                      have h1 := HRR.out.2 (by subst h; rfl)
                      cases h1)
                    go_wp2_with fail
                    go_ret
                    exact ⟨⟨_, rfl, HF.out⟩, HB.out⟩
                  · have HEQ := Lib.hid (HRR.out.1 rfl)
                    go_wp2_with fail
                    go_roundw
                    case rel => exact ⟨j + 1, by go_num, by omega, Lib.hid (fun k h h' hkj => by
                      by_cases e : k = j
                      · subst e; exact HEQ.out
                      · exact HE.out k h h' (by omega)), HB, P1, P2⟩
                    case measure => simp [intOf]; omega
                · have HEA : Hid (a.items = b.items) := Lib.hid (List.ext_getElem HL.out (fun k h h' => HE.out k h h' (by omega)))
                  obtain rfl : j = a.items.length := by omega
                  clear HE
                  go_wp2_with fail
                  clear k3 hla hj1
                  go_loopw [6] (fun i wr => ∃ j : Nat, i = .int .i64 j ∧ j ≤ a.names.length ∧ Hid (∀ k (h : k < a.names.length) (h' : k < b.names.length), k < j → a.names[k] = b.names[k]) ∧ Hid (Below w.heap.size w wr) ∧
                    Hid (Vr wr S w.heap.size a A ca A' ca') ∧ Hid (Vr wr S (w.heap.size + 1) b B cb B' cb')) (fun i _ => a.names.length - (intOf i).toNat)
                  case atStart => exact ⟨0, rfl, Nat.zero_le _, Lib.hid (fun k _ _ h => absurd h (Nat.not_lt_zero _)), HB, P1, P2⟩
                  case round =>
                    rename_i wr0 _ _ wr
                    obtain ⟨j, rfl, hj1, HE, HB, P1, P2⟩ := hrel
                    have k4 := P1.out.x.c4
                    have hl1 := LENS.out.2.1
                    by_cases ia : j < a.names.length
                    · have ib : j < b.names.length := by have := HN.out; omega
                      have hl2 := LENS.out.2.2.2
                      obtain ⟨qa, oa, rfl, hqa, t1, hsa⟩ := text_at hS A6.out HB.out j ia
                      obtain ⟨qb, ob, rfl, hqb, t2, hsb⟩ := text_at hS B6.out HB.out j ib
                      have hqa2 : qa < wr.heap.size := Nat.lt_of_lt_of_le hqa HB.out.size
                      have hqb2 : qb < wr.heap.size := Nat.lt_of_lt_of_le hqb HB.out.size
                      clear hqa hqb hsa hsb
                      obtain ⟨sa, hsa⟩ : ∃ sa, sa = a.names[j] := ⟨_, rfl⟩
                      obtain ⟨sb, hsb⟩ : ∃ sb, sb = b.names[j] := ⟨_, rfl⟩
                      rw [← hsa] at t1
                      rw [← hsb] at t2
                      have HSA := Lib.hid hsa
                      have HSB := Lib.hid hsb
                      clear hsa hsb
                      by_cases hs : sa.toList = sb.toList
                      · have es : (sa.toList == sb.toList) = true := by simpa using hs
                        have HEQ : Hid (a.names[j] = b.names[j]) := Lib.hid (by rw [← HSA.out, ← HSB.out]; exact toList_inj hs)
                        clear hs
                        go_wp2_with fail
                        try simp only [List.append_eq, List.cons_append, List.nil_append]
                        refine wp_region_lex (by kernel_rfl) (by kernel_rfl) (fun _ d _ _ _ h => by cases d <;> exact h) ?_
                        have q4 := cell_later (B := wr.heap.size) (w := wr.drew) P1.out.x.c4 P1.out.x.lt
                        have q4' := cell_later (B := wr.heap.size) (w := wr.drew) P2.out.x.c4 P2.out.x.lt
                        have u1 := cell_later (B := wr.heap.size) (w := wr.drew) t1 hqa2
                        have u2 := cell_later (B := wr.heap.size) (w := wr.drew) t2 hqb2
                        first | refine mix_pure ?_ | refine mix_pureB ?_
                        simp only [List.takeWhile, List.dropWhile, isPure, Nat.reduceBNe]
                        repeat (go_big_quiet_step (fail))
                        refine wpQuiet_nil ?_
                        unfold wpMix
                        clear q4 q4' u1 u2 t1 t2 hqa2 hqb2
                        go_wp2_with fail
                        go_roundw
                        case rel => exact ⟨j + 1, by go_num, by omega, Lib.hid (fun k h h' hkj => by
                          by_cases e : k = j
                          · subst e; exact HEQ.out
                          · exact HE.out k h h' (by omega)), Lib.hid HB.out.drew, Lib.hid P1.out.drew, Lib.hid P2.out.drew⟩
                        case measure => simp [intOf]; omega
                      · have es : (sa.toList == sb.toList) = false := by simpa using hs
                        have HF : Hid ((false = true) ↔ a = b) := Lib.hid (not_same fun h => hs (by
                          rw [HSA.out, HSB.out]
                          subst h; rfl))
                        clear hs
                        go_wp2_with fail
                        try simp only [List.append_eq, List.cons_append, List.nil_append]
                        refine wp_region_lex (by kernel_rfl) (by kernel_rfl) (fun _ d _ _ _ h => by cases d <;> exact h) ?_
                        have q4 := cell_later (B := wr.heap.size) (w := wr.drew) P1.out.x.c4 P1.out.x.lt
                        have q4' := cell_later (B := wr.heap.size) (w := wr.drew) P2.out.x.c4 P2.out.x.lt
                        have u1 := cell_later (B := wr.heap.size) (w := wr.drew) t1 hqa2
                        have u2 := cell_later (B := wr.heap.size) (w := wr.drew) t2 hqb2
                        first | refine mix_pure ?_ | refine mix_pureB ?_
                        simp only [List.takeWhile, List.dropWhile, isPure, Nat.reduceBNe]
                        repeat (go_big_quiet_step (fail))
                        refine wpQuiet_nil ?_
                        unfold wpMix
                        clear q4 q4' u1 u2 t1 t2 hqa2 hqb2
                        go_wp2_with fail
                        go_ret
                        exact ⟨⟨_, rfl, HF.out⟩, HB.out.drew⟩
                    · have HF : Hid ((true = true) ↔ a = b) := Lib.hid ⟨fun _ => VT.same HK.out HI.out HT.out HEA.out (List.ext_getElem HN.out (fun k h h' => HE.out k h h' (by omega))), fun _ => rfl⟩
                      go_wp2_with fail
                      go_ret
                      exact ⟨.inr ⟨rfl, by have h := HF.out; simpa using h⟩, HB.out⟩
            · have en1 : ((a.names.length : Int) == (b.names.length : Int)) = false := beq_eq_false_iff_ne.2 (by omega)
              have en2 : ((a.names.length : Int) != (b.names.length : Int)) = true := bne_iff_ne.2 (by omega)
              have en3 : (a.names.length == b.names.length) = false := by simpa using hn
              have HF : Hid ((false = true) ↔ a = b) := Lib.hid (not_same fun h => hn (by rw [h]))
              clear hn
              go_enter Try.func22, Try.ntmps22
              go_wp2_with fail
              go_ret
              exact ⟨⟨_, rfl, HF.out⟩, HB0.out⟩
          · have el1 : ((a.items.length : Int) == (b.items.length : Int)) = false := beq_eq_false_iff_ne.2 (by omega)
            have el2 : ((a.items.length : Int) != (b.items.length : Int)) = true := bne_iff_ne.2 (by omega)
            have el3 : (a.items.length == b.items.length) = false := by simpa using hl
            have HF : Hid ((false = true) ↔ a = b) := Lib.hid (not_same fun h => hl (by rw [h]))
            clear hl
            go_enter Try.func22, Try.ntmps22
            go_wp2_with fail
            go_ret
            exact ⟨⟨_, rfl, HF.out⟩, HB0.out⟩
        · have et1 : (a.text.toList == b.text.toList) = false := by simpa using ht
          have HF : Hid ((false = true) ↔ a = b) := Lib.hid (not_same fun h => ht (by rw [h]))
          clear ht
          go_enter Try.func22, Try.ntmps22
          go_wp2_with fail
          go_ret
          exact ⟨⟨_, rfl, HF.out⟩, HB0.out⟩
      · have ei1 : (a.num == b.num) = false := by simpa using hi
        have ei2 : (a.num != b.num) = true := by simpa using hi
        have HF : Hid ((false = true) ↔ a = b) := Lib.hid (not_same fun h => hi (by rw [h]))
        clear hi
        go_enter Try.func22, Try.ntmps22
        go_wp2_with fail
        go_ret
        exact ⟨⟨_, rfl, HF.out⟩, HB0.out⟩
    · have ek1 : (a.kind == b.kind) = false := by simpa using hk
      have ek2 : (a.kind != b.kind) = true := by simpa using hk
      have HF : Hid ((false = true) ↔ a = b) := Lib.hid (not_same fun h => hk (by rw [h]))
      clear hk
      go_enter Try.func22, Try.ntmps22
      go_wp2_with fail
      go_ret
      exact ⟨⟨_, rfl, HF.out⟩, HB0.out⟩
end Go.Proofs.Ytipiplnhbecjeaa
