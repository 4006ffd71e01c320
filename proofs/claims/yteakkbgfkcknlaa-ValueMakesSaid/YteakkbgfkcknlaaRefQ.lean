/- The order of two values that may be, as the document's answer has it. -/
import Derived.Test.YteakkbgfkcknlaaVr
import Derived.Test.YteakkbgfkcknlaaLex
namespace Go.Proofs.Yteakkbgfkcknlaa
open Go.RowKit

theorem two_vars {w : World} {S : Nat → Prop} {a b : VT} {va vb : Value} (hS : ∀ b, S b → b < w.heap.size) (ha : LV w S a va) (hb : LV w S b vb) :
    ∃ A ca A' ca' B cb B' cb', va = .agg #[.int .i64 a.kind, .int .i64 a.num, .string a.text, .slice A a.items.length ca, .slice A' a.names.length ca'] ∧ vb = .agg #[.int .i64 b.kind, .int .i64 b.num, .string b.text, .slice B b.items.length cb, .slice B' b.names.length cb'] ∧
      (a.items.length ≤ 140737488351232 ∧ a.names.length ≤ 140737488351232 ∧ b.items.length ≤ 140737488351232 ∧ b.names.length ≤ 140737488351232) ∧ LVA w S A a.items ∧ StrsAt w S A' a.names ∧ LVA w S B b.items ∧ StrsAt w S B' b.names ∧
      Vr ((w.alloc (.cells #[.int .i64 a.kind, .int .i64 a.num, .string a.text, .slice A a.items.length ca, .slice A' a.names.length ca'] 49)).alloc (.cells #[.int .i64 b.kind, .int .i64 b.num, .string b.text, .slice B b.items.length cb, .slice B' b.names.length cb'] 49)) S w.heap.size a A ca A' ca' ∧
      Vr ((w.alloc (.cells #[.int .i64 a.kind, .int .i64 a.num, .string a.text, .slice A a.items.length ca, .slice A' a.names.length ca'] 49)).alloc (.cells #[.int .i64 b.kind, .int .i64 b.num, .string b.text, .slice B b.items.length cb, .slice B' b.names.length cb'] 49)) S (w.heap.size + 1) b B cb B' cb' ∧
      Below w.heap.size w ((w.alloc (.cells #[.int .i64 a.kind, .int .i64 a.num, .string a.text, .slice A a.items.length ca, .slice A' a.names.length ca'] 49)).alloc (.cells #[.int .i64 b.kind, .int .i64 b.num, .string b.text, .slice B b.items.length cb, .slice B' b.names.length cb'] 49)) := by
  obtain ⟨A, ca, A', ca', rfl, -, -, -, a4, a5, a6, a7⟩ := ha.shape
  obtain ⟨B, cb, B', cb', rfl, -, -, -, b4, b5, b6, b7⟩ := hb.shape
  refine ⟨A, ca, A', ca', B, cb, B', cb', rfl, rfl, ⟨a4, a5, b4, b5⟩, a7, a6, b7, b6, (Vr.new hS ha).alloc _, ?_, (below_box _).alloc (by simp) _⟩
  have h := Vr.new (sub_alloc hS (.cells #[.int .i64 a.kind, .int .i64 a.num, .string a.text, .slice A a.items.length ca, .slice A' a.names.length ca'] 49)) (hb.alloc hS (.cells #[.int .i64 a.kind, .int .i64 a.num, .string a.text, .slice A a.items.length ca, .slice A' a.names.length ca'] 49))
  have e : (w.alloc (.cells #[.int .i64 a.kind, .int .i64 a.num, .string a.text, .slice A a.items.length ca, .slice A' a.names.length ca'] 49)).heap.size = w.heap.size + 1 := by simp
  rw [e] at h
  exact h

set_option maxHeartbeats 400000 in
theorem rorder_any (a b : Int) (w : World) : Calls Try.prog 90 #[.int .i64 a, .int .i64 b] w fun e w' => e = .returned (.int .i64 (cmpI a b)) ∧ w = w' := by
  have e1 : a < b → cmpI a b = -1 := fun h => by unfold cmpI; rw [if_pos h]
  have e2 : ¬ a < b → b < a → cmpI a b = 1 := fun h h2 => by unfold cmpI; rw [if_neg h, if_pos h2]
  have e3 : ¬ a < b → ¬ b < a → cmpI a b = 0 := fun h h2 => by unfold cmpI; rw [if_neg h, if_neg h2]
  generalize cmpI a b = R at *
  have E1 := Lib.hid e1
  have E2 := Lib.hid e2
  have E3 := Lib.hid e3
  clear e1 e2 e3
  by_cases h1 : a < b
  · go_enter Try.func90, Try.ntmps90
    go_wp2_with fail
    go_ret
    exact ⟨ret_i64 (E1.out h1).symm, rfl⟩
  · by_cases h2 : b < a
    · go_enter Try.func90, Try.ntmps90
      go_wp2_with fail
      go_ret
      exact ⟨ret_i64 (E2.out h1 h2).symm, rfl⟩
    · go_enter Try.func90, Try.ntmps90
      go_wp2_with fail
      go_ret
      exact ⟨ret_i64 (E3.out h1 h2).symm, rfl⟩
set_option maxHeartbeats 400000 in
theorem rtexts_any (a b : ByteArray) (w : World) : Calls Try.prog 91 #[.string a, .string b] w fun e w' => e = .returned (.int .i64 (cmpB a.toList b.toList)) ∧ w = w' := by
  have e1 : Op.bytesLess a.toList b.toList = true → cmpB a.toList b.toList = -1 := fun h => by unfold cmpB; rw [if_pos h]
  have e2 : Op.bytesLess a.toList b.toList = false → (!a.toList == b.toList) = true → cmpB a.toList b.toList = 1 := fun h h2 => by unfold cmpB; rw [if_neg (by rw [h]; exact Bool.false_ne_true), if_neg (by simpa using h2)]
  have e3 : Op.bytesLess a.toList b.toList = false → (!a.toList == b.toList) = false → cmpB a.toList b.toList = 0 := fun h h2 => by unfold cmpB; rw [if_neg (by rw [h]; exact Bool.false_ne_true), if_pos (by simpa using h2)]
  generalize cmpB a.toList b.toList = R at *
  have E1 := Lib.hid e1
  have E2 := Lib.hid e2
  have E3 := Lib.hid e3
  clear e1 e2 e3
  go_enter Try.func91, Try.ntmps91
  go_wp2_with fail
  · go_ret
    exact ⟨ret_i64 (E1.out (by assumption)).symm, rfl⟩
  · go_ret
    exact ⟨ret_i64 (E2.out (by assumption) (by assumption)).symm, rfl⟩
  · go_ret
    exact ⟨ret_i64 (E3.out (by assumption) (by assumption)).symm, rfl⟩

theorem ore0 (x : Int) : ore 0 x = x := by simp [ore]
theorem cmpTL_stop (d : Bool) {l l' : List VT} {j : Nat} (ns ns' : List ByteArray) (h1 : j ≤ l.length) (h2 : j ≤ l'.length) (h : ¬ (j < l.length ∧ j < l'.length)) :
    cmpTL d (l.drop j) ns (l'.drop j) ns' = cmpI l.length l'.length := by
  rcases Nat.lt_trichotomy l.length l'.length with hl | hl | hl
  · rw [List.drop_eq_nil_of_le (by omega : l.length ≤ j), List.drop_eq_getElem_cons (by omega : j < l'.length)]
    unfold cmpTL cmpI
    rw [if_pos (by omega)]
  · rw [List.drop_eq_nil_of_le (by omega : l.length ≤ j), List.drop_eq_nil_of_le (by omega : l'.length ≤ j)]
    unfold cmpTL cmpI
    rw [if_neg (by omega), if_neg (by omega)]
  · rw [List.drop_eq_nil_of_le (by omega : l'.length ≤ j), List.drop_eq_getElem_cons (by omega : j < l.length)]
    unfold cmpTL cmpI
    rw [if_neg (by omega), if_pos (by omega)]

set_option maxHeartbeats 4000000 in
set_option maxRecDepth 100000 in
theorem rcompare_any (S : Nat → Prop) : ∀ (n : Nat) (a b : VT) (va vb : Value) (w : World), depthT a ≤ n → mayT a = true → mayT b = true → (∀ b, S b → b < w.heap.size) → LV w S a va → LV w S b vb →
    Calls Try.prog 79 #[va, vb] w fun e w' => e = .returned (.int .i64 (cmpT a b)) ∧ Below w.heap.size w w' := by
  intro n
  induction n with
  | zero => intro a b va vb w hd; cases a; rw [depthT_mk] at hd; omega
  | succ n ih =>
    intro a b va vb w hd hma hmb hS ha hb
    obtain ⟨A, ca, A', ca', B, cb, B', cb', rfl, rfl, lens, a7, a6, b7, b6, v1, v2, hb0⟩ := two_vars hS ha hb
    have LENS := Lib.hid lens
    have A7 := Lib.hid a7
    have A6 := Lib.hid a6
    have B7 := Lib.hid b7
    have B6 := Lib.hid b6
    have P10 := Lib.hid v1
    have P20 := Lib.hid v2
    have HB0 := Lib.hid hb0
    have HR := Lib.hid (cmpT_parts a b)
    have k0 := v1.x.c0
    have k1 := v1.x.c1
    have k2 := v1.x.c2
    have l0 := v2.x.c0
    have l1 := v2.x.c1
    have l2 := v2.x.c2
    have NA : Hid (a.kind = 7 → a.names.length = a.items.length) := Lib.hid (fun h => by cases a; exact (may_names hma).1 h)
    have NB : Hid (b.kind = 7 → b.names.length = b.items.length) := Lib.hid (fun h => by cases b; exact (may_names hmb).1 h)
    have HD := Lib.hid hd
    have HMA := Lib.hid (may_items hma)
    have HMB := Lib.hid (may_items hmb)
    generalize cmpT a b = R at *
    clear ha hb lens a7 a6 b7 b6 v1 v2 hb0 hma hmb hd
    by_cases hk : a.kind = b.kind
    · have ek1 : (a.kind == b.kind) = true := by simpa using hk
      have ek2 : (a.kind != b.kind) = false := by simpa using hk
      have HK := Lib.hid hk
      have HR1 : Hid (R = ore (ore (cmpI a.num b.num) (cmpB a.text.toList b.text.toList)) (cmpTL (decide (a.kind = 7)) a.items a.names b.items b.names)) := Lib.hid (by rw [HR.out, (cmpI_zero _ _).2 hk, ore0])
      clear hk HR
      by_cases hi : a.num = b.num
      · have ei1 : (a.num == b.num) = true := by simpa using hi
        have ei2 : (a.num != b.num) = false := by simpa using hi
        have HR2 : Hid (R = ore (cmpB a.text.toList b.text.toList) (cmpTL (decide (a.kind = 7)) a.items a.names b.items b.names)) := Lib.hid (by rw [HR1.out, (cmpI_zero _ _).2 hi, ore0])
        clear hi HR1
        by_cases ht : a.text.toList = b.text.toList
        · have et1 : (a.text.toList == b.text.toList) = true := by simpa using ht
          have HR3 : Hid (cmpTL (decide (a.kind = 7)) (a.items.drop 0) (a.names.drop 0) (b.items.drop 0) (b.names.drop 0) = R) := Lib.hid (by rw [HR2.out, (cmpB_zero _ _).2 ht, ore0]; simp)
          clear ht HR2
          go_enter Try.func79, Try.ntmps79
          go_wp2_with fail
          clear k0 k1 k2 l0 l1 l2 ek1 ek2 ei1 ei2 et1
          go_loopw [5, 6] (fun i cc wr => ∃ j : Nat, i = .int .i64 j ∧ j ≤ a.items.length ∧ j ≤ b.items.length ∧ Hid (cmpTL (decide (a.kind = 7)) (a.items.drop j) (a.names.drop j) (b.items.drop j) (b.names.drop j) = R) ∧ Hid (Below w.heap.size w wr) ∧
            Hid (Vr wr S w.heap.size a A ca A' ca') ∧ Hid (Vr wr S (w.heap.size + 1) b B cb B' cb')) (fun i _ _ => a.items.length - (intOf i).toNat)
          case atStart => exact ⟨0, rfl, Nat.zero_le _, Nat.zero_le _, HR3, HB0, P10, P20⟩
          case round =>
            obtain ⟨j, rfl, hj1, hj2, HI, HB, P1, P2⟩ := hrel
            clear HR3
            have k3 := P1.out.x.c3
            have l3 := P2.out.x.c3
            have k0 := P1.out.x.c0
            have hl1 := LENS.out.1
            have hl2 := LENS.out.2.2.1
            by_cases hla : j < a.items.length
            · by_cases hlb : j < b.items.length
              · have HS1 := Lib.hid (cmpTL_step (decide (a.kind = 7)) a.names b.names hla hlb)
                have HS : Hid (R = _) := Lib.hid (HI.out.symm.trans HS1.out)
                clear HI HS1
                by_cases h7 : a.kind = 7
                · obtain ⟨na, hna⟩ : ∃ na, na = a.names.length := ⟨_, rfl⟩
                  have e7 : a.names.length = a.items.length := NA.out h7
                  have f7 : b.names.length = b.items.length := NB.out (HK.out.symm.trans h7)
                  have ia : j < a.names.length := by omega
                  have ib : j < b.names.length := by omega
                  clear e7 f7 hna na
                  have hl3 := LENS.out.2.1
                  have hl4 := LENS.out.2.2.2
                  have HS : Hid (R = ore (cmpB a.names[j].toList b.names[j].toList) (ore (cmpT a.items[j] b.items[j]) (cmpTL (decide (a.kind = 7)) (a.items.drop (j + 1)) (a.names.drop (j + 1)) (b.items.drop (j + 1)) (b.names.drop (j + 1))))) := Lib.hid (by
                    rw [HS.out, if_pos (by simpa using h7), List.drop_eq_getElem_cons ia, List.drop_eq_getElem_cons ib]
                    simp only [List.headD_cons])
                  have b7 : (a.kind == 7) = true := by simp [h7]
                  clear h7
                  obtain ⟨qa, oa, rfl, hqa, t1, hsa⟩ := text_at hS A6.out HB.out j ia
                  obtain ⟨qb, ob, rfl, hqb, t2, hsb⟩ := text_at hS B6.out HB.out j ib
                  have hqa2 : qa < wr.heap.size := Nat.lt_of_lt_of_le hqa HB.out.size
                  have hqb2 : qb < wr.heap.size := Nat.lt_of_lt_of_le hqb HB.out.size
                  have HQA := Lib.hid hqa
                  have HQB := Lib.hid hqb
                  clear hqa hqb hsa hsb
                  generalize a.names[j] = sa at *
                  generalize b.names[j] = sb at *
                  by_cases hs : sa.toList = sb.toList
                  · have es : (sa.toList == sb.toList) = true := by simpa using hs
                    have HS : Hid (R = ore (cmpT a.items[j] b.items[j]) (cmpTL (decide (a.kind = 7)) (a.items.drop (j + 1)) (a.names.drop (j + 1)) (b.items.drop (j + 1)) (b.names.drop (j + 1)))) := Lib.hid (by rw [HS.out, (cmpB_zero _ _).2 hs, ore0])
                    clear hs
                    go_wp2_with fail
                    try simp only [List.append_eq, List.cons_append, List.nil_append]
                    refine wp_region_lex (by kernel_rfl) (by kernel_rfl) (fun _ d _ _ _ h => by cases d <;> exact h) ?_
                    have q0 := cell_later (B := wr.heap.size) (w := wr.drew) P1.out.x.c0 P1.out.x.lt
                    have q4 := cell_later (B := wr.heap.size) (w := wr.drew) P1.out.x.c4 P1.out.x.lt
                    have q4' := cell_later (B := wr.heap.size) (w := wr.drew) P2.out.x.c4 P2.out.x.lt
                    have u1 := cell_later (B := wr.heap.size) (w := wr.drew) t1 hqa2
                    have u2 := cell_later (B := wr.heap.size) (w := wr.drew) t2 hqb2
                    first | refine mix_pure ?_ | refine mix_pureB ?_
                    simp only [List.takeWhile, List.dropWhile, isPure]
                    repeat (go_big_quiet_step (fail))
                    refine wpQuiet_nil ?_
                    unfold wpMix
                    clear q0 q4 q4' u1 u2 k0 k3 l3
                    have t1 : wr.drew.cell? ⟨qa, oa + j, none⟩ = some (.string sa) := t1
                    have t2 : wr.drew.cell? ⟨qb, ob + j, none⟩ = some (.string sb) := t2
                    have hqa2 : qa < wr.drew.heap.size := hqa2
                    have hqb2 : qb < wr.drew.heap.size := hqb2
                    have P1 := Lib.hid P1.out.drew
                    have P2 := Lib.hid P2.out.drew
                    have HB := Lib.hid HB.out.drew
                    generalize wr.drew = wq at *
                    clear t1 t2 hqa2 hqb2 hl3 hl4 ia ib HQA HQB
                    go_wp2_with fail
                    clear es b7
                    have HDJ : Hid (depthT a.items[j] ≤ n) := Lib.hid (by
                      have hdp := depthL_le (List.getElem_mem hla)
                      have hdt : depthT a = depthL a.items + 1 := by cases a; exact depthT_mk _ _ _ _ _
                      have := HD.out
                      omega)
                    have HMJ := Lib.hid (mayL_mem HMA.out (List.getElem_mem hla))
                    have HMJ' := Lib.hid (mayL_mem HMB.out (List.getElem_mem hlb))
                    obtain ⟨p, o, A2, e2, A3, e3, rfl, hp, h0, h1, h2, h3, h4, hx⟩ := item_at hS A7.out HB.out j hla
                    obtain ⟨p', o', B2, f2, B3, f3, rfl, hp', g0, g1, g2, g3, g4, hy⟩ := item_at hS B7.out HB.out j hlb
                    have hp2 : p < wq.heap.size := Nat.lt_of_lt_of_le hp HB.out.size
                    have hp2' : p' < wq.heap.size := Nat.lt_of_lt_of_le hp' HB.out.size
                    have HC := Lib.hid (ih a.items[j] b.items[j] _ _ wq.drew HDJ.out HMJ.out HMJ'.out P1.out.drew.s hx.drew hy.drew)
                    clear hx hy hp hp' HDJ HMJ HMJ'
                    try simp only [List.append_eq, List.cons_append, List.nil_append]
                    refine wp_region_lex (by kernel_rfl) (by kernel_rfl) (fun _ d _ _ _ h => by cases d <;> exact h) ?_
                    have q3 := cell_later (B := wq.heap.size) (w := wq.drew) P1.out.x.c3 P1.out.x.lt
                    have q3' := cell_later (B := wq.heap.size) (w := wq.drew) P2.out.x.c3 P2.out.x.lt
                    have p0 := cell_later (B := wq.heap.size) (w := wq.drew) h0 hp2
                    have p1 := cell_later (B := wq.heap.size) (w := wq.drew) h1 hp2
                    have p2 := cell_later (B := wq.heap.size) (w := wq.drew) h2 hp2
                    have p3 := cell_later (B := wq.heap.size) (w := wq.drew) h3 hp2
                    have p4 := cell_later (B := wq.heap.size) (w := wq.drew) h4 hp2
                    have s0 := cell_later (B := wq.heap.size) (w := wq.drew) g0 hp2'
                    have s1 := cell_later (B := wq.heap.size) (w := wq.drew) g1 hp2'
                    have s2 := cell_later (B := wq.heap.size) (w := wq.drew) g2 hp2'
                    have s3 := cell_later (B := wq.heap.size) (w := wq.drew) g3 hp2'
                    have s4 := cell_later (B := wq.heap.size) (w := wq.drew) g4 hp2'
                    first | refine mix_pure ?_ | refine mix_pureB ?_
                    simp only [List.takeWhile, List.dropWhile, isPure]
                    repeat (go_big_quiet_step (fail))
                    refine wpQuiet_nil ?_
                    first | refine mix_call rfl (fun K hK => ?_) | refine mix_callB rfl (fun K hK => ?_)
                    go_simp
                    refine (HC.out).mono ?_
                    rintro e w4 ⟨rfl, hb⟩
                    refine hK _ _ hb ?_
                    clear hK K
                    try simp only [Act.put]
                    first | refine mix_pure ?_ | refine mix_pureB ?_
                    simp only [List.takeWhile, List.dropWhile, isPure]
                    repeat (go_big_quiet_step (fail))
                    refine wpQuiet_nil ?_
                    unfold wpMix
                    have HB := Lib.hid (toStart HB.out (below_undrew hb))
                    have P1 := Lib.hid (P1.out.call (below_undrew hb))
                    have P2 := Lib.hid (P2.out.call (below_undrew hb))
                    clear q3 q3' p0 p1 p2 p3 p4 s0 s1 s2 s3 s4 hb HC h0 h1 h2 h3 h4 g0 g1 g2 g3 g4 hp2 hp2'
                    generalize cmpT a.items[j] b.items[j] = C at *
                    by_cases hC : C = 0
                    · subst hC
                      have HN : Hid (cmpTL (decide (a.kind = 7)) (a.items.drop (j + 1)) (a.names.drop (j + 1)) (b.items.drop (j + 1)) (b.names.drop (j + 1)) = R) := Lib.hid (by rw [HS.out, ore0])
                      go_wp2_with fail
                      go_roundw
                      case rel => exact ⟨j + 1, by go_num, by omega, by omega, HN, HB, P1, P2⟩
                      case measure => simp [intOf]; omega
                    · have HN : Hid (R = C) := Lib.hid (by rw [HS.out]; simp [ore, hC])
                      go_wp2_with fail
                      go_ret
                      exact ⟨ret_i64 HN.out.symm, HB.out⟩
                  · have es : (sa.toList == sb.toList) = false := by simpa using hs
                    have HF : Hid (R = cmpB sa.toList sb.toList) := Lib.hid (by
                      have hne := mt (cmpB_zero sa.toList sb.toList).1 hs
                      rw [HS.out]; unfold ore; rw [if_neg hne])
                    clear hs HS
                    go_wp2_with fail
                    try simp only [List.append_eq, List.cons_append, List.nil_append]
                    refine wp_region_lex (by kernel_rfl) (by kernel_rfl) (fun _ d _ _ _ h => by cases d <;> exact h) ?_
                    have q0 := cell_later (B := wr.heap.size) (w := wr.drew) P1.out.x.c0 P1.out.x.lt
                    have q4 := cell_later (B := wr.heap.size) (w := wr.drew) P1.out.x.c4 P1.out.x.lt
                    have q4' := cell_later (B := wr.heap.size) (w := wr.drew) P2.out.x.c4 P2.out.x.lt
                    have u1 := cell_later (B := wr.heap.size) (w := wr.drew) t1 hqa2
                    have u2 := cell_later (B := wr.heap.size) (w := wr.drew) t2 hqb2
                    first | refine mix_pure ?_ | refine mix_pureB ?_
                    simp only [List.takeWhile, List.dropWhile, isPure]
                    repeat (go_big_quiet_step (fail))
                    refine wpQuiet_nil ?_
                    unfold wpMix
                    clear q0 q4 q4' u1 u2 k0 k3 l3
                    have t1 : wr.drew.cell? ⟨qa, oa + j, none⟩ = some (.string sa) := t1
                    have t2 : wr.drew.cell? ⟨qb, ob + j, none⟩ = some (.string sb) := t2
                    have hqa2 : qa < wr.drew.heap.size := hqa2
                    have hqb2 : qb < wr.drew.heap.size := hqb2
                    have P1 := Lib.hid P1.out.drew
                    have P2 := Lib.hid P2.out.drew
                    have HB := Lib.hid HB.out.drew
                    generalize wr.drew = wq at *
                    go_wp2_with fail
                    try simp only [List.append_eq, List.cons_append, List.nil_append]
                    refine wp_region_lex (by kernel_rfl) (by kernel_rfl) (fun _ d _ _ _ h => by cases d <;> exact h) ?_
                    have q4 := cell_later (B := wq.heap.size) (w := wq.drew) P1.out.x.c4 P1.out.x.lt
                    have q4' := cell_later (B := wq.heap.size) (w := wq.drew) P2.out.x.c4 P2.out.x.lt
                    have u1 := cell_later (B := wq.heap.size) (w := wq.drew) t1 hqa2
                    have u2 := cell_later (B := wq.heap.size) (w := wq.drew) t2 hqb2
                    first | refine mix_pure ?_ | refine mix_pureB ?_
                    simp only [List.takeWhile, List.dropWhile, isPure]
                    repeat (go_big_quiet_step (fail))
                    refine wpQuiet_nil ?_
                    first | refine mix_call rfl (fun K hK => ?_) | refine mix_callB rfl (fun K hK => ?_)
                    go_simp
                    refine (rtexts_any _ _ _).mono ?_
                    rintro e u ⟨rfl, rfl⟩
                    refine hK _ _ (Below.refl _ _) ?_
                    clear hK K
                    try simp only [Act.put]
                    first | refine mix_pure ?_ | refine mix_pureB ?_
                    simp only [List.takeWhile, List.dropWhile, isPure]
                    repeat (go_big_quiet_step (fail))
                    refine wpQuiet_nil ?_
                    unfold wpMix
                    clear q4 q4' u1 u2 t1 t2
                    go_wp2_with fail
                    go_ret
                    exact ⟨ret_i64 HF.out.symm, HB.out.drew⟩
                · have HS : Hid (R = ore (cmpT a.items[j] b.items[j]) (cmpTL (decide (a.kind = 7)) (a.items.drop (j + 1)) (a.names.drop (j + 1)) (b.items.drop (j + 1)) (b.names.drop (j + 1)))) := Lib.hid (by rw [HS.out, if_neg (by simpa using h7), ore0])
                  have b7 : (a.kind == 7) = false := by simp [h7]
                  clear h7
                  go_wp2_with fail
                  try simp only [List.append_eq, List.cons_append, List.nil_append]
                  refine wp_region_lex (by kernel_rfl) (by kernel_rfl) (fun _ d _ _ _ h => by cases d <;> exact h) ?_
                  have q0 := cell_later (B := wr.heap.size) (w := wr.drew) P1.out.x.c0 P1.out.x.lt
                  first | refine mix_pure ?_ | refine mix_pureB ?_
                  simp only [List.takeWhile, List.dropWhile, isPure]
                  repeat (go_big_quiet_step (fail))
                  refine wpQuiet_nil ?_
                  unfold wpMix
                  clear q0 k0 k3 l3
                  have P1 := Lib.hid P1.out.drew
                  have P2 := Lib.hid P2.out.drew
                  have HB := Lib.hid HB.out.drew
                  generalize wr.drew = wq at *
                  go_wp2_with fail
                  clear b7
                  have HDJ : Hid (depthT a.items[j] ≤ n) := Lib.hid (by
                    have hdp := depthL_le (List.getElem_mem hla)
                    have hdt : depthT a = depthL a.items + 1 := by cases a; exact depthT_mk _ _ _ _ _
                    have := HD.out
                    omega)
                  have HMJ := Lib.hid (mayL_mem HMA.out (List.getElem_mem hla))
                  have HMJ' := Lib.hid (mayL_mem HMB.out (List.getElem_mem hlb))
                  obtain ⟨p, o, A2, e2, A3, e3, rfl, hp, h0, h1, h2, h3, h4, hx⟩ := item_at hS A7.out HB.out j hla
                  obtain ⟨p', o', B2, f2, B3, f3, rfl, hp', g0, g1, g2, g3, g4, hy⟩ := item_at hS B7.out HB.out j hlb
                  have hp2 : p < wq.heap.size := Nat.lt_of_lt_of_le hp HB.out.size
                  have hp2' : p' < wq.heap.size := Nat.lt_of_lt_of_le hp' HB.out.size
                  have HC := Lib.hid (ih a.items[j] b.items[j] _ _ wq.drew HDJ.out HMJ.out HMJ'.out P1.out.drew.s hx.drew hy.drew)
                  clear hx hy hp hp' HDJ HMJ HMJ'
                  try simp only [List.append_eq, List.cons_append, List.nil_append]
                  refine wp_region_lex (by kernel_rfl) (by kernel_rfl) (fun _ d _ _ _ h => by cases d <;> exact h) ?_
                  have q3 := cell_later (B := wq.heap.size) (w := wq.drew) P1.out.x.c3 P1.out.x.lt
                  have q3' := cell_later (B := wq.heap.size) (w := wq.drew) P2.out.x.c3 P2.out.x.lt
                  have p0 := cell_later (B := wq.heap.size) (w := wq.drew) h0 hp2
                  have p1 := cell_later (B := wq.heap.size) (w := wq.drew) h1 hp2
                  have p2 := cell_later (B := wq.heap.size) (w := wq.drew) h2 hp2
                  have p3 := cell_later (B := wq.heap.size) (w := wq.drew) h3 hp2
                  have p4 := cell_later (B := wq.heap.size) (w := wq.drew) h4 hp2
                  have s0 := cell_later (B := wq.heap.size) (w := wq.drew) g0 hp2'
                  have s1 := cell_later (B := wq.heap.size) (w := wq.drew) g1 hp2'
                  have s2 := cell_later (B := wq.heap.size) (w := wq.drew) g2 hp2'
                  have s3 := cell_later (B := wq.heap.size) (w := wq.drew) g3 hp2'
                  have s4 := cell_later (B := wq.heap.size) (w := wq.drew) g4 hp2'
                  first | refine mix_pure ?_ | refine mix_pureB ?_
                  simp only [List.takeWhile, List.dropWhile, isPure]
                  repeat (go_big_quiet_step (fail))
                  refine wpQuiet_nil ?_
                  first | refine mix_call rfl (fun K hK => ?_) | refine mix_callB rfl (fun K hK => ?_)
                  go_simp
                  refine (HC.out).mono ?_
                  rintro e w4 ⟨rfl, hb⟩
                  refine hK _ _ hb ?_
                  clear hK K
                  try simp only [Act.put]
                  first | refine mix_pure ?_ | refine mix_pureB ?_
                  simp only [List.takeWhile, List.dropWhile, isPure]
                  repeat (go_big_quiet_step (fail))
                  refine wpQuiet_nil ?_
                  unfold wpMix
                  have HB := Lib.hid (toStart HB.out (below_undrew hb))
                  have P1 := Lib.hid (P1.out.call (below_undrew hb))
                  have P2 := Lib.hid (P2.out.call (below_undrew hb))
                  clear q3 q3' p0 p1 p2 p3 p4 s0 s1 s2 s3 s4 hb HC h0 h1 h2 h3 h4 g0 g1 g2 g3 g4 hp2 hp2'
                  generalize cmpT a.items[j] b.items[j] = C at *
                  by_cases hC : C = 0
                  · subst hC
                    have HN : Hid (cmpTL (decide (a.kind = 7)) (a.items.drop (j + 1)) (a.names.drop (j + 1)) (b.items.drop (j + 1)) (b.names.drop (j + 1)) = R) := Lib.hid (by rw [HS.out, ore0])
                    go_wp2_with fail
                    go_roundw
                    case rel => exact ⟨j + 1, by go_num, by omega, by omega, HN, HB, P1, P2⟩
                    case measure => simp [intOf]; omega
                  · have HN : Hid (R = C) := Lib.hid (by rw [HS.out]; simp [ore, hC])
                    go_wp2_with fail
                    go_ret
                    exact ⟨ret_i64 HN.out.symm, HB.out⟩
              · have HF : Hid (R = cmpI a.items.length b.items.length) := Lib.hid (HI.out.symm.trans (cmpTL_stop _ _ _ hj1 hj2 (fun h => hlb h.2)))
                go_wp2_with fail
                refine (rorder_any _ _ _).mono ?_
                rintro e u ⟨rfl, rfl⟩
                go_wp2_with fail
                go_ret
                exact ⟨ret_i64 HF.out.symm, HB.out⟩
            · have HF : Hid (R = cmpI a.items.length b.items.length) := Lib.hid (HI.out.symm.trans (cmpTL_stop _ _ _ hj1 hj2 (fun h => hla h.1)))
              go_wp2_with fail
              refine (rorder_any _ _ _).mono ?_
              rintro e u ⟨rfl, rfl⟩
              go_wp2_with fail
              go_ret
              exact ⟨ret_i64 HF.out.symm, HB.out⟩
        · have et1 : (a.text.toList == b.text.toList) = false := by simpa using ht
          have HF : Hid (R = cmpB a.text.toList b.text.toList) := Lib.hid (by
            have hne := mt (cmpB_zero a.text.toList b.text.toList).1 ht
            rw [HR2.out]; unfold ore; rw [if_neg hne])
          clear ht HR2
          go_enter Try.func79, Try.ntmps79
          go_wp2_with fail
          refine (rtexts_any _ _ _).mono ?_
          rintro e u ⟨rfl, rfl⟩
          go_wp2_with fail
          go_ret
          exact ⟨ret_i64 HF.out.symm, HB0.out⟩
      · have ei1 : (a.num == b.num) = false := by simpa using hi
        have ei2 : (a.num != b.num) = true := by simpa using hi
        have HF : Hid (R = cmpI a.num b.num) := Lib.hid (by
          have hne := mt (cmpI_zero a.num b.num).1 hi
          have hne2 : ore (cmpI a.num b.num) (cmpB a.text.toList b.text.toList) ≠ 0 := fun h => hne ((ore_zero _ _).1 h).1
          rw [HR1.out]; unfold ore at hne2 ⊢; rw [if_neg hne] at hne2 ⊢; rw [if_neg hne2])
        clear hi HR1
        go_enter Try.func79, Try.ntmps79
        go_wp2_with fail
        refine (rorder_any _ _ _).mono ?_
        rintro e u ⟨rfl, rfl⟩
        go_wp2_with fail
        go_ret
        exact ⟨ret_i64 HF.out.symm, HB0.out⟩
    · have ek1 : (a.kind == b.kind) = false := by simpa using hk
      have ek2 : (a.kind != b.kind) = true := by simpa using hk
      have HF : Hid (R = cmpI a.kind b.kind) := Lib.hid (by
        have hne := mt (cmpI_zero a.kind b.kind).1 hk
        have hne2 : ore (cmpI a.kind b.kind) (ore (cmpI a.num b.num) (cmpB a.text.toList b.text.toList)) ≠ 0 := fun h => hne ((ore_zero _ _).1 h).1
        rw [HR.out]; unfold ore at hne2 ⊢; rw [if_neg hne] at hne2 ⊢; rw [if_neg hne2])
      clear hk HR
      go_enter Try.func79, Try.ntmps79
      go_wp2_with fail
      refine (rorder_any _ _ _).mono ?_
      rintro e u ⟨rfl, rfl⟩
      go_wp2_with fail
      go_ret
      exact ⟨ret_i64 HF.out.symm, HB0.out⟩
end Go.Proofs.Yteakkbgfkcknlaa
