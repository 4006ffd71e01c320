/- How deep a value is, as the document's answer has it. -/
import Derived.Test.YtipiplnhbecjeaaKVr
import Derived.Test.YtipiplnhbecjeaaKVal
import Derived.Test.YtipiplnhbecjeaaKMath
namespace Go.Proofs.Ytipiplnhbecjeaa
set_option linter.unusedVariables false
set_option linter.unusedSimpArgs false
open Go.RowKit

theorem one_var {w : World} {S : Nat → Prop} {a : VT} {va : Value} (hS : ∀ b, S b → b < w.heap.size) (ha : LV w S a va) :
    ∃ A ca A' ca', va = .agg #[.int .i64 a.kind, .int .i64 a.num, .string a.text, .slice A a.items.length ca, .slice A' a.names.length ca'] ∧ (a.items.length ≤ 140737488351232 ∧ a.names.length ≤ 140737488351232) ∧ LVA w S A a.items ∧ StrsAt w S A' a.names ∧
      Vr (w.alloc (.cells #[.int .i64 a.kind, .int .i64 a.num, .string a.text, .slice A a.items.length ca, .slice A' a.names.length ca'] 25)) S w.heap.size a A ca A' ca' ∧
      Below w.heap.size w (w.alloc (.cells #[.int .i64 a.kind, .int .i64 a.num, .string a.text, .slice A a.items.length ca, .slice A' a.names.length ca'] 25)) := by
  obtain ⟨A, ca, A', ca', rfl, -, -, -, a4, a5, a6, a7⟩ := ha.shape
  exact ⟨A, ca, A', ca', rfl, ⟨a4, a5⟩, a7, a6, Vr.new hS ha, below_box _⟩
theorem depthL_drop {l : List VT} {j : Nat} (h : j < l.length) : depthL (l.drop j) = max (depthT l[j]) (depthL (l.drop (j + 1))) := by
  rw [List.drop_eq_getElem_cons h]; conv => lhs; unfold depthL
theorem depthL_nil : depthL [] = 0 := by unfold depthL; rfl

set_option maxHeartbeats 1000000 in
set_option maxRecDepth 100000 in
theorem rdepth_any (S : Nat → Prop) : ∀ (n : Nat) (t : VT) (v : Value) (w : World), depthT t ≤ n → n ≤ 4611686018427387903 → (∀ b, S b → b < w.heap.size) → LV w S t v →
    Calls Try.prog 24 #[v] w fun e w' => e = .returned (.int .i64 (depthT t)) ∧ Below w.heap.size w w' := by
  intro n
  induction n with
  | zero => intro t v w hd; cases t; rw [depthT_mk] at hd; omega
  | succ n ih =>
    intro t v w hd hn hS h
    obtain ⟨A, c, A', c', rfl, lens, a7, -, v1, hb0⟩ := one_var hS h
    have LENS := Lib.hid lens
    have A7 := Lib.hid a7
    have P0 := Lib.hid v1
    have HB0 := Lib.hid hb0
    have hdt : depthT t = depthL t.items + 1 := by cases t; exact depthT_mk _ _ _ _ _
    have HDT := Lib.hid hdt
    have HD : Hid (depthL t.items ≤ n) := Lib.hid (by omega)
    have HN := Lib.hid hn
    obtain ⟨R, hR⟩ : ∃ R, R = depthL t.items := ⟨_, rfl⟩
    have HR : Hid (max 0 (depthL (t.items.drop 0)) = R) := Lib.hid (by rw [hR]; simp)
    have HRD : Hid (depthT t = R + 1) := Lib.hid (by rw [hR]; exact hdt)
    have HRN : Hid (R ≤ n) := Lib.hid (by rw [hR]; exact HD.out)
    generalize depthT t = D at *
    clear h lens a7 v1 hb0 hdt hd hn hR HDT
    go_enter Try.func24, Try.ntmps24
    go_wp2_with fail
    go_loopw [3, 4, 5] (fun d i e wr => ∃ j m : Nat, d = .int .i64 m ∧ i = .int .i64 j ∧ j ≤ t.items.length ∧ Hid (max m (depthL (t.items.drop j)) = R) ∧ Hid (Below w.heap.size w wr) ∧ Hid (Vr wr S w.heap.size t A c A' c')) (fun _ i _ _ => t.items.length - (intOf i).toNat)
    case atStart => exact ⟨0, 0, rfl, rfl, Nat.zero_le _, HR, HB0, P0⟩
    case round =>
      obtain ⟨j, m, rfl, rfl, hj, HI, HB, P⟩ := hrel
      have k3 := P.out.x.c3
      have hl := LENS.out.1
      by_cases hlt : j < t.items.length
      · obtain ⟨p, o, A2, e2, A3, e3, rfl, hp, h0, h1, h2, h3, h4, hx⟩ := item_at hS A7.out HB.out j hlt
        have HC := Lib.hid (ih t.items[j] _ wr (Nat.le_trans (depthL_le (List.getElem_mem hlt)) HD.out) (by have := HN.out; omega) P.out.s hx)
        have HI2 : Hid (max (max m (depthT t.items[j])) (depthL (t.items.drop (j + 1))) = R) := Lib.hid (by rw [← HI.out, depthL_drop hlt]; omega)
        generalize depthT t.items[j] = C at *
        clear hx hp HI
        go_wp2_with fail
        refine HC.out.mono ?_
        rintro e w2 ⟨rfl, hb⟩
        have P2 := Lib.hid (P.out.call hb)
        have HB2 := Lib.hid (toStart HB.out hb)
        clear hb HC k3 h0 h1 h2 h3 h4 P HB
        by_cases hc : (C : Int) > m
        · have e : max m C = C := by omega
          rw [e] at HI2
          clear e
          go_wp2_with fail
          go_roundw
          case rel => exact ⟨j + 1, C, rfl, by go_num, by omega, HI2, HB2, P2⟩
          case measure => simp [intOf]; omega
        · have e : max m C = m := by omega
          rw [e] at HI2
          clear e
          go_wp2_with fail
          go_roundw
          case rel => exact ⟨j + 1, m, rfl, by go_num, by omega, HI2, HB2, P2⟩
          case measure => simp [intOf]; omega
      · have HF : Hid (m = R) := Lib.hid (by have h := HI.out; rw [List.drop_eq_nil_of_le (by omega), depthL_nil] at h; omega)
        have hm : m ≤ 4611686018427387903 := by have := HF.out; have := HRN.out; have := HN.out; omega
        go_wp2_with fail
        go_ret
        exact ⟨ret_i64 (by have := HF.out; have := HRD.out; go_num), HB.out⟩
end Go.Proofs.Ytipiplnhbecjeaa

/- Which texts may be names, as the document has it: told beside the lists of texts. -/
namespace Go.Proofs.Ytipiplnhbecjeaa
set_option linter.unusedVariables false
set_option linter.unusedSimpArgs false
end Go.Proofs.Ytipiplnhbecjeaa
