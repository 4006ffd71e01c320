/- How many values there are in a value, as the document's answer counts them, up to a bound. -/
import Derived.Test.YtopmeoonepkodaaKLook
namespace Go.Proofs.Ytopmeoonepkodaa
set_option linter.unusedVariables false
set_option linter.unusedSimpArgs false
open Go.RowKit

set_option maxHeartbeats 1000000 in
set_option maxRecDepth 100000 in
theorem nodes_any (S : Nat → Prop) : ∀ (k d : Nat) (t : VT) (v : Value) (w : World), d + k = 41 → (∀ b, S b → b < w.heap.size) → LV w S t v →
    Calls Try.prog 23 #[v, .int .i64 d] w fun e w' => e = .returned (.int .i64 (nodesT d t)) ∧ Below w.heap.size w w' := by
  intro k
  induction k with
  | zero =>
    intro d t v w hd hS h
    obtain ⟨A, c, A', c', rfl, -, -, -, -, -, -, -⟩ := h.shape
    have HR : Hid (nodesT d t = 1048576) := Lib.hid (nodesT_deep d t (by omega))
    obtain rfl : d = 41 := by omega
    generalize nodesT 41 t = R at *
    go_enter Try.func23, Try.ntmps23
    go_wp2_with fail
    go_ret
    exact ⟨by rw [HR.out]; rfl, below_box _⟩
  | succ k ih =>
    intro d t v w hd hS h
    obtain ⟨A, c, A', c', rfl, -, -, -, a4, a5, -, a7⟩ := h.shape
    have A7 := Lib.hid a7
    have A4 := Lib.hid a4
    have HB0 : Hid (Below w.heap.size w (w.alloc (.cells #[.int .i64 t.kind, .int .i64 t.num, .string t.text, .slice A t.items.length c, .slice A' t.names.length c'] 25))) := Lib.hid (below_box _)
    have X0 : Hid (Box (w.alloc (.cells #[.int .i64 t.kind, .int .i64 t.num, .string t.text, .slice A t.items.length c, .slice A' t.names.length c'] 25)) w.heap.size (.int .i64 t.kind) (.int .i64 t.num) (.string t.text) (.slice A t.items.length c) (.slice A' t.names.length c')) := Lib.hid (Box.new _ _ _ _ _)
    have HR0 : Hid (nodesL d (1 + t.names.length) (t.items.drop 0) = nodesT d t) := Lib.hid (nodesT_mk d t (by omega)).symm
    have HN : Hid (∀ j (h : j < t.items.length), nodesT (d + 1) t.items[j] ≤ 8796100000000) := Lib.hid (fun j hj => by
      obtain ⟨v, hv⟩ := lva_mem a7 (List.getElem_mem hj)
      have := nodes_le k (d + 1) _ v (by omega) hv
      omega)
    have HNm : Hid (t.names.length ≤ 140737488351232) := Lib.hid a5
    have HD : Hid (d + (k + 1) = 41) := Lib.hid hd
    have hd40 : d ≤ 40 := by omega
    generalize nodesT d t = R at *
    clear h a7 a4 hd
    have hn := HNm.out
    go_enter Try.func23, Try.ntmps23
    go_wp2_with fail
    clear a5 hn
    go_loopw [5, 6] (fun n i wr => ∃ (j m : Nat), n = .int .i64 m ∧ i = .int .i64 j ∧ j ≤ t.items.length ∧ m ≤ 140737488400000 ∧ Hid (nodesL d m (t.items.drop j) = R) ∧ Hid (Below w.heap.size w wr) ∧
      Hid (Box wr w.heap.size (.int .i64 t.kind) (.int .i64 t.num) (.string t.text) (.slice A t.items.length c) (.slice A' t.names.length c'))) (fun _ i _ => t.items.length - (intOf i).toNat)
    case atStart =>
      have := HNm.out
      exact ⟨0, 1 + t.names.length, by go_num, rfl, Nat.zero_le _, by omega, HR0, HB0, X0⟩
    case round =>
      obtain ⟨j, m, rfl, rfl, hj, hm, HI, HB, X⟩ := hrel
      have k3 := X.out.c3
      have hl := A4.out
      by_cases hlt : j < t.items.length
      · by_cases hm2 : m < 65536
        · obtain ⟨p, o, A2, e2, A3, e3, rfl, hp, h0, h1, h2, h3, h4, hx⟩ := item_at hS A7.out HB.out j hlt
          have hb1 := HN.out j hlt
          have HI2 : Hid (nodesL d (m + nodesT (d + 1) t.items[j]) (t.items.drop (j + 1)) = R) := Lib.hid (by rw [← HI.out, nodesL_step d m hlt, if_pos hm2])
          have HC := Lib.hid (ih (d + 1) t.items[j] _ wr (by have := HD.out; omega) (sub_below hS HB.out) hx)
          generalize nodesT (d + 1) t.items[j] = R2 at *
          have HM := Lib.hid hm
          have HM2 := Lib.hid hm2
          have HB1 := Lib.hid hb1
          have gm : (m : Int) < 65536 := by omega
          clear hx hp HI hm hm2 hb1
          go_wp2_with fail
          refine HC.out.mono ?_
          rintro e w2 ⟨rfl, hb⟩
          have X2 := Lib.hid (X.out.call hb)
          have HB2 := Lib.hid (toStart HB.out hb)
          have hb1 := HB1.out
          have hm := HM.out
          clear hb HC k3 h0 h1 h2 h3 h4 X HB
          go_wp2_with fail
          go_roundw
          case rel => exact ⟨j + 1, m + R2, by go_num, by go_num, by omega, by omega, HI2, HB2, X2⟩
          case measure => simp [intOf]; omega
        · have HF : Hid (R = m) := Lib.hid (by rw [← HI.out, nodesL_step d m hlt, if_neg hm2])
          have gm : ¬ (m : Int) < 65536 := by omega
          clear hm hm2
          go_wp2_with fail
          go_ret
          exact ⟨ret_i64 (by rw [HF.out]), HB.out⟩
      · have HF : Hid (R = m) := Lib.hid (by rw [← HI.out, List.drop_eq_nil_of_le (by omega), nodesL_nil])
        go_wp2_with fail
        go_ret
        exact ⟨ret_i64 (by rw [HF.out]), HB.out⟩

set_option maxHeartbeats 1000000 in
theorem large_any (S : Nat → Prop) (t : VT) (v : Value) (w : World) (hS : ∀ b, S b → b < w.heap.size) (h : LV w S t v) :
    Calls Try.prog 7 #[v] w fun e w' => e = .returned (.bool (largeT t)) ∧ Below w.heap.size w w' := by
  obtain ⟨A, c, A', c', rfl, -, -, -, -, -, -, -⟩ := h.shape
  obtain ⟨o, ho⟩ : ∃ o : Obj, o = .cells #[.int .i64 t.kind, .int .i64 t.num, .string t.text, .slice A t.items.length c, .slice A' t.names.length c'] 25 := ⟨_, rfl⟩
  have HC := Lib.hid (nodes_any S 41 0 t _ (w.alloc o) rfl (sub_alloc hS o) (h.alloc hS o))
  have HB := Lib.hid (below_box (w := w) o)
  have HR : Hid (largeT t = decide (3000 < (nodesT 0 t : Int))) := Lib.hid (by unfold largeT; rw [decide_eq_decide]; omega)
  generalize largeT t = R at *
  subst ho
  generalize nodesT 0 t = N at *
  clear h
  go_enter Try.func7, Try.ntmps7
  go_wp2_with fail
  refine HC.out.mono ?_
  rintro e w2 ⟨rfl, hb⟩
  have HB2 := Lib.hid (toStart HB.out hb)
  clear hb HC HB
  go_wp2_with fail
  go_ret
  exact ⟨ret_bool (by rw [HR.out]), HB2.out⟩

end Go.Proofs.Ytopmeoonepkodaa
