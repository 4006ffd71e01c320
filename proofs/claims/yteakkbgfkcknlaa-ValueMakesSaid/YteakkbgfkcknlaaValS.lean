/- How large a value is. -/
import Derived.Test.YteakkbgfkcknlaaValM
namespace Go.Proofs.Yteakkbgfkcknlaa
open Go.RowKit

theorem OwnB.slice {w : World} {B : Nat} {v : Value} {l : List UInt8} (h : OwnB w B v l) : ∃ A c, v = .slice A l.length c := by
  rcases h.2 with ⟨rfl, h2⟩ | ⟨g, cap, cur, rfl, _⟩
  · exact ⟨none, 0, by rw [h2]⟩
  · exact ⟨_, _, rfl⟩
theorem wrap64_add (a b : Int) : wrap64 (wrap64 a + b) = wrap64 (a + b) := by unfold wrap64; omega
theorem wrap64_add2 (a b : Int) : wrap64 (a + wrap64 b) = wrap64 (a + b) := by unfold wrap64; omega
theorem wrap64_id {a : Int} (h1 : -9223372036854775808 ≤ a) (h2 : a ≤ 9223372036854775807) : wrap64 a = a := by unfold wrap64; omega

set_option maxHeartbeats 400000 in
theorem csize_any (n : Nat) (w : World) (hn : n ≤ 4611686018427387904) : Calls Try.prog 93 #[.int .i64 n] w fun e w' => e = .returned (.int .i64 ((grp n).length)) ∧ Below w.heap.size w w' := by
  go_enter Try.func93, Try.ntmps93
  go_wp2_with fail
  refine (count_any n _ (by omega)).mono ?_
  rintro e w1 (⟨_, _, v, rfl, hv, hb⟩ | ⟨h, _⟩)
  rotate_left
  · omega
  obtain ⟨A, c, rfl⟩ := hv.slice
  have HB := Lib.hid hb
  clear hv hb
  go_wp2_with fail
  go_ret
  exact ⟨rfl, HB.out⟩

/-- The bytes of a text's code. -/
def tsz (s : ByteArray) : Nat := (grp s.size).length + s.size
set_option maxHeartbeats 400000 in
theorem tsize_any (s : ByteArray) (w : World) (hs : s.size ≤ 140737488351232) : Calls Try.prog 92 #[.string s] w fun e w' => e = .returned (.int .i64 (tsz s)) ∧ Below w.heap.size w w' := by
  have hg := (grp_length s.size).1
  go_enter Try.func92, Try.ntmps92
  go_wp2_with fail
  refine (csize_any s.size _ (by omega)).mono ?_
  rintro e w1 ⟨rfl, hb⟩
  have HB := Lib.hid hb
  clear hb
  go_wp2_with fail
  go_ret
  exact ⟨ret_i64 (by unfold tsz; omega), HB.out⟩

def sumN (ns : List ByteArray) : Nat := (ns.map tsz).sum
def ownP (k i : Int) (s : ByteArray) (n : Nat) (ns : List ByteArray) : Nat :=
  if k = 2 then 2 else if k = 3 then 1 + (grp (zig i)).length else if k = 4 ∨ k = 5 then 1 + tsz s
  else if k = 6 then 1 + (grp n).length else if k = 7 then 1 + (grp n).length + sumN ns else 1
def ownT : VT → Nat
  | .mk k i s l ns => ownP k i s l.length ns
theorem sumN_take (ns : List ByteArray) (k : Nat) (hk : k < ns.length) : sumN (ns.take (k + 1)) = sumN (ns.take k) + tsz ns[k] := by
  unfold sumN
  rw [List.take_add_one, List.getElem?_eq_getElem hk, List.map_append, List.sum_append]
  simp
theorem sumN_all (ns : List ByteArray) (k : Nat) (hk : ns.length ≤ k) : sumN (ns.take k) = sumN ns := by rw [List.take_of_length_le hk]
theorem tsz_le (s : ByteArray) (h : s.size ≤ 140737488351232) : tsz s ≤ 140737488351300 := by have := (grp_length s.size).1; unfold tsz; omega

section
variable (i : Int) (s : ByteArray) (A A' : Option Addr) (n c c' : Nat) (ns : List ByteArray) (w : World)
set_option maxHeartbeats 1000000
set_option maxRecDepth 100000
theorem own1 (k : Int) (hk : ¬ (2 ≤ k ∧ k ≤ 7)) : Calls Try.prog 86 #[.agg #[.int .i64 k, .int .i64 i, .string s, .slice A n c, .slice A' ns.length c']] w fun e w' => e = .returned (.int .i64 (wrap64 (ownP k i s n ns))) ∧ Below w.heap.size w w' := by
  have e0 : ownP k i s n ns = 1 := by
    unfold ownP
    rw [if_neg (by omega), if_neg (by omega), if_neg (by omega), if_neg (by omega), if_neg (by omega)]
  rw [e0]
  have b2 : (k == 2) = false := by simp; omega
  have b3 : (k == 3) = false := by simp; omega
  have b4 : (k == 4) = false := by simp; omega
  have b5 : (k == 5) = false := by simp; omega
  have b6 : (k == 6) = false := by simp; omega
  have b7 : (k == 7) = false := by simp; omega
  clear e0 hk
  go_enter Try.func86, Try.ntmps86
  go_wp2_with fail
  go_ret
  exact ⟨ret_i64 (by rw [wrap64_id (by decide) (by decide)]; rfl), below_box _⟩
theorem own2 : Calls Try.prog 86 #[.agg #[.int .i64 2, .int .i64 i, .string s, .slice A n c, .slice A' ns.length c']] w fun e w' => e = .returned (.int .i64 (wrap64 (ownP 2 i s n ns))) ∧ Below w.heap.size w w' := by
  go_enter Try.func86, Try.ntmps86
  go_wp2_with fail
  go_ret
  exact ⟨ret_i64 (by unfold ownP; rw [if_pos rfl, wrap64_id (by decide) (by decide)]; rfl), below_box _⟩
theorem own3 (hi : Rng i) : Calls Try.prog 86 #[.agg #[.int .i64 3, .int .i64 i, .string s, .slice A n c, .slice A' ns.length c']] w fun e w' => e = .returned (.int .i64 (wrap64 (ownP 3 i s n ns))) ∧ Below w.heap.size w w' := by
  have hg := (grp_length (zig i)).1
  go_enter Try.func86, Try.ntmps86
  go_wp2_with fail
  refine (int_any i _ hi.1 hi.2).mono ?_
  rintro e w1 ⟨v, rfl, hv, hb⟩
  obtain ⟨A2, c2, rfl⟩ := hv.slice
  have HB := Lib.hid (toStart (below_box _) hb)
  clear hv hb
  go_wp2_with fail
  go_ret
  exact ⟨ret_i64 (by unfold ownP; simp; rw [wrap64_id (by omega) (by omega)]), HB.out⟩
theorem own45 (k : Int) (hk : k = 4 ∨ k = 5) (hs : s.size ≤ 140737488351232) : Calls Try.prog 86 #[.agg #[.int .i64 k, .int .i64 i, .string s, .slice A n c, .slice A' ns.length c']] w fun e w' => e = .returned (.int .i64 (wrap64 (ownP k i s n ns))) ∧ Below w.heap.size w w' := by
  have hg := tsz_le s hs
  have HS := Lib.hid hs
  clear hs
  have e0 : ownP k i s n ns = 1 + tsz s := by unfold ownP; rw [if_neg (by omega), if_neg (by omega), if_pos hk]
  rw [e0]
  clear e0
  rcases hk with rfl | rfl
  all_goals
    go_enter Try.func86, Try.ntmps86
    go_wp2_with fail
    refine (tsize_any s _ HS.out).mono ?_
    rintro e w1 ⟨rfl, hb⟩
    have HB := Lib.hid (toStart (below_box _) hb)
    clear hb
    go_wp2_with fail
    go_ret
    exact ⟨ret_i64 (by rw [wrap64_id (by omega) (by omega)]; omega), HB.out⟩
theorem own6 (hn : n ≤ 140737488351232) : Calls Try.prog 86 #[.agg #[.int .i64 6, .int .i64 i, .string s, .slice A n c, .slice A' ns.length c']] w fun e w' => e = .returned (.int .i64 (wrap64 (ownP 6 i s n ns))) ∧ Below w.heap.size w w' := by
  have hg := (grp_length n).1
  go_enter Try.func86, Try.ntmps86
  go_wp2_with fail
  refine (csize_any n _ (by omega)).mono ?_
  rintro e w1 ⟨rfl, hb⟩
  have HB := Lib.hid (toStart (below_box _) hb)
  clear hb
  go_wp2_with fail
  go_ret
  exact ⟨ret_i64 (by unfold ownP; simp; rw [wrap64_id (by omega) (by omega)]), HB.out⟩
theorem own7 (S : Nat → Prop) (hS : ∀ b, S b → b < w.heap.size) (hN : StrsAt w S A' ns) (hl : ns.length ≤ 140737488351232) (hn : n ≤ 140737488351232) :
    Calls Try.prog 86 #[.agg #[.int .i64 7, .int .i64 i, .string s, .slice A n c, .slice A' ns.length c']] w fun e w' => e = .returned (.int .i64 (wrap64 (ownP 7 i s n ns))) ∧ Below w.heap.size w w' := by
  have hg := (grp_length n).1
  have e0 : ownP 7 i s n ns = 1 + (grp n).length + sumN ns := by unfold ownP; simp
  have HE := Lib.hid e0
  clear e0
  generalize ownP 7 i s n ns = R at *
  have HN := Lib.hid hN
  have HL := Lib.hid hl
  clear hN
  go_enter Try.func86, Try.ntmps86
  go_wp2_with fail
  refine (csize_any n _ (by omega)).mono ?_
  rintro e w1 ⟨rfl, hb⟩
  have hcell : ∀ q, w1.cell? ⟨w.heap.size, q, none⟩ = (w.alloc (.cells #[.int .i64 7, .int .i64 i, .string s, .slice A n c, .slice A' ns.length c'] 49)).cell? ⟨w.heap.size, q, none⟩ := fun q => hb.cell (p := ⟨w.heap.size, q, none⟩) (by simp)
  have k4 := hcell 4
  simp at k4
  have HB := Lib.hid (toStart (below_box _) hb)
  clear hb hcell
  go_wp2_with fail
  go_loopw [3, 41] (fun tot j wr => ∃ k : Nat, j = .int .i64 k ∧ k ≤ ns.length ∧ tot = .int .i64 (wrap64 ((1 + (grp n).length + sumN (ns.take k) : Nat) : Int)) ∧ Hid (Below w.heap.size w wr)) (fun _ j _ => ns.length - (intOf j).toNat)
  case atStart => exact ⟨0, rfl, Nat.zero_le _, by rw [wrap64_id (by simp [sumN]; omega) (by simp [sumN]; omega)]; simp [sumN], HB.out⟩
  case round =>
    obtain ⟨k, rfl, hk, rfl, HI⟩ := hrel
    by_cases hlt : k < ns.length
    · obtain ⟨b, off, rfl, hb, hcells⟩ := HN.out (by omega)
      obtain ⟨hc0, hsz⟩ := hcells k hlt
      have hcx : wr.cell? ⟨b, off + k, none⟩ = some (.string ns[k]) := (HI.out.cell (p := ⟨b, off + k, none⟩) (hS b hb)).trans hc0
      have hst := sumN_take ns k hlt
      generalize hgs : ns[k] = s1 at *
      have HSZ := Lib.hid hsz
      have HST := Lib.hid hst
      clear hcells hc0 hsz hst
      generalize hR : 1 + (grp n).length + sumN (ns.take k) = T at *
      go_wp2_with fail
      refine (tsize_any s1 _ HSZ.out).mono ?_
      rintro e w2 ⟨rfl, hb2⟩
      have HB2 := Lib.hid (HI.out.trans (hb2.mono HI.out.size))
      clear hb2 HI
      go_wp2_with fail
      go_roundw
      case rel => exact ⟨k + 1, by go_num, by omega, by
        have e1 : 1 + (grp n).length + sumN (ns.take (k + 1)) = T + tsz s1 := by rw [HST.out]; omega
        rw [e1, wrap64_add]; congr 2, HB2⟩
      case measure => simp [intOf]; omega
    · have e1 := sumN_all ns k (by omega)
      rw [e1, ← HE.out]
      go_wp2_with fail
      go_ret
      exact ⟨rfl, HI.out⟩
end
theorem own_any (S : Nat → Prop) (t : VT) (v : Value) (w : World) (hS : ∀ b, S b → b < w.heap.size) (h : LV w S t v) : Calls Try.prog 86 #[v] w fun e w' => e = .returned (.int .i64 (wrap64 (ownT t))) ∧ Below w.heap.size w w' := by
  obtain ⟨A, c, A', c', rfl, -, h2, h3, h4, h5, h6, -⟩ := h.shape
  cases t with
  | mk k i s l ns =>
  show Calls Try.prog 86 #[.agg #[.int .i64 k, .int .i64 i, .string s, .slice A l.length c, .slice A' ns.length c']] w fun e w' => e = .returned (.int .i64 (wrap64 (ownP k i s l.length ns))) ∧ Below w.heap.size w w'
  by_cases hk : 2 ≤ k ∧ k ≤ 7
  · obtain rfl | rfl | hk | rfl | rfl : k = 2 ∨ k = 3 ∨ (k = 4 ∨ k = 5) ∨ k = 6 ∨ k = 7 := by omega
    · exact own2 _ _ _ _ _ _ _ _ _
    · exact own3 _ _ _ _ _ _ _ _ _ h2
    · exact own45 _ _ _ _ _ _ _ _ _ k hk h3
    · exact own6 _ _ _ _ _ _ _ _ _ h4
    · exact own7 _ _ _ _ _ _ _ _ _ S hS h6 h5 h4
  · exact own1 _ _ _ _ _ _ _ _ _ k hk
end Go.Proofs.Yteakkbgfkcknlaa
