/- A token's code, by the document. -/
import Derived.Test.YtlhkcpfjnhbocaaKTkC
import Derived.Test.YtlhkcpfjnhbocaaKRegE
namespace Go.Proofs.Ytlhkcpfjnhbocaa
set_option linter.unusedVariables false
set_option linter.unusedSimpArgs false
open Go.RowKit
set_option maxRecDepth 100000
theorem four_cells (n : Nat) : (#[.int .u8 ((n : Int) % 256), .int .u8 ((n : Int) / 256 % 256), .int .u8 ((n : Int) / 65536 % 256), .int .u8 ((n : Int) / 16777216 % 256)] : Array Value) = (bcells (loB 4 n)).toArray := by
  rw [loB_four]
  have e1 : ((n : Int) / 256) = ((n / 256 : Nat) : Int) := by omega
  have e2 : ((n : Int) / 65536) = ((n / 65536 : Nat) : Int) := by omega
  have e3 : ((n : Int) / 16777216) = ((n / 16777216 : Nat) : Int) := by omega
  rw [e1, e2, e3, byte_nat', byte_nat', byte_nat', byte_nat']
  rfl
theorem one_byte (k : Nat) (hk : k ≤ 2) : (k : Int) = ((UInt8.ofNat k).toNat : Int) := by
  rw [UInt8.toNat_ofNat']
  omega
set_option maxHeartbeats 8000000 in
theorem rtcode_any (k i t : Nat) (w : World) (hk : k ≤ 2) (hi : i ≤ 1099511627776) (ht : t ≤ 1099511627776) : Calls Try.prog 24 #[tokV k i t] w (Gives (codeT k i t) w) := by
  have hx0 : (w.alloc (.cells #[.int .i64 (k : Int), .int .i64 (i : Int), .int .i64 (t : Int)] 37)).drew.heap[w.heap.size]? = some (.cells #[.int .i64 (k : Int), .int .i64 (i : Int), .int .i64 (t : Int)] 37 (0, 0)) := KBox.new w k i t
  have z0 := cell_k8 (i := 0) hx0 (by decide) rfl
  have z1 := cell_k8 (i := 1) hx0 (by decide) rfl
  have z2 := cell_k8 (i := 2) hx0 (by decide) rfl
  clear hx0
  unfold tokV
  go_enter Try.func24, Try.ntmps24
  go_wp2_with fail
  refine wp_region_OT K8 (fun w => Lib.OthersKept.refl _ _ _) (fun _ _ _ h k => h.trans k) [] (.pure [0, 1, 2, 4, 5, 8, 9] (.fork 3 (.step 6 (.step 7 (.step 10 (.step 11 (.free [12] (.tail [])))))) 6 (.step 3 (.step 7 (.step 10 (.step 11 (.free [12] (.tail [])))))))) (by kernel_rfl) (by kernel_rfl) (fun _ d _ _ _ h => by cases d <;> exact h) ?_
  refine ot_pure ?_
  simp only [atNats, List.filterMap_cons, List.filterMap_nil, List.getElem?_toArray, List.getElem?_cons_succ, List.getElem?_cons_zero]
  show wpQuiet _ _ _ _ [_, _, _, _, _, _, _] _
  repeat (go_big_quiet_step (fail))
  refine wpQuiet_nil ?_
  clear z0 z1 z2
  refine ot_fork rfl rfl (fun K hK => ?_) (fun K hK => ?_)
  · go_simp
    refine hK _ _ (.inr (k8_below ((Below.refl _ _).alloc (Nat.le_refl _) _))) ?_
    clear hK K
    refine ot_step rfl (fun K hK => ?_)
    go_simp
    obtain ⟨W0, hW0⟩ : ∃ W, W = ((w.alloc (.cells #[.int .i64 (k : Int), .int .i64 (i : Int), .int .i64 (t : Int)] 37)).alloc (.cells #[.int .u8 (k : Int)] 5)).drew := ⟨_, rfl⟩
    rw [← hW0]
    refine (rcount_any i W0 (by omega)).mono ?_
    rintro e w3 ⟨v1, rfl, hv1, hb1⟩
    go_simp
    refine hK _ _ (.inr (by rw [← hW0]; exact k8_below hb1)) ?_
    have hb0 : Below w.heap.size w W0 := by rw [hW0]; exact (((Below.refl _ _).alloc (Nat.le_refl _) _).alloc (by simp) _).drew
    have HB3 := Lib.hid (hb0.trans (hb1.mono hb0.size))
    obtain ⟨g, hg⟩ : ∃ g, g = w.heap.size + 1 := ⟨_, rfl⟩
    have HOW : Hid (OwnB w3 w.heap.size (.slice (some ⟨g, 0, none⟩) 1 1) [UInt8.ofNat k]) := Lib.hid (by
      have h := own_lit (w.alloc (.cells #[.int .i64 (k : Int), .int .i64 (i : Int), .int .i64 (t : Int)] 37)) [UInt8.ofNat k] (by show 1 ≤ maxLen; decide)
      rw [show (bcells [UInt8.ofNat k]).toArray = #[.int .u8 (k : Int)] from by rw [one_byte k hk]; rfl, show (w.alloc (.cells #[.int .i64 (k : Int), .int .i64 (i : Int), .int .i64 (t : Int)] 37)).heap.size = g from by rw [hg]; simp] at h
      have h2 : OwnB W0 g (.slice (some ⟨g, 0, none⟩) 1 1) [UInt8.ofNat k] := by rw [hW0]; exact h
      exact (h2.below hb1).base (by omega))
    rw [← hg]
    have HV1 := Lib.hid hv1
    clear hb0 hb1 hv1 hW0 hg
    clear hK K
    refine ot_act rfl rfl (fun K hK => ?_)
    refine wp_append_bytesG _ _ rfl w.heap.size (.slice (some ⟨g, 0, none⟩) 1 1) [UInt8.ofNat k] rfl HOW.out w3.heap.size v1 (grp i) rfl HV1.out.rdY (grp_length i).2 HB3.out.size (by have h1 := (grp_length i).1; simp only [List.length_cons, List.length_nil]; omega) (fun v4 w4 hv4 hg4 => ?_)
    refine hK _ _ (.inr (k8_grown HOW.out hg4)) ?_
    clear hK K
    simp only [List.getElem_toArray, List.getElem_cons_succ, List.getElem_cons_zero, Act.put, List.setIfInBounds_toArray, List.set_cons_succ, List.set_cons_zero]
    have HO4 := Lib.hid hv4
    have HB4 := Lib.hid (below_own HB3.out HOW.out HB3.out.size hg4)
    clear hv4 hg4 HOW HV1 HB3
    refine ot_step rfl (fun K hK => ?_)
    go_simp
    refine (rcount_any t w4 (by omega)).mono ?_
    rintro e w5 ⟨v5, rfl, hv5, hb5⟩
    go_simp
    refine hK _ _ (.inr (k8_below hb5)) ?_
    clear hK K
    have HO5 := Lib.hid (HO4.out.below hb5)
    have HV5 := Lib.hid hv5
    have HB5 := Lib.hid (HB4.out.trans (hb5.mono HB4.out.size))
    clear hv5 hb5 HO4 HB4
    refine ot_act rfl rfl (fun K hK => ?_)
    refine wp_append_bytesG _ _ rfl w.heap.size v4 ([UInt8.ofNat k] ++ grp i) rfl HO5.out w5.heap.size v5 (grp t) rfl HV5.out.rdY (grp_length t).2 HB5.out.size (by have h1 := (grp_length i).1; have h2 := (grp_length t).1; simp only [List.length_append, List.length_cons, List.length_nil]; omega) (fun v6 w6 hv6 hg6 => ?_)
    refine hK _ _ (.inr (k8_grown HO5.out hg6)) ?_
    clear hK K
    simp only [List.getElem_toArray, List.getElem_cons_succ, List.getElem_cons_zero, Act.put, List.setIfInBounds_toArray, List.set_cons_succ, List.set_cons_zero]
    have HX6 : Hid (OwnB w6 w.heap.size v6 (headT k i t) ∧ Below w.heap.size w w6) := Lib.hid ⟨by
      have e : [UInt8.ofNat k] ++ grp i ++ grp t = headT k i t := by unfold headT grpL; simp
      rw [← e]; exact hv6, below_own HB5.out HO5.out HB5.out.size hg6⟩
    clear hv6 hg6 HO5 HV5 HB5
    refine ot_free ?_
    simp only [atNats, List.filterMap_cons, List.filterMap_nil, List.getElem?_toArray, List.getElem?_cons_succ, List.getElem?_cons_zero]
    show wpQuiet _ _ _ _ [_] _
    repeat (go_big_quiet_step (fail))
    refine wpQuiet_nil ?_
    refine ot_end ?_
    have hhl := headT_len k i t
    obtain ⟨h, hh⟩ : ∃ h, h = headT k i t := ⟨_, rfl⟩
    have HH := Lib.hid hh
    rw [← hh] at HX6 hhl
    clear hh
    go_wp2_with fail
    refine (rsum_any v6 h _ _ HX6.out.1.rdY (by omega)).mono ?_
    rintro e w' ⟨rfl, rfl⟩
    have hlt := crcOf_lt h
    obtain ⟨q, hq⟩ : ∃ q, q = crcOf h := ⟨_, rfl⟩
    have HQ := Lib.hid hq
    rw [← hq] at hlt ⊢
    obtain ⟨X, hX⟩ : ∃ X : Obj, X = .cells #[.int .u8 ((q : Int) % 256), .int .u8 ((q : Int) / 256 % 256), .int .u8 ((q : Int) / 65536 % 256), .int .u8 ((q : Int) / 16777216 % 256)] 5 := ⟨_, rfl⟩
    have hX2 : X = .cells (bcells (loB 4 q)).toArray 5 := by rw [hX, four_cells]
    have hown := own_lit w6 (loB 4 q) (by rw [loB_length]; decide)
    rw [← hX2] at hown
    have hrd := hown.rdY
    rw [loB_length] at hrd
    have hz6 := HX6.out.2.size
    have ho7 := HX6.out.1.below ((Below.refl _ _).alloc (Nat.le_refl _) X)
    have hb7 := HX6.out.2.alloc hz6 X
    have hz7 := hb7.size
    rw [hX] at hrd ho7 hb7 hz7
    have HRD := Lib.hid hrd
    have HO7 := Lib.hid ho7
    have HB7 := Lib.hid hb7
    have HZ7 := Lib.hid hz7
    obtain ⟨A6, c6, rfl, -⟩ := HX6.out.1.rdY
    clear hlt hq hX hX2 hown hrd hz6 ho7 hb7 hz7
    go_wp2_with (at_builtin; go_must (refine append_bytesY rfl _ _ rfl w.heap.size _ h rfl HO7.out _ _ (loB 4 q) rfl HRD.out HZ7.out (by rw [loB_length]; omega) ?_))
    intro v8 w8 hv8 hg8
    have HX : Hid (OwnB w8 w.heap.size v8 (codeT k i t) ∧ Below w.heap.size w w8) := Lib.hid ⟨by unfold codeT; rw [← HH.out, ← HQ.out]; exact hv8, below_ownY HB7.out HO7.out HZ7.out hg8⟩
    clear hv8 hg8
    go_wp2_with fail
    go_ret
    exact ⟨v8, rfl, HX.out.1, HX.out.2⟩
  · go_simp
    obtain ⟨W0, hW0⟩ : ∃ W, W = (w.alloc (.cells #[.int .i64 (k : Int), .int .i64 (i : Int), .int .i64 (t : Int)] 37)).drew := ⟨_, rfl⟩
    rw [← hW0]
    refine (rcount_any i W0 (by omega)).mono ?_
    rintro e w2 ⟨v1, rfl, hv1, hb1⟩
    go_simp
    refine hK _ _ (.inr (by rw [← hW0]; exact k8_below hb1)) ?_
    clear hK K
    refine ot_step rfl (fun K hK => ?_)
    go_simp
    refine hK _ _ (.inr (k8_below ((Below.refl _ _).alloc (Nat.le_refl _) _))) ?_
    have hb0 : Below w.heap.size w W0 := by rw [hW0]; exact ((Below.refl _ _).alloc (Nat.le_refl _) _).drew
    have hb2 := hb0.trans (hb1.mono hb0.size)
    obtain ⟨w3, hw3⟩ : ∃ W, W = w2.alloc (.cells #[.int .u8 (k : Int)] 5) := ⟨_, rfl⟩
    obtain ⟨g, hg⟩ : ∃ g, g = w2.heap.size := ⟨_, rfl⟩
    rw [← hw3, ← hg]
    have HB3 : Hid (Below w.heap.size w w3) := Lib.hid (by rw [hw3]; exact hb2.alloc hb2.size _)
    have HOW : Hid (OwnB w3 w.heap.size (.slice (some ⟨g, 0, none⟩) 1 1) [UInt8.ofNat k]) := Lib.hid (by
      have h := own_lit w2 [UInt8.ofNat k] (by show 1 ≤ maxLen; decide)
      rw [show (bcells [UInt8.ofNat k]).toArray = #[.int .u8 (k : Int)] from by rw [one_byte k hk]; rfl] at h
      rw [hw3, hg]
      exact h.base hb2.size)
    have HV1 : Hid (OwnB w3 W0.heap.size v1 (grp i)) := Lib.hid (by rw [hw3]; exact hv1.below ((Below.refl _ _).alloc (Nat.le_refl _) _))
    clear hb0 hb1 hb2 hv1 hw3 hg hW0
    clear hK K
    refine ot_act rfl rfl (fun K hK => ?_)
    refine wp_append_bytesG _ _ rfl w.heap.size (.slice (some ⟨g, 0, none⟩) 1 1) [UInt8.ofNat k] rfl HOW.out w3.heap.size v1 (grp i) rfl HV1.out.rdY (grp_length i).2 HB3.out.size (by have h1 := (grp_length i).1; simp only [List.length_cons, List.length_nil]; omega) (fun v4 w4 hv4 hg4 => ?_)
    refine hK _ _ (.inr (k8_grown HOW.out hg4)) ?_
    clear hK K
    simp only [List.getElem_toArray, List.getElem_cons_succ, List.getElem_cons_zero, Act.put, List.setIfInBounds_toArray, List.set_cons_succ, List.set_cons_zero]
    have HO4 := Lib.hid hv4
    have HB4 := Lib.hid (below_own HB3.out HOW.out HB3.out.size hg4)
    clear hv4 hg4 HOW HV1 HB3
    refine ot_step rfl (fun K hK => ?_)
    go_simp
    refine (rcount_any t w4 (by omega)).mono ?_
    rintro e w5 ⟨v5, rfl, hv5, hb5⟩
    go_simp
    refine hK _ _ (.inr (k8_below hb5)) ?_
    clear hK K
    have HO5 := Lib.hid (HO4.out.below hb5)
    have HV5 := Lib.hid hv5
    have HB5 := Lib.hid (HB4.out.trans (hb5.mono HB4.out.size))
    clear hv5 hb5 HO4 HB4
    refine ot_act rfl rfl (fun K hK => ?_)
    refine wp_append_bytesG _ _ rfl w.heap.size v4 ([UInt8.ofNat k] ++ grp i) rfl HO5.out w5.heap.size v5 (grp t) rfl HV5.out.rdY (grp_length t).2 HB5.out.size (by have h1 := (grp_length i).1; have h2 := (grp_length t).1; simp only [List.length_append, List.length_cons, List.length_nil]; omega) (fun v6 w6 hv6 hg6 => ?_)
    refine hK _ _ (.inr (k8_grown HO5.out hg6)) ?_
    clear hK K
    simp only [List.getElem_toArray, List.getElem_cons_succ, List.getElem_cons_zero, Act.put, List.setIfInBounds_toArray, List.set_cons_succ, List.set_cons_zero]
    have HX6 : Hid (OwnB w6 w.heap.size v6 (headT k i t) ∧ Below w.heap.size w w6) := Lib.hid ⟨by
      have e : [UInt8.ofNat k] ++ grp i ++ grp t = headT k i t := by unfold headT grpL; simp
      rw [← e]; exact hv6, below_own HB5.out HO5.out HB5.out.size hg6⟩
    clear hv6 hg6 HO5 HV5 HB5
    refine ot_free ?_
    simp only [atNats, List.filterMap_cons, List.filterMap_nil, List.getElem?_toArray, List.getElem?_cons_succ, List.getElem?_cons_zero]
    show wpQuiet _ _ _ _ [_] _
    repeat (go_big_quiet_step (fail))
    refine wpQuiet_nil ?_
    refine ot_end ?_
    have hhl := headT_len k i t
    obtain ⟨h, hh⟩ : ∃ h, h = headT k i t := ⟨_, rfl⟩
    have HH := Lib.hid hh
    rw [← hh] at HX6 hhl
    clear hh
    go_wp2_with fail
    refine (rsum_any v6 h _ _ HX6.out.1.rdY (by omega)).mono ?_
    rintro e w' ⟨rfl, rfl⟩
    have hlt := crcOf_lt h
    obtain ⟨q, hq⟩ : ∃ q, q = crcOf h := ⟨_, rfl⟩
    have HQ := Lib.hid hq
    rw [← hq] at hlt ⊢
    obtain ⟨X, hX⟩ : ∃ X : Obj, X = .cells #[.int .u8 ((q : Int) % 256), .int .u8 ((q : Int) / 256 % 256), .int .u8 ((q : Int) / 65536 % 256), .int .u8 ((q : Int) / 16777216 % 256)] 5 := ⟨_, rfl⟩
    have hX2 : X = .cells (bcells (loB 4 q)).toArray 5 := by rw [hX, four_cells]
    have hown := own_lit w6 (loB 4 q) (by rw [loB_length]; decide)
    rw [← hX2] at hown
    have hrd := hown.rdY
    rw [loB_length] at hrd
    have hz6 := HX6.out.2.size
    have ho7 := HX6.out.1.below ((Below.refl _ _).alloc (Nat.le_refl _) X)
    have hb7 := HX6.out.2.alloc hz6 X
    have hz7 := hb7.size
    rw [hX] at hrd ho7 hb7 hz7
    have HRD := Lib.hid hrd
    have HO7 := Lib.hid ho7
    have HB7 := Lib.hid hb7
    have HZ7 := Lib.hid hz7
    obtain ⟨A6, c6, rfl, -⟩ := HX6.out.1.rdY
    clear hlt hq hX hX2 hown hrd hz6 ho7 hb7 hz7
    go_wp2_with (at_builtin; go_must (refine append_bytesY rfl _ _ rfl w.heap.size _ h rfl HO7.out _ _ (loB 4 q) rfl HRD.out HZ7.out (by rw [loB_length]; omega) ?_))
    intro v8 w8 hv8 hg8
    have HX : Hid (OwnB w8 w.heap.size v8 (codeT k i t) ∧ Below w.heap.size w w8) := Lib.hid ⟨by unfold codeT; rw [← HH.out, ← HQ.out]; exact hv8, below_ownY HB7.out HO7.out HZ7.out hg8⟩
    clear hv8 hg8
    go_wp2_with fail
    go_ret
    exact ⟨v8, rfl, HX.out.1, HX.out.2⟩
end Go.Proofs.Ytlhkcpfjnhbocaa
