/- The codes of lengths and of paths, and of values, put behind bytes of the caller's own. -/
import Derived.Test.YtipiplnhbecjeaaKSpS
import Derived.Test.YtipiplnhbecjeaaKCodY
import Derived.Test.YtipiplnhbecjeaaKCodE
import Derived.Test.YtipiplnhbecjeaaKPutC
import Derived.Test.YtipiplnhbecjeaaKReg
import Derived.Test.YtipiplnhbecjeaaKOpen
import Derived.Test.YtipiplnhbecjeaaKSpF
import Derived.Test.YtipiplnhbecjeaaKCodA
namespace Go.Proofs.Ytipiplnhbecjeaa
set_option linter.unusedVariables false
set_option linter.unusedSimpArgs false
open Go.RowKit
set_option maxRecDepth 100000
theorem K8.tr {a b c : World} (h : K8 a b) (k : K8 b c) : K8 a c := h.trans k
theorem small_own {w : World} {B : Nat} {v : Value} {l : List UInt8} (h : OwnB w B v l) : ∃ A c, v = .slice A l.length c := h.slice
set_option maxHeartbeats 4000000 in
theorem putv_any (S : Nat → Prop) (t : VT) (vt : Value) (B : Nat) (v : Value) (l : List UInt8) (w : World) (hS : ∀ b, S b → b < w.heap.size) (ht : LV w S t vt) (hd : depthT t ≤ 4611686018427387903) (hz : sizeT t ≤ 9223372036854775807) (h : OwnB w B v l) (hB : B ≤ w.heap.size) (hl : l.length ≤ 140737488350000) :
    Calls Try.prog 26 #[v, vt] w (PutsR B (l ++ encO t) w) := by
  obtain ⟨A0, c0, A0', c0', rfl, -, -, -, v1, hb0⟩ := one_var hS ht
  have HH := Lib.hid (h.below hb0)
  have HL := Lib.hid hl
  have HB := Lib.hid hB
  have HB0 := Lib.hid hb0
  have HC := Lib.hid (cencode_any S t _ _ v1.s v1.v hd hz)
  have q0 := v1.x.c0
  have q1 := v1.x.c1
  have q2 := v1.x.c2
  have q3 := v1.x.c3
  have q4 := v1.x.c4
  obtain ⟨A, c, rfl⟩ := h.slice
  obtain ⟨m, hm⟩ : ∃ m, m = l.length := ⟨_, rfl⟩
  rw [← hm] at HH ⊢
  have hZ := hb0.size
  clear h hl hB hm ht v1 hb0
  go_enter Try.func26, Try.ntmps26
  go_wp2_with fail
  refine HC.out.mono ?_
  rintro e w1 ⟨v1, rfl, hv1, hb1⟩
  have HV1 := Lib.hid hv1
  have HB1 := Lib.hid (HB0.out.trans (hb1.mono HB0.out.size))
  have HO1 := Lib.hid (HH.out.below hb1)
  obtain ⟨A1, c1, rfl⟩ := hv1.slice
  obtain ⟨m1, hm1⟩ : ∃ m, m = (encO t).length := ⟨_, rfl⟩
  have HM1 := Lib.hid hm1
  rw [← hm1] at HV1 ⊢
  have HZZ := Lib.hid hz
  clear hv1 hb1 HC hm1 q0 q1 q2 q3 q4
  go_wp2_with (at_builtin; go_must (refine wpList_append_bytes rfl _ _ rfl B _ l rfl HO1.out w1.heap.size _ (encO t) rfl HV1.out.rd (Nat.le_trans HB.out HB1.out.size) (by have := HL.out; have := encO_length (t := t) HZZ.out; omega) ?_))
  intro v2 w2 hv2 hg2
  have HX : Hid (OwnB w2 B v2 (l ++ encO t) ∧ Below B w w2 ∧ K8 w w2) := Lib.hid ⟨hv2, below_own (HB1.out.mono HB.out) HO1.out (Nat.le_trans HB.out HB1.out.size) hg2, (k8_below HB1.out).trans (k8_grown HO1.out hg2)⟩
  clear hv2 hg2
  go_wp2_with fail
  go_ret
  exact ⟨_, rfl, HX.out⟩
/-- A path's code. -/
def pathC (p : List ByteArray) : List UInt8 := grp p.length ++ (p.map txt).flatten
def NamesOK (p : List ByteArray) : Prop := p.length ≤ 1000 ∧ ∀ s ∈ p, s.size ≤ 1000
theorem txt_small {s : ByteArray} (h : s.size ≤ 1000) : (txt s).length ≤ 1011 := by
  unfold txt
  have h1 := (grp_length s.size).1
  simp [List.length_append]
  omega
theorem flat_small : ∀ {p : List ByteArray}, (∀ s ∈ p, s.size ≤ 1000) → ((p.map txt).flatten).length ≤ 1011 * p.length
  | [], _ => by simp
  | a :: r, h => by
    have h1 := txt_small (h a (by simp))
    have h2 := flat_small (p := r) fun s hs => h s (List.mem_cons_of_mem _ hs)
    simp only [List.map_cons, List.flatten_cons, List.length_append, List.length_cons]
    omega
set_option maxHeartbeats 8000000 in
theorem pputpath_any (S : Nat → Prop) (A : Option Addr) (c : Nat) (p : List ByteArray) (B : Nat) (v : Value) (l : List UInt8) (w : World) (hS : ∀ b, S b → b < B) (hp : StrsAt w S A p) (hok : NamesOK p) (h : OwnB w B v l) (hB : B ≤ w.heap.size) (hl : l.length ≤ 140737480000000) :
    Calls Try.prog 49 #[v, .slice A p.length c] w (PutsR B (l ++ pathC p) w) := by
  have HP := Lib.hid hp
  have HS := Lib.hid hS
  have HOK := Lib.hid hok
  have HL := Lib.hid hl
  have HB := Lib.hid hB
  have HC := Lib.hid (pputone_any B p.length v l w h hB (by have := hok.1; omega) (by omega))
  obtain ⟨Av, cv, rfl⟩ := h.slice
  obtain ⟨m, hm⟩ : ∃ m, m = l.length := ⟨_, rfl⟩
  rw [← hm] at HC ⊢
  have hpn := hok.1
  clear h hp hS hok hl hB hm
  go_enter Try.func49, Try.ntmps49
  go_wp2_with fail
  refine HC.out.mono ?_
  rintro e w1 ⟨v1, rfl, hv1, hb1, hk1⟩
  have h0 : Hid (OwnB w1 B v1 (l ++ grp p.length ++ ((p.take 0).map txt).flatten) ∧ Below B w w1 ∧ K8 w w1) := Lib.hid ⟨by simpa using hv1, hb1, hk1⟩
  clear hv1 hb1 hk1 HC
  go_wp2_with fail
  go_loopw [0, 14] (fun v0 i wr => ∃ k : Nat, i = .int .i64 k ∧ k ≤ p.length ∧ Hid (OwnB wr B v0 (l ++ grp p.length ++ ((p.take k).map txt).flatten) ∧ Below B w wr ∧ K8 w wr)) (fun _ i _ => p.length - (intOf i).toNat)
  case atStart => exact ⟨0, rfl, by omega, h0⟩
  case round =>
    rename_i v0 _
    obtain ⟨k, rfl, hk, HH⟩ := hrel
    by_cases hlt : k < p.length
    · obtain ⟨b, off, rfl, hb, hc⟩ := HP.out (by omega)
      have hck := (World.cell?_of_block (a := ⟨b, off + k, none⟩) (HH.out.2.1.block b (HS.out b hb))).trans (hc k hlt).1
      have hsz := HOK.out.2 _ (List.getElem_mem hlt)
      have HT := Lib.hid (text_any p[k] wr (by omega))
      obtain ⟨s, hs⟩ : ∃ s, s = p[k] := ⟨_, rfl⟩
      rw [← hs] at hck HT hsz
      have HSX := Lib.hid hs
      have HTL := Lib.hid (txt_small hsz)
      obtain ⟨Av, cv, hvv⟩ := HH.out.1.slice
      have HAV := Lib.hid hvv
      have hfl := flat_small (p := p.take k) fun s hs => HOK.out.2 s (List.mem_of_mem_take hs)
      rw [List.length_take] at hfl
      have hcl : (l ++ grp p.length ++ ((p.take k).map txt).flatten).length ≤ 140737482000000 := by
        have h1 := (grp_length p.length).1
        have h2 := HL.out
        have h3 := HOK.out.1
        simp only [List.length_append]
        omega
      have HCL := Lib.hid hcl
      clear hc hsz hs hb hvv hfl hcl
      go_wp2_with fail
      refine HT.out.mono ?_
      rintro e w5 ⟨v5, rfl, hv5, hb5⟩
      have HV5 := Lib.hid hv5
      have HO5 := Lib.hid (HH.out.1.below hb5)
      have HB5 := Lib.hid hb5
      have hBs : B ≤ wr.heap.size := Nat.le_trans HB.out HH.out.2.1.size
      have HBS := Lib.hid hBs
      obtain ⟨A5, c5, rfl⟩ := hv5.slice
      obtain ⟨m5, hm5⟩ : ∃ m, m = (txt s).length := ⟨_, rfl⟩
      rw [← hm5] at HV5 ⊢
      clear hv5 hb5 HT hm5 hck hBs
      go_wp2_with (at_builtin; go_must (refine wpList_append_bytes rfl _ _ rfl B _ (l ++ grp p.length ++ ((p.take k).map txt).flatten) rfl HO5.out w5.heap.size _ (txt s) rfl HV5.out.rd (Nat.le_trans HBS.out HB5.out.size) (by have := HCL.out; have := HTL.out; omega) ?_))
      intro v6 w6 hv6 hg6
      have HX : Hid (OwnB w6 B v6 (l ++ grp p.length ++ ((p.take (k + 1)).map txt).flatten) ∧ Below B w w6 ∧ K8 w w6) := Lib.hid ⟨by
        rw [show l ++ grp p.length ++ ((p.take (k + 1)).map txt).flatten = l ++ (grp p.length ++ ((List.take k (List.map txt p)).flatten ++ txt s)) from by rw [List.take_add_one, List.getElem?_eq_getElem hlt, ← HSX.out]; simp [List.map_take]]
        exact hv6, below_own (HH.out.2.1.trans (HB5.out.mono HBS.out)) HO5.out (Nat.le_trans HBS.out HB5.out.size) hg6, (HH.out.2.2.trans (k8_below HB5.out)).trans (k8_grown HO5.out hg6)⟩
      clear hv6 hg6
      go_wp2_with fail
      go_roundw
      case rel => exact ⟨k + 1, by go_num, by omega, HX⟩
      case measure => simp [intOf]; omega
    · obtain rfl : k = p.length := by omega
      go_wp2_with fail
      go_ret
      obtain ⟨h1, h2, h3⟩ := HH.out
      refine ⟨_, rfl, ?_, h2, h3⟩
      rw [List.take_length] at h1
      unfold pathC
      rw [← List.append_assoc]
      exact h1
end Go.Proofs.Ytipiplnhbecjeaa

/- The code of an operator, put behind bytes of the caller's own. -/
namespace Go.Proofs.Ytipiplnhbecjeaa
set_option linter.unusedVariables false
set_option linter.unusedSimpArgs false
open Go.RowKit
set_option maxRecDepth 100000
def codeO (o : OpT) : List UInt8 := [UInt8.ofNat o.kind.toNat] ++ pathC o.path ++ (if o.kind = 2 then [] else if o.kind = 6 then pathC o.to else encO o.val)
theorem box_k8 {w w' : World} {g : Nat} {cs : Array Value} {fr : Nat × Nat} (hg : w.heap[g]? = some (.cells cs 27 fr)) (h : K8 w w') : w'.heap[g]? = some (.cells cs 27 fr) := h g _ hg (fun h => by cases h) (fun c fz h => by injection h with _ h; exact absurd h (by decide))
set_option maxHeartbeats 16000000 in
theorem puto_any (S : Nat → Prop) (o : OpT) (cs : Array Value) (B : Nat) (v : Value) (l : List UInt8) (w : World) (hSB : ∀ b, S b → b < B) (ho : OpL w S o cs) (hm : mayO o = true) (hd : depthT o.val ≤ 4611686018427387903) (hz : sizeT o.val ≤ 9223372036854775807) (hp : NamesOK o.path) (ht : NamesOK o.to) (h : OwnB w B v l) (hB : B ≤ w.heap.size) (hl : l.length ≤ 140737470000000) :
    Calls Try.prog 28 #[v, .agg cs] w (PutsR B (l ++ codeO o) w) := by
  obtain ⟨PA, pc, a, b, c, d, e, TA, tc, rfl, hv, hpa, hta, hpc, htc, hk, hpl, htl⟩ := ho
  obtain ⟨VA, vc, VA', vc', hvs, -⟩ := hv.shape
  simp only [Value.agg.injEq, Array.mk.injEq, List.cons.injEq, and_true] at hvs
  obtain ⟨rfl, rfl, rfl, rfl, rfl⟩ := hvs
  obtain ⟨w1, hw1⟩ : ∃ W, W = w.alloc (.cells #[.int .i64 o.kind, .slice PA o.path.length pc, .int .i64 o.val.kind, .int .i64 o.val.num, .string o.val.text, .slice VA o.val.items.length vc, .slice VA' o.val.names.length vc', .slice TA o.to.length tc] 27) := ⟨_, rfl⟩
  have hbk : w1.heap[w.heap.size]? = some (.cells #[.int .i64 o.kind, .slice PA o.path.length pc, .int .i64 o.val.kind, .int .i64 o.val.num, .string o.val.text, .slice VA o.val.items.length vc, .slice VA' o.val.names.length vc', .slice TA o.to.length tc] 27 (0, 0)) := by rw [hw1]; exact heap_alloc_new w _
  have hb1 : Below w.heap.size w w1 := by rw [hw1]; exact (Below.refl _ _).alloc (Nat.le_refl _) _
  have hSw : ∀ b, S b → b < w.heap.size := fun b hb => Nat.lt_of_lt_of_le (hSB b hb) hB
  have hin : ∀ W, Below B w W → LV W S o.val (.agg #[.int .i64 o.val.kind, .int .i64 o.val.num, .string o.val.text, .slice VA o.val.items.length vc, .slice VA' o.val.names.length vc']) ∧ StrsAt W S PA o.path ∧ StrsAt W S TA o.to := fun W hW =>
    ⟨hv.keep fun b hb => hW.block b (hSB b hb), hpa.keep fun b hb => hW.block b (hSB b hb), hta.keep fun b hb => hW.block b (hSB b hb)⟩
  obtain ⟨i0, hi, hz0, hz1, hz2⟩ := info_parts Try.infoU8
  have HO1 := Lib.hid (h.below hb1)
  obtain ⟨Av, cv, rfl⟩ := h.slice
  obtain ⟨m, hmm⟩ : ∃ m, m = l.length := ⟨_, rfl⟩
  rw [← hmm] at HO1 ⊢
  have HM := Lib.hid hmm
  have HB1 := Lib.hid hb1
  have HBK := Lib.hid hbk
  have HW1 := Lib.hid hw1
  have HIN := Lib.hid hin
  have HSB := Lib.hid hSB
  have HPP := Lib.hid (And.intro hp ht)
  have HD := Lib.hid (And.intro hd hz)
  have HL := Lib.hid hl
  have HB := Lib.hid hB
  have hkk : o.kind = 1 ∨ o.kind = 2 ∨ o.kind = 3 ∨ o.kind = 4 ∨ o.kind = 5 ∨ o.kind = 6 ∨ o.kind = 7 ∨ o.kind = 8 := by
    unfold mayO at hm
    rw [Bool.and_eq_true] at hm
    have h2 := hm.2
    split at h2
    · omega
    split at h2
    · omega
    split at h2
    · omega
    split at h2
    · omega
    · cases h2
  clear hv hpa hta hpc htc hk hpl htl hSB hSw hin h hB hl hmm hd hz hp ht hm
  go_enter Try.func28, Try.ntmps28
  rcases hkk with hkk | hkk | hkk | hkk | hkk | hkk | hkk | hkk
  · have HKE := Lib.hid hkk
    have hbk := HBK.out
    rw [hkk] at hbk hw1 ⊢
    clear hkk
    have HBKK := Lib.hid hbk
    go_wp2_with fail
    first | rw [← hw1] | skip
    clear hw1
    have q0 := cell_k8 (i := 0) (show w1.drew.heap[w.heap.size]? = _ from HBKK.out) (by decide) rfl
    have q1 := cell_k8 (i := 1) (show w1.drew.heap[w.heap.size]? = _ from HBKK.out) (by decide) rfl
    refine wp_region_OT K8 (fun w => Lib.OthersKept.refl _ _ _) (fun a b c h k => h.trans k) [] (.pure [0, 1, 2, 3, 6, 7] (.step 4 (.step 5 (.step 8 (.free [9] (.tail [])))))) (by kernel_rfl) (by kernel_rfl) (fun _ d _ _ _ h => by cases d <;> exact h) ?_
    generalize hw2 : w1.drew = w2 at *
    have HW2 : Hid (Below w.heap.size w w2 ∧ OwnB w2 B (.slice Av m cv) l ∧ K8 w w2 ∧ w.heap.size < w2.heap.size) := Lib.hid (by
      rw [← hw2]
      exact ⟨HB1.out.drew, HO1.out, (k8_below HB1.out).drew, (Array.getElem?_eq_some_iff.1 HBKK.out).1⟩)
    have HBK2 := Lib.hid ((show w2.heap[w.heap.size]? = w1.heap[w.heap.size]? from by rw [← hw2]; rfl).trans HBKK.out)
    clear hw2 hbk
    refine ot_pure ?_
    simp only [atNats, List.filterMap_cons, List.filterMap_nil, List.getElem?_toArray, List.getElem?_cons_succ, List.getElem?_cons_zero]
    show wpQuiet _ _ _ _ [_, _, _, _, _, _] _
    try simp only [List.getElem_toArray, List.getElem_cons_succ, List.getElem_cons_zero, Act.put, List.setIfInBounds_toArray, List.set_cons_succ, List.set_cons_zero] at *
    repeat (go_big_quiet_step (fail))
    refine wpQuiet_nil ?_
    clear q0 q1
    refine ot_step rfl (fun K hK => ?_)
    go_simp
    refine hK _ _ (.inr ((Lib.OthersKept.refl _ _ _).alloc _)) ?_
    clear hK K
    have hml : m ≤ 140737470000000 := by rw [HM.out]; exact HL.out
    have hB2 : B ≤ w2.heap.size := Nat.le_trans HB.out HW2.out.1.size
    have HOA : Hid (∀ X : Obj, OwnB (w2.alloc X) B (.slice Av m cv) l) := Lib.hid fun X => HW2.out.2.1.below ((Below.refl _ _).alloc (Nat.le_refl _) _)
    have hrow : ∀ X : Obj, (w2.alloc X).ownsRow B 5 1 (.slice Av m cv) m (bcells l) := fun X => by have h9 := HOA.out X; unfold OwnB at h9; rw [← HM.out] at h9; exact h9
    refine ot_step rfl (fun K hK => ?_)
    refine wp_append_moved _ _ _ 39 rfl B 5 i0 (.int .u8 0) 1 1 Try.underlying39 hi hz0 hz1 hz2 rfl (by decide) _ m (bcells l) rfl (hrow _) ⟨w2.heap.size, 0, none⟩ 1 1 [.int .u8 1] rfl rfl (cell_one_new _ _ _) (by simp [Value.oneCell']) (by unfold maxLen; omega) (by omega) (by simp; omega) ?_
    intro v4 w4 hv4 hg4 hwh4
    have hk5 : K8 (w2.alloc (.cells #[.int .u8 1] 5)) w4 := k8_grown (HOA.out _) hg4
    refine hK _ _ (.inr hk5) ?_
    clear hK K
    have HX4 : Hid (OwnB w4 B v4 (l ++ [1]) ∧ Below B w w4 ∧ K8 w w4) := Lib.hid ⟨by unfold OwnB; rw [List.length_append, ← HM.out, show bcells (l ++ [1]) = bcells l ++ [.int .u8 1] from by unfold bcells; rw [List.map_append]; rfl]; exact hv4, below_own ((HW2.out.1.mono HB.out).alloc hB2 _) (HOA.out _) (by simp; omega) hg4, (HW2.out.2.2.1.alloc _).trans hk5⟩
    have HBK4 := Lib.hid (box_k8 (w := w2.alloc (.cells #[.int .u8 1] 5)) ((Below.heap_alloc w2 _ _ HW2.out.2.2.2).trans HBK2.out) hk5)
    have HC := Lib.hid (pputpath_any S PA pc o.path B v4 (l ++ [1]) w4 HSB.out (HIN.out w4 HX4.out.2.1).2.1 HPP.out.1 HX4.out.1 (Nat.le_trans HB.out HX4.out.2.1.size) (by have := HM.out; simp; omega))
    clear hv4 hg4 hwh4 hrow hk5 hB2
    refine ot_step rfl (fun K hK => ?_)
    go_simp
    refine HC.out.mono ?_
    rintro e w5 ⟨v5, rfl, hv5, hb5, hk5⟩
    go_simp
    refine hK _ _ (.inr hk5) ?_
    clear hK K
    have HX5 : Hid (OwnB w5 B v5 (l ++ [1] ++ pathC o.path) ∧ Below B w w5 ∧ K8 w w5) := Lib.hid ⟨hv5, HX4.out.2.1.trans hb5, HX4.out.2.2.trans hk5⟩
    have HBK5 := Lib.hid (box_k8 HBK4.out hk5)
    refine ot_free ?_
    simp only [atNats, List.filterMap_cons, List.filterMap_nil, List.getElem?_toArray, List.getElem?_cons_succ, List.getElem?_cons_zero]
    show wpQuiet _ _ _ _ [_] _
    try simp only [List.getElem_toArray, List.getElem_cons_succ, List.getElem_cons_zero, Act.put, List.setIfInBounds_toArray, List.set_cons_succ, List.set_cons_zero] at *
    repeat (go_big_quiet_step (fail))
    refine wpQuiet_nil ?_
    refine ot_end ?_
    have r0 : w5.cell? ⟨w.heap.size, 0, none⟩ = some (.int .i64 1) := Go.Joins.cell_of_block HBK5.out 0
    have r1 : w5.cell? ⟨w.heap.size, 2, none⟩ = some (.int .i64 o.val.kind) := Go.Joins.cell_of_block HBK5.out 2
    have r2 : w5.cell? ⟨w.heap.size, 3, none⟩ = some (.int .i64 o.val.num) := Go.Joins.cell_of_block HBK5.out 3
    have r3 : w5.cell? ⟨w.heap.size, 4, none⟩ = some (.string o.val.text) := Go.Joins.cell_of_block HBK5.out 4
    have r4 : w5.cell? ⟨w.heap.size, 5, none⟩ = some (.slice VA o.val.items.length vc) := Go.Joins.cell_of_block HBK5.out 5
    have r5 : w5.cell? ⟨w.heap.size, 6, none⟩ = some (.slice VA' o.val.names.length vc') := Go.Joins.cell_of_block HBK5.out 6
    have r6 : w5.cell? ⟨w.heap.size, 7, none⟩ = some (.slice TA o.to.length tc) := Go.Joins.cell_of_block HBK5.out 7
    have hL5 : Hid ((l ++ [1] ++ pathC o.path).length ≤ 140737480000000) := Lib.hid (by
      have h1 := (grp_length o.path.length).1
      have h2 := flat_small HPP.out.1.2
      have h3 := HPP.out.1.1
      have h4 := HL.out
      unfold pathC
      simp only [List.length_append, List.length_cons, List.length_nil]
      omega)
    have HC6 := Lib.hid (putv_any S o.val _ B v5 (l ++ [1] ++ pathC o.path) w5 (fun b hb => Nat.lt_of_lt_of_le (HSB.out b hb) (Nat.le_trans HB.out HX5.out.2.1.size)) (HIN.out w5 HX5.out.2.1).1 HD.out.1 HD.out.2 HX5.out.1 (Nat.le_trans HB.out HX5.out.2.1.size) (by have := hL5.out; omega))
    go_wp2_with fail
    refine HC6.out.mono ?_
    rintro e w6 ⟨v6, rfl, hv6, hb6, hk6⟩
    have hfin : codeO o = [1] ++ pathC o.path ++ encO o.val := by unfold codeO; rw [HKE.out]; simp
    have HX6 : Hid (OwnB w6 B v6 (l ++ codeO o) ∧ Below B w w6 ∧ K8 w w6) := Lib.hid ⟨by rw [hfin, ← List.append_assoc, ← List.append_assoc]; exact hv6, HX5.out.2.1.trans hb6, HX5.out.2.2.trans hk6⟩
    clear hfin hv6 hb6 hk6
    go_wp2_with fail
    go_ret
    exact ⟨_, rfl, HX6.out⟩
  · have HKE := Lib.hid hkk
    have hbk := HBK.out
    rw [hkk] at hbk hw1 ⊢
    clear hkk
    have HBKK := Lib.hid hbk
    go_wp2_with fail
    first | rw [← hw1] | skip
    clear hw1
    have q0 := cell_k8 (i := 0) (show w1.drew.heap[w.heap.size]? = _ from HBKK.out) (by decide) rfl
    have q1 := cell_k8 (i := 1) (show w1.drew.heap[w.heap.size]? = _ from HBKK.out) (by decide) rfl
    refine wp_region_OT K8 (fun w => Lib.OthersKept.refl _ _ _) (fun a b c h k => h.trans k) [] (.pure [0, 1, 2, 3, 6, 7] (.step 4 (.step 5 (.step 8 (.free [9] (.tail [])))))) (by kernel_rfl) (by kernel_rfl) (fun _ d _ _ _ h => by cases d <;> exact h) ?_
    generalize hw2 : w1.drew = w2 at *
    have HW2 : Hid (Below w.heap.size w w2 ∧ OwnB w2 B (.slice Av m cv) l ∧ K8 w w2 ∧ w.heap.size < w2.heap.size) := Lib.hid (by
      rw [← hw2]
      exact ⟨HB1.out.drew, HO1.out, (k8_below HB1.out).drew, (Array.getElem?_eq_some_iff.1 HBKK.out).1⟩)
    have HBK2 := Lib.hid ((show w2.heap[w.heap.size]? = w1.heap[w.heap.size]? from by rw [← hw2]; rfl).trans HBKK.out)
    clear hw2 hbk
    refine ot_pure ?_
    simp only [atNats, List.filterMap_cons, List.filterMap_nil, List.getElem?_toArray, List.getElem?_cons_succ, List.getElem?_cons_zero]
    show wpQuiet _ _ _ _ [_, _, _, _, _, _] _
    try simp only [List.getElem_toArray, List.getElem_cons_succ, List.getElem_cons_zero, Act.put, List.setIfInBounds_toArray, List.set_cons_succ, List.set_cons_zero] at *
    repeat (go_big_quiet_step (fail))
    refine wpQuiet_nil ?_
    clear q0 q1
    refine ot_step rfl (fun K hK => ?_)
    go_simp
    refine hK _ _ (.inr ((Lib.OthersKept.refl _ _ _).alloc _)) ?_
    clear hK K
    have hml : m ≤ 140737470000000 := by rw [HM.out]; exact HL.out
    have hB2 : B ≤ w2.heap.size := Nat.le_trans HB.out HW2.out.1.size
    have HOA : Hid (∀ X : Obj, OwnB (w2.alloc X) B (.slice Av m cv) l) := Lib.hid fun X => HW2.out.2.1.below ((Below.refl _ _).alloc (Nat.le_refl _) _)
    have hrow : ∀ X : Obj, (w2.alloc X).ownsRow B 5 1 (.slice Av m cv) m (bcells l) := fun X => by have h9 := HOA.out X; unfold OwnB at h9; rw [← HM.out] at h9; exact h9
    refine ot_step rfl (fun K hK => ?_)
    refine wp_append_moved _ _ _ 39 rfl B 5 i0 (.int .u8 0) 1 1 Try.underlying39 hi hz0 hz1 hz2 rfl (by decide) _ m (bcells l) rfl (hrow _) ⟨w2.heap.size, 0, none⟩ 1 1 [.int .u8 2] rfl rfl (cell_one_new _ _ _) (by simp [Value.oneCell']) (by unfold maxLen; omega) (by omega) (by simp; omega) ?_
    intro v4 w4 hv4 hg4 hwh4
    have hk5 : K8 (w2.alloc (.cells #[.int .u8 2] 5)) w4 := k8_grown (HOA.out _) hg4
    refine hK _ _ (.inr hk5) ?_
    clear hK K
    have HX4 : Hid (OwnB w4 B v4 (l ++ [2]) ∧ Below B w w4 ∧ K8 w w4) := Lib.hid ⟨by unfold OwnB; rw [List.length_append, ← HM.out, show bcells (l ++ [2]) = bcells l ++ [.int .u8 2] from by unfold bcells; rw [List.map_append]; rfl]; exact hv4, below_own ((HW2.out.1.mono HB.out).alloc hB2 _) (HOA.out _) (by simp; omega) hg4, (HW2.out.2.2.1.alloc _).trans hk5⟩
    have HBK4 := Lib.hid (box_k8 (w := w2.alloc (.cells #[.int .u8 2] 5)) ((Below.heap_alloc w2 _ _ HW2.out.2.2.2).trans HBK2.out) hk5)
    have HC := Lib.hid (pputpath_any S PA pc o.path B v4 (l ++ [2]) w4 HSB.out (HIN.out w4 HX4.out.2.1).2.1 HPP.out.1 HX4.out.1 (Nat.le_trans HB.out HX4.out.2.1.size) (by have := HM.out; simp; omega))
    clear hv4 hg4 hwh4 hrow hk5 hB2
    refine ot_step rfl (fun K hK => ?_)
    go_simp
    refine HC.out.mono ?_
    rintro e w5 ⟨v5, rfl, hv5, hb5, hk5⟩
    go_simp
    refine hK _ _ (.inr hk5) ?_
    clear hK K
    have HX5 : Hid (OwnB w5 B v5 (l ++ [2] ++ pathC o.path) ∧ Below B w w5 ∧ K8 w w5) := Lib.hid ⟨hv5, HX4.out.2.1.trans hb5, HX4.out.2.2.trans hk5⟩
    have HBK5 := Lib.hid (box_k8 HBK4.out hk5)
    refine ot_free ?_
    simp only [atNats, List.filterMap_cons, List.filterMap_nil, List.getElem?_toArray, List.getElem?_cons_succ, List.getElem?_cons_zero]
    show wpQuiet _ _ _ _ [_] _
    try simp only [List.getElem_toArray, List.getElem_cons_succ, List.getElem_cons_zero, Act.put, List.setIfInBounds_toArray, List.set_cons_succ, List.set_cons_zero] at *
    repeat (go_big_quiet_step (fail))
    refine wpQuiet_nil ?_
    refine ot_end ?_
    have r0 : w5.cell? ⟨w.heap.size, 0, none⟩ = some (.int .i64 2) := Go.Joins.cell_of_block HBK5.out 0
    have r1 : w5.cell? ⟨w.heap.size, 2, none⟩ = some (.int .i64 o.val.kind) := Go.Joins.cell_of_block HBK5.out 2
    have r2 : w5.cell? ⟨w.heap.size, 3, none⟩ = some (.int .i64 o.val.num) := Go.Joins.cell_of_block HBK5.out 3
    have r3 : w5.cell? ⟨w.heap.size, 4, none⟩ = some (.string o.val.text) := Go.Joins.cell_of_block HBK5.out 4
    have r4 : w5.cell? ⟨w.heap.size, 5, none⟩ = some (.slice VA o.val.items.length vc) := Go.Joins.cell_of_block HBK5.out 5
    have r5 : w5.cell? ⟨w.heap.size, 6, none⟩ = some (.slice VA' o.val.names.length vc') := Go.Joins.cell_of_block HBK5.out 6
    have r6 : w5.cell? ⟨w.heap.size, 7, none⟩ = some (.slice TA o.to.length tc) := Go.Joins.cell_of_block HBK5.out 7
    have hL5 : Hid ((l ++ [2] ++ pathC o.path).length ≤ 140737480000000) := Lib.hid (by
      have h1 := (grp_length o.path.length).1
      have h2 := flat_small HPP.out.1.2
      have h3 := HPP.out.1.1
      have h4 := HL.out
      unfold pathC
      simp only [List.length_append, List.length_cons, List.length_nil]
      omega)
    go_wp2_with fail
    go_ret
    have hfin : codeO o = [2] ++ pathC o.path := by unfold codeO; rw [HKE.out]; simp
    rw [hfin, ← List.append_assoc]
    exact ⟨_, rfl, HX5.out⟩
  · have HKE := Lib.hid hkk
    have hbk := HBK.out
    rw [hkk] at hbk hw1 ⊢
    clear hkk
    have HBKK := Lib.hid hbk
    go_wp2_with fail
    first | rw [← hw1] | skip
    clear hw1
    have q0 := cell_k8 (i := 0) (show w1.drew.heap[w.heap.size]? = _ from HBKK.out) (by decide) rfl
    have q1 := cell_k8 (i := 1) (show w1.drew.heap[w.heap.size]? = _ from HBKK.out) (by decide) rfl
    refine wp_region_OT K8 (fun w => Lib.OthersKept.refl _ _ _) (fun a b c h k => h.trans k) [] (.pure [0, 1, 2, 3, 6, 7] (.step 4 (.step 5 (.step 8 (.free [9] (.tail [])))))) (by kernel_rfl) (by kernel_rfl) (fun _ d _ _ _ h => by cases d <;> exact h) ?_
    generalize hw2 : w1.drew = w2 at *
    have HW2 : Hid (Below w.heap.size w w2 ∧ OwnB w2 B (.slice Av m cv) l ∧ K8 w w2 ∧ w.heap.size < w2.heap.size) := Lib.hid (by
      rw [← hw2]
      exact ⟨HB1.out.drew, HO1.out, (k8_below HB1.out).drew, (Array.getElem?_eq_some_iff.1 HBKK.out).1⟩)
    have HBK2 := Lib.hid ((show w2.heap[w.heap.size]? = w1.heap[w.heap.size]? from by rw [← hw2]; rfl).trans HBKK.out)
    clear hw2 hbk
    refine ot_pure ?_
    simp only [atNats, List.filterMap_cons, List.filterMap_nil, List.getElem?_toArray, List.getElem?_cons_succ, List.getElem?_cons_zero]
    show wpQuiet _ _ _ _ [_, _, _, _, _, _] _
    try simp only [List.getElem_toArray, List.getElem_cons_succ, List.getElem_cons_zero, Act.put, List.setIfInBounds_toArray, List.set_cons_succ, List.set_cons_zero] at *
    repeat (go_big_quiet_step (fail))
    refine wpQuiet_nil ?_
    clear q0 q1
    refine ot_step rfl (fun K hK => ?_)
    go_simp
    refine hK _ _ (.inr ((Lib.OthersKept.refl _ _ _).alloc _)) ?_
    clear hK K
    have hml : m ≤ 140737470000000 := by rw [HM.out]; exact HL.out
    have hB2 : B ≤ w2.heap.size := Nat.le_trans HB.out HW2.out.1.size
    have HOA : Hid (∀ X : Obj, OwnB (w2.alloc X) B (.slice Av m cv) l) := Lib.hid fun X => HW2.out.2.1.below ((Below.refl _ _).alloc (Nat.le_refl _) _)
    have hrow : ∀ X : Obj, (w2.alloc X).ownsRow B 5 1 (.slice Av m cv) m (bcells l) := fun X => by have h9 := HOA.out X; unfold OwnB at h9; rw [← HM.out] at h9; exact h9
    refine ot_step rfl (fun K hK => ?_)
    refine wp_append_moved _ _ _ 39 rfl B 5 i0 (.int .u8 0) 1 1 Try.underlying39 hi hz0 hz1 hz2 rfl (by decide) _ m (bcells l) rfl (hrow _) ⟨w2.heap.size, 0, none⟩ 1 1 [.int .u8 3] rfl rfl (cell_one_new _ _ _) (by simp [Value.oneCell']) (by unfold maxLen; omega) (by omega) (by simp; omega) ?_
    intro v4 w4 hv4 hg4 hwh4
    have hk5 : K8 (w2.alloc (.cells #[.int .u8 3] 5)) w4 := k8_grown (HOA.out _) hg4
    refine hK _ _ (.inr hk5) ?_
    clear hK K
    have HX4 : Hid (OwnB w4 B v4 (l ++ [3]) ∧ Below B w w4 ∧ K8 w w4) := Lib.hid ⟨by unfold OwnB; rw [List.length_append, ← HM.out, show bcells (l ++ [3]) = bcells l ++ [.int .u8 3] from by unfold bcells; rw [List.map_append]; rfl]; exact hv4, below_own ((HW2.out.1.mono HB.out).alloc hB2 _) (HOA.out _) (by simp; omega) hg4, (HW2.out.2.2.1.alloc _).trans hk5⟩
    have HBK4 := Lib.hid (box_k8 (w := w2.alloc (.cells #[.int .u8 3] 5)) ((Below.heap_alloc w2 _ _ HW2.out.2.2.2).trans HBK2.out) hk5)
    have HC := Lib.hid (pputpath_any S PA pc o.path B v4 (l ++ [3]) w4 HSB.out (HIN.out w4 HX4.out.2.1).2.1 HPP.out.1 HX4.out.1 (Nat.le_trans HB.out HX4.out.2.1.size) (by have := HM.out; simp; omega))
    clear hv4 hg4 hwh4 hrow hk5 hB2
    refine ot_step rfl (fun K hK => ?_)
    go_simp
    refine HC.out.mono ?_
    rintro e w5 ⟨v5, rfl, hv5, hb5, hk5⟩
    go_simp
    refine hK _ _ (.inr hk5) ?_
    clear hK K
    have HX5 : Hid (OwnB w5 B v5 (l ++ [3] ++ pathC o.path) ∧ Below B w w5 ∧ K8 w w5) := Lib.hid ⟨hv5, HX4.out.2.1.trans hb5, HX4.out.2.2.trans hk5⟩
    have HBK5 := Lib.hid (box_k8 HBK4.out hk5)
    refine ot_free ?_
    simp only [atNats, List.filterMap_cons, List.filterMap_nil, List.getElem?_toArray, List.getElem?_cons_succ, List.getElem?_cons_zero]
    show wpQuiet _ _ _ _ [_] _
    try simp only [List.getElem_toArray, List.getElem_cons_succ, List.getElem_cons_zero, Act.put, List.setIfInBounds_toArray, List.set_cons_succ, List.set_cons_zero] at *
    repeat (go_big_quiet_step (fail))
    refine wpQuiet_nil ?_
    refine ot_end ?_
    have r0 : w5.cell? ⟨w.heap.size, 0, none⟩ = some (.int .i64 3) := Go.Joins.cell_of_block HBK5.out 0
    have r1 : w5.cell? ⟨w.heap.size, 2, none⟩ = some (.int .i64 o.val.kind) := Go.Joins.cell_of_block HBK5.out 2
    have r2 : w5.cell? ⟨w.heap.size, 3, none⟩ = some (.int .i64 o.val.num) := Go.Joins.cell_of_block HBK5.out 3
    have r3 : w5.cell? ⟨w.heap.size, 4, none⟩ = some (.string o.val.text) := Go.Joins.cell_of_block HBK5.out 4
    have r4 : w5.cell? ⟨w.heap.size, 5, none⟩ = some (.slice VA o.val.items.length vc) := Go.Joins.cell_of_block HBK5.out 5
    have r5 : w5.cell? ⟨w.heap.size, 6, none⟩ = some (.slice VA' o.val.names.length vc') := Go.Joins.cell_of_block HBK5.out 6
    have r6 : w5.cell? ⟨w.heap.size, 7, none⟩ = some (.slice TA o.to.length tc) := Go.Joins.cell_of_block HBK5.out 7
    have hL5 : Hid ((l ++ [3] ++ pathC o.path).length ≤ 140737480000000) := Lib.hid (by
      have h1 := (grp_length o.path.length).1
      have h2 := flat_small HPP.out.1.2
      have h3 := HPP.out.1.1
      have h4 := HL.out
      unfold pathC
      simp only [List.length_append, List.length_cons, List.length_nil]
      omega)
    have HC6 := Lib.hid (putv_any S o.val _ B v5 (l ++ [3] ++ pathC o.path) w5 (fun b hb => Nat.lt_of_lt_of_le (HSB.out b hb) (Nat.le_trans HB.out HX5.out.2.1.size)) (HIN.out w5 HX5.out.2.1).1 HD.out.1 HD.out.2 HX5.out.1 (Nat.le_trans HB.out HX5.out.2.1.size) (by have := hL5.out; omega))
    go_wp2_with fail
    refine HC6.out.mono ?_
    rintro e w6 ⟨v6, rfl, hv6, hb6, hk6⟩
    have hfin : codeO o = [3] ++ pathC o.path ++ encO o.val := by unfold codeO; rw [HKE.out]; simp
    have HX6 : Hid (OwnB w6 B v6 (l ++ codeO o) ∧ Below B w w6 ∧ K8 w w6) := Lib.hid ⟨by rw [hfin, ← List.append_assoc, ← List.append_assoc]; exact hv6, HX5.out.2.1.trans hb6, HX5.out.2.2.trans hk6⟩
    clear hfin hv6 hb6 hk6
    go_wp2_with fail
    go_ret
    exact ⟨_, rfl, HX6.out⟩
  · have HKE := Lib.hid hkk
    have hbk := HBK.out
    rw [hkk] at hbk hw1 ⊢
    clear hkk
    have HBKK := Lib.hid hbk
    go_wp2_with fail
    first | rw [← hw1] | skip
    clear hw1
    have q0 := cell_k8 (i := 0) (show w1.drew.heap[w.heap.size]? = _ from HBKK.out) (by decide) rfl
    have q1 := cell_k8 (i := 1) (show w1.drew.heap[w.heap.size]? = _ from HBKK.out) (by decide) rfl
    refine wp_region_OT K8 (fun w => Lib.OthersKept.refl _ _ _) (fun a b c h k => h.trans k) [] (.pure [0, 1, 2, 3, 6, 7] (.step 4 (.step 5 (.step 8 (.free [9] (.tail [])))))) (by kernel_rfl) (by kernel_rfl) (fun _ d _ _ _ h => by cases d <;> exact h) ?_
    generalize hw2 : w1.drew = w2 at *
    have HW2 : Hid (Below w.heap.size w w2 ∧ OwnB w2 B (.slice Av m cv) l ∧ K8 w w2 ∧ w.heap.size < w2.heap.size) := Lib.hid (by
      rw [← hw2]
      exact ⟨HB1.out.drew, HO1.out, (k8_below HB1.out).drew, (Array.getElem?_eq_some_iff.1 HBKK.out).1⟩)
    have HBK2 := Lib.hid ((show w2.heap[w.heap.size]? = w1.heap[w.heap.size]? from by rw [← hw2]; rfl).trans HBKK.out)
    clear hw2 hbk
    refine ot_pure ?_
    simp only [atNats, List.filterMap_cons, List.filterMap_nil, List.getElem?_toArray, List.getElem?_cons_succ, List.getElem?_cons_zero]
    show wpQuiet _ _ _ _ [_, _, _, _, _, _] _
    try simp only [List.getElem_toArray, List.getElem_cons_succ, List.getElem_cons_zero, Act.put, List.setIfInBounds_toArray, List.set_cons_succ, List.set_cons_zero] at *
    repeat (go_big_quiet_step (fail))
    refine wpQuiet_nil ?_
    clear q0 q1
    refine ot_step rfl (fun K hK => ?_)
    go_simp
    refine hK _ _ (.inr ((Lib.OthersKept.refl _ _ _).alloc _)) ?_
    clear hK K
    have hml : m ≤ 140737470000000 := by rw [HM.out]; exact HL.out
    have hB2 : B ≤ w2.heap.size := Nat.le_trans HB.out HW2.out.1.size
    have HOA : Hid (∀ X : Obj, OwnB (w2.alloc X) B (.slice Av m cv) l) := Lib.hid fun X => HW2.out.2.1.below ((Below.refl _ _).alloc (Nat.le_refl _) _)
    have hrow : ∀ X : Obj, (w2.alloc X).ownsRow B 5 1 (.slice Av m cv) m (bcells l) := fun X => by have h9 := HOA.out X; unfold OwnB at h9; rw [← HM.out] at h9; exact h9
    refine ot_step rfl (fun K hK => ?_)
    refine wp_append_moved _ _ _ 39 rfl B 5 i0 (.int .u8 0) 1 1 Try.underlying39 hi hz0 hz1 hz2 rfl (by decide) _ m (bcells l) rfl (hrow _) ⟨w2.heap.size, 0, none⟩ 1 1 [.int .u8 4] rfl rfl (cell_one_new _ _ _) (by simp [Value.oneCell']) (by unfold maxLen; omega) (by omega) (by simp; omega) ?_
    intro v4 w4 hv4 hg4 hwh4
    have hk5 : K8 (w2.alloc (.cells #[.int .u8 4] 5)) w4 := k8_grown (HOA.out _) hg4
    refine hK _ _ (.inr hk5) ?_
    clear hK K
    have HX4 : Hid (OwnB w4 B v4 (l ++ [4]) ∧ Below B w w4 ∧ K8 w w4) := Lib.hid ⟨by unfold OwnB; rw [List.length_append, ← HM.out, show bcells (l ++ [4]) = bcells l ++ [.int .u8 4] from by unfold bcells; rw [List.map_append]; rfl]; exact hv4, below_own ((HW2.out.1.mono HB.out).alloc hB2 _) (HOA.out _) (by simp; omega) hg4, (HW2.out.2.2.1.alloc _).trans hk5⟩
    have HBK4 := Lib.hid (box_k8 (w := w2.alloc (.cells #[.int .u8 4] 5)) ((Below.heap_alloc w2 _ _ HW2.out.2.2.2).trans HBK2.out) hk5)
    have HC := Lib.hid (pputpath_any S PA pc o.path B v4 (l ++ [4]) w4 HSB.out (HIN.out w4 HX4.out.2.1).2.1 HPP.out.1 HX4.out.1 (Nat.le_trans HB.out HX4.out.2.1.size) (by have := HM.out; simp; omega))
    clear hv4 hg4 hwh4 hrow hk5 hB2
    refine ot_step rfl (fun K hK => ?_)
    go_simp
    refine HC.out.mono ?_
    rintro e w5 ⟨v5, rfl, hv5, hb5, hk5⟩
    go_simp
    refine hK _ _ (.inr hk5) ?_
    clear hK K
    have HX5 : Hid (OwnB w5 B v5 (l ++ [4] ++ pathC o.path) ∧ Below B w w5 ∧ K8 w w5) := Lib.hid ⟨hv5, HX4.out.2.1.trans hb5, HX4.out.2.2.trans hk5⟩
    have HBK5 := Lib.hid (box_k8 HBK4.out hk5)
    refine ot_free ?_
    simp only [atNats, List.filterMap_cons, List.filterMap_nil, List.getElem?_toArray, List.getElem?_cons_succ, List.getElem?_cons_zero]
    show wpQuiet _ _ _ _ [_] _
    try simp only [List.getElem_toArray, List.getElem_cons_succ, List.getElem_cons_zero, Act.put, List.setIfInBounds_toArray, List.set_cons_succ, List.set_cons_zero] at *
    repeat (go_big_quiet_step (fail))
    refine wpQuiet_nil ?_
    refine ot_end ?_
    have r0 : w5.cell? ⟨w.heap.size, 0, none⟩ = some (.int .i64 4) := Go.Joins.cell_of_block HBK5.out 0
    have r1 : w5.cell? ⟨w.heap.size, 2, none⟩ = some (.int .i64 o.val.kind) := Go.Joins.cell_of_block HBK5.out 2
    have r2 : w5.cell? ⟨w.heap.size, 3, none⟩ = some (.int .i64 o.val.num) := Go.Joins.cell_of_block HBK5.out 3
    have r3 : w5.cell? ⟨w.heap.size, 4, none⟩ = some (.string o.val.text) := Go.Joins.cell_of_block HBK5.out 4
    have r4 : w5.cell? ⟨w.heap.size, 5, none⟩ = some (.slice VA o.val.items.length vc) := Go.Joins.cell_of_block HBK5.out 5
    have r5 : w5.cell? ⟨w.heap.size, 6, none⟩ = some (.slice VA' o.val.names.length vc') := Go.Joins.cell_of_block HBK5.out 6
    have r6 : w5.cell? ⟨w.heap.size, 7, none⟩ = some (.slice TA o.to.length tc) := Go.Joins.cell_of_block HBK5.out 7
    have hL5 : Hid ((l ++ [4] ++ pathC o.path).length ≤ 140737480000000) := Lib.hid (by
      have h1 := (grp_length o.path.length).1
      have h2 := flat_small HPP.out.1.2
      have h3 := HPP.out.1.1
      have h4 := HL.out
      unfold pathC
      simp only [List.length_append, List.length_cons, List.length_nil]
      omega)
    have HC6 := Lib.hid (putv_any S o.val _ B v5 (l ++ [4] ++ pathC o.path) w5 (fun b hb => Nat.lt_of_lt_of_le (HSB.out b hb) (Nat.le_trans HB.out HX5.out.2.1.size)) (HIN.out w5 HX5.out.2.1).1 HD.out.1 HD.out.2 HX5.out.1 (Nat.le_trans HB.out HX5.out.2.1.size) (by have := hL5.out; omega))
    go_wp2_with fail
    refine HC6.out.mono ?_
    rintro e w6 ⟨v6, rfl, hv6, hb6, hk6⟩
    have hfin : codeO o = [4] ++ pathC o.path ++ encO o.val := by unfold codeO; rw [HKE.out]; simp
    have HX6 : Hid (OwnB w6 B v6 (l ++ codeO o) ∧ Below B w w6 ∧ K8 w w6) := Lib.hid ⟨by rw [hfin, ← List.append_assoc, ← List.append_assoc]; exact hv6, HX5.out.2.1.trans hb6, HX5.out.2.2.trans hk6⟩
    clear hfin hv6 hb6 hk6
    go_wp2_with fail
    go_ret
    exact ⟨_, rfl, HX6.out⟩
  · have HKE := Lib.hid hkk
    have hbk := HBK.out
    rw [hkk] at hbk hw1 ⊢
    clear hkk
    have HBKK := Lib.hid hbk
    go_wp2_with fail
    first | rw [← hw1] | skip
    clear hw1
    have q0 := cell_k8 (i := 0) (show w1.drew.heap[w.heap.size]? = _ from HBKK.out) (by decide) rfl
    have q1 := cell_k8 (i := 1) (show w1.drew.heap[w.heap.size]? = _ from HBKK.out) (by decide) rfl
    refine wp_region_OT K8 (fun w => Lib.OthersKept.refl _ _ _) (fun a b c h k => h.trans k) [] (.pure [0, 1, 2, 3, 6, 7] (.step 4 (.step 5 (.step 8 (.free [9] (.tail [])))))) (by kernel_rfl) (by kernel_rfl) (fun _ d _ _ _ h => by cases d <;> exact h) ?_
    generalize hw2 : w1.drew = w2 at *
    have HW2 : Hid (Below w.heap.size w w2 ∧ OwnB w2 B (.slice Av m cv) l ∧ K8 w w2 ∧ w.heap.size < w2.heap.size) := Lib.hid (by
      rw [← hw2]
      exact ⟨HB1.out.drew, HO1.out, (k8_below HB1.out).drew, (Array.getElem?_eq_some_iff.1 HBKK.out).1⟩)
    have HBK2 := Lib.hid ((show w2.heap[w.heap.size]? = w1.heap[w.heap.size]? from by rw [← hw2]; rfl).trans HBKK.out)
    clear hw2 hbk
    refine ot_pure ?_
    simp only [atNats, List.filterMap_cons, List.filterMap_nil, List.getElem?_toArray, List.getElem?_cons_succ, List.getElem?_cons_zero]
    show wpQuiet _ _ _ _ [_, _, _, _, _, _] _
    try simp only [List.getElem_toArray, List.getElem_cons_succ, List.getElem_cons_zero, Act.put, List.setIfInBounds_toArray, List.set_cons_succ, List.set_cons_zero] at *
    repeat (go_big_quiet_step (fail))
    refine wpQuiet_nil ?_
    clear q0 q1
    refine ot_step rfl (fun K hK => ?_)
    go_simp
    refine hK _ _ (.inr ((Lib.OthersKept.refl _ _ _).alloc _)) ?_
    clear hK K
    have hml : m ≤ 140737470000000 := by rw [HM.out]; exact HL.out
    have hB2 : B ≤ w2.heap.size := Nat.le_trans HB.out HW2.out.1.size
    have HOA : Hid (∀ X : Obj, OwnB (w2.alloc X) B (.slice Av m cv) l) := Lib.hid fun X => HW2.out.2.1.below ((Below.refl _ _).alloc (Nat.le_refl _) _)
    have hrow : ∀ X : Obj, (w2.alloc X).ownsRow B 5 1 (.slice Av m cv) m (bcells l) := fun X => by have h9 := HOA.out X; unfold OwnB at h9; rw [← HM.out] at h9; exact h9
    refine ot_step rfl (fun K hK => ?_)
    refine wp_append_moved _ _ _ 39 rfl B 5 i0 (.int .u8 0) 1 1 Try.underlying39 hi hz0 hz1 hz2 rfl (by decide) _ m (bcells l) rfl (hrow _) ⟨w2.heap.size, 0, none⟩ 1 1 [.int .u8 5] rfl rfl (cell_one_new _ _ _) (by simp [Value.oneCell']) (by unfold maxLen; omega) (by omega) (by simp; omega) ?_
    intro v4 w4 hv4 hg4 hwh4
    have hk5 : K8 (w2.alloc (.cells #[.int .u8 5] 5)) w4 := k8_grown (HOA.out _) hg4
    refine hK _ _ (.inr hk5) ?_
    clear hK K
    have HX4 : Hid (OwnB w4 B v4 (l ++ [5]) ∧ Below B w w4 ∧ K8 w w4) := Lib.hid ⟨by unfold OwnB; rw [List.length_append, ← HM.out, show bcells (l ++ [5]) = bcells l ++ [.int .u8 5] from by unfold bcells; rw [List.map_append]; rfl]; exact hv4, below_own ((HW2.out.1.mono HB.out).alloc hB2 _) (HOA.out _) (by simp; omega) hg4, (HW2.out.2.2.1.alloc _).trans hk5⟩
    have HBK4 := Lib.hid (box_k8 (w := w2.alloc (.cells #[.int .u8 5] 5)) ((Below.heap_alloc w2 _ _ HW2.out.2.2.2).trans HBK2.out) hk5)
    have HC := Lib.hid (pputpath_any S PA pc o.path B v4 (l ++ [5]) w4 HSB.out (HIN.out w4 HX4.out.2.1).2.1 HPP.out.1 HX4.out.1 (Nat.le_trans HB.out HX4.out.2.1.size) (by have := HM.out; simp; omega))
    clear hv4 hg4 hwh4 hrow hk5 hB2
    refine ot_step rfl (fun K hK => ?_)
    go_simp
    refine HC.out.mono ?_
    rintro e w5 ⟨v5, rfl, hv5, hb5, hk5⟩
    go_simp
    refine hK _ _ (.inr hk5) ?_
    clear hK K
    have HX5 : Hid (OwnB w5 B v5 (l ++ [5] ++ pathC o.path) ∧ Below B w w5 ∧ K8 w w5) := Lib.hid ⟨hv5, HX4.out.2.1.trans hb5, HX4.out.2.2.trans hk5⟩
    have HBK5 := Lib.hid (box_k8 HBK4.out hk5)
    refine ot_free ?_
    simp only [atNats, List.filterMap_cons, List.filterMap_nil, List.getElem?_toArray, List.getElem?_cons_succ, List.getElem?_cons_zero]
    show wpQuiet _ _ _ _ [_] _
    try simp only [List.getElem_toArray, List.getElem_cons_succ, List.getElem_cons_zero, Act.put, List.setIfInBounds_toArray, List.set_cons_succ, List.set_cons_zero] at *
    repeat (go_big_quiet_step (fail))
    refine wpQuiet_nil ?_
    refine ot_end ?_
    have r0 : w5.cell? ⟨w.heap.size, 0, none⟩ = some (.int .i64 5) := Go.Joins.cell_of_block HBK5.out 0
    have r1 : w5.cell? ⟨w.heap.size, 2, none⟩ = some (.int .i64 o.val.kind) := Go.Joins.cell_of_block HBK5.out 2
    have r2 : w5.cell? ⟨w.heap.size, 3, none⟩ = some (.int .i64 o.val.num) := Go.Joins.cell_of_block HBK5.out 3
    have r3 : w5.cell? ⟨w.heap.size, 4, none⟩ = some (.string o.val.text) := Go.Joins.cell_of_block HBK5.out 4
    have r4 : w5.cell? ⟨w.heap.size, 5, none⟩ = some (.slice VA o.val.items.length vc) := Go.Joins.cell_of_block HBK5.out 5
    have r5 : w5.cell? ⟨w.heap.size, 6, none⟩ = some (.slice VA' o.val.names.length vc') := Go.Joins.cell_of_block HBK5.out 6
    have r6 : w5.cell? ⟨w.heap.size, 7, none⟩ = some (.slice TA o.to.length tc) := Go.Joins.cell_of_block HBK5.out 7
    have hL5 : Hid ((l ++ [5] ++ pathC o.path).length ≤ 140737480000000) := Lib.hid (by
      have h1 := (grp_length o.path.length).1
      have h2 := flat_small HPP.out.1.2
      have h3 := HPP.out.1.1
      have h4 := HL.out
      unfold pathC
      simp only [List.length_append, List.length_cons, List.length_nil]
      omega)
    have HC6 := Lib.hid (putv_any S o.val _ B v5 (l ++ [5] ++ pathC o.path) w5 (fun b hb => Nat.lt_of_lt_of_le (HSB.out b hb) (Nat.le_trans HB.out HX5.out.2.1.size)) (HIN.out w5 HX5.out.2.1).1 HD.out.1 HD.out.2 HX5.out.1 (Nat.le_trans HB.out HX5.out.2.1.size) (by have := hL5.out; omega))
    go_wp2_with fail
    refine HC6.out.mono ?_
    rintro e w6 ⟨v6, rfl, hv6, hb6, hk6⟩
    have hfin : codeO o = [5] ++ pathC o.path ++ encO o.val := by unfold codeO; rw [HKE.out]; simp
    have HX6 : Hid (OwnB w6 B v6 (l ++ codeO o) ∧ Below B w w6 ∧ K8 w w6) := Lib.hid ⟨by rw [hfin, ← List.append_assoc, ← List.append_assoc]; exact hv6, HX5.out.2.1.trans hb6, HX5.out.2.2.trans hk6⟩
    clear hfin hv6 hb6 hk6
    go_wp2_with fail
    go_ret
    exact ⟨_, rfl, HX6.out⟩
  · have HKE := Lib.hid hkk
    have hbk := HBK.out
    rw [hkk] at hbk hw1 ⊢
    clear hkk
    have HBKK := Lib.hid hbk
    go_wp2_with fail
    first | rw [← hw1] | skip
    clear hw1
    have q0 := cell_k8 (i := 0) (show w1.drew.heap[w.heap.size]? = _ from HBKK.out) (by decide) rfl
    have q1 := cell_k8 (i := 1) (show w1.drew.heap[w.heap.size]? = _ from HBKK.out) (by decide) rfl
    refine wp_region_OT K8 (fun w => Lib.OthersKept.refl _ _ _) (fun a b c h k => h.trans k) [] (.pure [0, 1, 2, 3, 6, 7] (.step 4 (.step 5 (.step 8 (.free [9] (.tail [])))))) (by kernel_rfl) (by kernel_rfl) (fun _ d _ _ _ h => by cases d <;> exact h) ?_
    generalize hw2 : w1.drew = w2 at *
    have HW2 : Hid (Below w.heap.size w w2 ∧ OwnB w2 B (.slice Av m cv) l ∧ K8 w w2 ∧ w.heap.size < w2.heap.size) := Lib.hid (by
      rw [← hw2]
      exact ⟨HB1.out.drew, HO1.out, (k8_below HB1.out).drew, (Array.getElem?_eq_some_iff.1 HBKK.out).1⟩)
    have HBK2 := Lib.hid ((show w2.heap[w.heap.size]? = w1.heap[w.heap.size]? from by rw [← hw2]; rfl).trans HBKK.out)
    clear hw2 hbk
    refine ot_pure ?_
    simp only [atNats, List.filterMap_cons, List.filterMap_nil, List.getElem?_toArray, List.getElem?_cons_succ, List.getElem?_cons_zero]
    show wpQuiet _ _ _ _ [_, _, _, _, _, _] _
    try simp only [List.getElem_toArray, List.getElem_cons_succ, List.getElem_cons_zero, Act.put, List.setIfInBounds_toArray, List.set_cons_succ, List.set_cons_zero] at *
    repeat (go_big_quiet_step (fail))
    refine wpQuiet_nil ?_
    clear q0 q1
    refine ot_step rfl (fun K hK => ?_)
    go_simp
    refine hK _ _ (.inr ((Lib.OthersKept.refl _ _ _).alloc _)) ?_
    clear hK K
    have hml : m ≤ 140737470000000 := by rw [HM.out]; exact HL.out
    have hB2 : B ≤ w2.heap.size := Nat.le_trans HB.out HW2.out.1.size
    have HOA : Hid (∀ X : Obj, OwnB (w2.alloc X) B (.slice Av m cv) l) := Lib.hid fun X => HW2.out.2.1.below ((Below.refl _ _).alloc (Nat.le_refl _) _)
    have hrow : ∀ X : Obj, (w2.alloc X).ownsRow B 5 1 (.slice Av m cv) m (bcells l) := fun X => by have h9 := HOA.out X; unfold OwnB at h9; rw [← HM.out] at h9; exact h9
    refine ot_step rfl (fun K hK => ?_)
    refine wp_append_moved _ _ _ 39 rfl B 5 i0 (.int .u8 0) 1 1 Try.underlying39 hi hz0 hz1 hz2 rfl (by decide) _ m (bcells l) rfl (hrow _) ⟨w2.heap.size, 0, none⟩ 1 1 [.int .u8 6] rfl rfl (cell_one_new _ _ _) (by simp [Value.oneCell']) (by unfold maxLen; omega) (by omega) (by simp; omega) ?_
    intro v4 w4 hv4 hg4 hwh4
    have hk5 : K8 (w2.alloc (.cells #[.int .u8 6] 5)) w4 := k8_grown (HOA.out _) hg4
    refine hK _ _ (.inr hk5) ?_
    clear hK K
    have HX4 : Hid (OwnB w4 B v4 (l ++ [6]) ∧ Below B w w4 ∧ K8 w w4) := Lib.hid ⟨by unfold OwnB; rw [List.length_append, ← HM.out, show bcells (l ++ [6]) = bcells l ++ [.int .u8 6] from by unfold bcells; rw [List.map_append]; rfl]; exact hv4, below_own ((HW2.out.1.mono HB.out).alloc hB2 _) (HOA.out _) (by simp; omega) hg4, (HW2.out.2.2.1.alloc _).trans hk5⟩
    have HBK4 := Lib.hid (box_k8 (w := w2.alloc (.cells #[.int .u8 6] 5)) ((Below.heap_alloc w2 _ _ HW2.out.2.2.2).trans HBK2.out) hk5)
    have HC := Lib.hid (pputpath_any S PA pc o.path B v4 (l ++ [6]) w4 HSB.out (HIN.out w4 HX4.out.2.1).2.1 HPP.out.1 HX4.out.1 (Nat.le_trans HB.out HX4.out.2.1.size) (by have := HM.out; simp; omega))
    clear hv4 hg4 hwh4 hrow hk5 hB2
    refine ot_step rfl (fun K hK => ?_)
    go_simp
    refine HC.out.mono ?_
    rintro e w5 ⟨v5, rfl, hv5, hb5, hk5⟩
    go_simp
    refine hK _ _ (.inr hk5) ?_
    clear hK K
    have HX5 : Hid (OwnB w5 B v5 (l ++ [6] ++ pathC o.path) ∧ Below B w w5 ∧ K8 w w5) := Lib.hid ⟨hv5, HX4.out.2.1.trans hb5, HX4.out.2.2.trans hk5⟩
    have HBK5 := Lib.hid (box_k8 HBK4.out hk5)
    refine ot_free ?_
    simp only [atNats, List.filterMap_cons, List.filterMap_nil, List.getElem?_toArray, List.getElem?_cons_succ, List.getElem?_cons_zero]
    show wpQuiet _ _ _ _ [_] _
    try simp only [List.getElem_toArray, List.getElem_cons_succ, List.getElem_cons_zero, Act.put, List.setIfInBounds_toArray, List.set_cons_succ, List.set_cons_zero] at *
    repeat (go_big_quiet_step (fail))
    refine wpQuiet_nil ?_
    refine ot_end ?_
    have r0 : w5.cell? ⟨w.heap.size, 0, none⟩ = some (.int .i64 6) := Go.Joins.cell_of_block HBK5.out 0
    have r1 : w5.cell? ⟨w.heap.size, 2, none⟩ = some (.int .i64 o.val.kind) := Go.Joins.cell_of_block HBK5.out 2
    have r2 : w5.cell? ⟨w.heap.size, 3, none⟩ = some (.int .i64 o.val.num) := Go.Joins.cell_of_block HBK5.out 3
    have r3 : w5.cell? ⟨w.heap.size, 4, none⟩ = some (.string o.val.text) := Go.Joins.cell_of_block HBK5.out 4
    have r4 : w5.cell? ⟨w.heap.size, 5, none⟩ = some (.slice VA o.val.items.length vc) := Go.Joins.cell_of_block HBK5.out 5
    have r5 : w5.cell? ⟨w.heap.size, 6, none⟩ = some (.slice VA' o.val.names.length vc') := Go.Joins.cell_of_block HBK5.out 6
    have r6 : w5.cell? ⟨w.heap.size, 7, none⟩ = some (.slice TA o.to.length tc) := Go.Joins.cell_of_block HBK5.out 7
    have hL5 : Hid ((l ++ [6] ++ pathC o.path).length ≤ 140737480000000) := Lib.hid (by
      have h1 := (grp_length o.path.length).1
      have h2 := flat_small HPP.out.1.2
      have h3 := HPP.out.1.1
      have h4 := HL.out
      unfold pathC
      simp only [List.length_append, List.length_cons, List.length_nil]
      omega)
    have HC6 := Lib.hid (pputpath_any S TA tc o.to B v5 (l ++ [6] ++ pathC o.path) w5 HSB.out (HIN.out w5 HX5.out.2.1).2.2 HPP.out.2 HX5.out.1 (Nat.le_trans HB.out HX5.out.2.1.size) hL5.out)
    go_wp2_with fail
    refine HC6.out.mono ?_
    rintro e w6 ⟨v6, rfl, hv6, hb6, hk6⟩
    have hfin : codeO o = [6] ++ pathC o.path ++ pathC o.to := by unfold codeO; rw [HKE.out]; simp
    have HX6 : Hid (OwnB w6 B v6 (l ++ codeO o) ∧ Below B w w6 ∧ K8 w w6) := Lib.hid ⟨by rw [hfin, ← List.append_assoc, ← List.append_assoc]; exact hv6, HX5.out.2.1.trans hb6, HX5.out.2.2.trans hk6⟩
    clear hfin hv6 hb6 hk6
    go_wp2_with fail
    go_ret
    exact ⟨_, rfl, HX6.out⟩
  · have HKE := Lib.hid hkk
    have hbk := HBK.out
    rw [hkk] at hbk hw1 ⊢
    clear hkk
    have HBKK := Lib.hid hbk
    go_wp2_with fail
    first | rw [← hw1] | skip
    clear hw1
    have q0 := cell_k8 (i := 0) (show w1.drew.heap[w.heap.size]? = _ from HBKK.out) (by decide) rfl
    have q1 := cell_k8 (i := 1) (show w1.drew.heap[w.heap.size]? = _ from HBKK.out) (by decide) rfl
    refine wp_region_OT K8 (fun w => Lib.OthersKept.refl _ _ _) (fun a b c h k => h.trans k) [] (.pure [0, 1, 2, 3, 6, 7] (.step 4 (.step 5 (.step 8 (.free [9] (.tail [])))))) (by kernel_rfl) (by kernel_rfl) (fun _ d _ _ _ h => by cases d <;> exact h) ?_
    generalize hw2 : w1.drew = w2 at *
    have HW2 : Hid (Below w.heap.size w w2 ∧ OwnB w2 B (.slice Av m cv) l ∧ K8 w w2 ∧ w.heap.size < w2.heap.size) := Lib.hid (by
      rw [← hw2]
      exact ⟨HB1.out.drew, HO1.out, (k8_below HB1.out).drew, (Array.getElem?_eq_some_iff.1 HBKK.out).1⟩)
    have HBK2 := Lib.hid ((show w2.heap[w.heap.size]? = w1.heap[w.heap.size]? from by rw [← hw2]; rfl).trans HBKK.out)
    clear hw2 hbk
    refine ot_pure ?_
    simp only [atNats, List.filterMap_cons, List.filterMap_nil, List.getElem?_toArray, List.getElem?_cons_succ, List.getElem?_cons_zero]
    show wpQuiet _ _ _ _ [_, _, _, _, _, _] _
    try simp only [List.getElem_toArray, List.getElem_cons_succ, List.getElem_cons_zero, Act.put, List.setIfInBounds_toArray, List.set_cons_succ, List.set_cons_zero] at *
    repeat (go_big_quiet_step (fail))
    refine wpQuiet_nil ?_
    clear q0 q1
    refine ot_step rfl (fun K hK => ?_)
    go_simp
    refine hK _ _ (.inr ((Lib.OthersKept.refl _ _ _).alloc _)) ?_
    clear hK K
    have hml : m ≤ 140737470000000 := by rw [HM.out]; exact HL.out
    have hB2 : B ≤ w2.heap.size := Nat.le_trans HB.out HW2.out.1.size
    have HOA : Hid (∀ X : Obj, OwnB (w2.alloc X) B (.slice Av m cv) l) := Lib.hid fun X => HW2.out.2.1.below ((Below.refl _ _).alloc (Nat.le_refl _) _)
    have hrow : ∀ X : Obj, (w2.alloc X).ownsRow B 5 1 (.slice Av m cv) m (bcells l) := fun X => by have h9 := HOA.out X; unfold OwnB at h9; rw [← HM.out] at h9; exact h9
    refine ot_step rfl (fun K hK => ?_)
    refine wp_append_moved _ _ _ 39 rfl B 5 i0 (.int .u8 0) 1 1 Try.underlying39 hi hz0 hz1 hz2 rfl (by decide) _ m (bcells l) rfl (hrow _) ⟨w2.heap.size, 0, none⟩ 1 1 [.int .u8 7] rfl rfl (cell_one_new _ _ _) (by simp [Value.oneCell']) (by unfold maxLen; omega) (by omega) (by simp; omega) ?_
    intro v4 w4 hv4 hg4 hwh4
    have hk5 : K8 (w2.alloc (.cells #[.int .u8 7] 5)) w4 := k8_grown (HOA.out _) hg4
    refine hK _ _ (.inr hk5) ?_
    clear hK K
    have HX4 : Hid (OwnB w4 B v4 (l ++ [7]) ∧ Below B w w4 ∧ K8 w w4) := Lib.hid ⟨by unfold OwnB; rw [List.length_append, ← HM.out, show bcells (l ++ [7]) = bcells l ++ [.int .u8 7] from by unfold bcells; rw [List.map_append]; rfl]; exact hv4, below_own ((HW2.out.1.mono HB.out).alloc hB2 _) (HOA.out _) (by simp; omega) hg4, (HW2.out.2.2.1.alloc _).trans hk5⟩
    have HBK4 := Lib.hid (box_k8 (w := w2.alloc (.cells #[.int .u8 7] 5)) ((Below.heap_alloc w2 _ _ HW2.out.2.2.2).trans HBK2.out) hk5)
    have HC := Lib.hid (pputpath_any S PA pc o.path B v4 (l ++ [7]) w4 HSB.out (HIN.out w4 HX4.out.2.1).2.1 HPP.out.1 HX4.out.1 (Nat.le_trans HB.out HX4.out.2.1.size) (by have := HM.out; simp; omega))
    clear hv4 hg4 hwh4 hrow hk5 hB2
    refine ot_step rfl (fun K hK => ?_)
    go_simp
    refine HC.out.mono ?_
    rintro e w5 ⟨v5, rfl, hv5, hb5, hk5⟩
    go_simp
    refine hK _ _ (.inr hk5) ?_
    clear hK K
    have HX5 : Hid (OwnB w5 B v5 (l ++ [7] ++ pathC o.path) ∧ Below B w w5 ∧ K8 w w5) := Lib.hid ⟨hv5, HX4.out.2.1.trans hb5, HX4.out.2.2.trans hk5⟩
    have HBK5 := Lib.hid (box_k8 HBK4.out hk5)
    refine ot_free ?_
    simp only [atNats, List.filterMap_cons, List.filterMap_nil, List.getElem?_toArray, List.getElem?_cons_succ, List.getElem?_cons_zero]
    show wpQuiet _ _ _ _ [_] _
    try simp only [List.getElem_toArray, List.getElem_cons_succ, List.getElem_cons_zero, Act.put, List.setIfInBounds_toArray, List.set_cons_succ, List.set_cons_zero] at *
    repeat (go_big_quiet_step (fail))
    refine wpQuiet_nil ?_
    refine ot_end ?_
    have r0 : w5.cell? ⟨w.heap.size, 0, none⟩ = some (.int .i64 7) := Go.Joins.cell_of_block HBK5.out 0
    have r1 : w5.cell? ⟨w.heap.size, 2, none⟩ = some (.int .i64 o.val.kind) := Go.Joins.cell_of_block HBK5.out 2
    have r2 : w5.cell? ⟨w.heap.size, 3, none⟩ = some (.int .i64 o.val.num) := Go.Joins.cell_of_block HBK5.out 3
    have r3 : w5.cell? ⟨w.heap.size, 4, none⟩ = some (.string o.val.text) := Go.Joins.cell_of_block HBK5.out 4
    have r4 : w5.cell? ⟨w.heap.size, 5, none⟩ = some (.slice VA o.val.items.length vc) := Go.Joins.cell_of_block HBK5.out 5
    have r5 : w5.cell? ⟨w.heap.size, 6, none⟩ = some (.slice VA' o.val.names.length vc') := Go.Joins.cell_of_block HBK5.out 6
    have r6 : w5.cell? ⟨w.heap.size, 7, none⟩ = some (.slice TA o.to.length tc) := Go.Joins.cell_of_block HBK5.out 7
    have hL5 : Hid ((l ++ [7] ++ pathC o.path).length ≤ 140737480000000) := Lib.hid (by
      have h1 := (grp_length o.path.length).1
      have h2 := flat_small HPP.out.1.2
      have h3 := HPP.out.1.1
      have h4 := HL.out
      unfold pathC
      simp only [List.length_append, List.length_cons, List.length_nil]
      omega)
    have HC6 := Lib.hid (putv_any S o.val _ B v5 (l ++ [7] ++ pathC o.path) w5 (fun b hb => Nat.lt_of_lt_of_le (HSB.out b hb) (Nat.le_trans HB.out HX5.out.2.1.size)) (HIN.out w5 HX5.out.2.1).1 HD.out.1 HD.out.2 HX5.out.1 (Nat.le_trans HB.out HX5.out.2.1.size) (by have := hL5.out; omega))
    go_wp2_with fail
    refine HC6.out.mono ?_
    rintro e w6 ⟨v6, rfl, hv6, hb6, hk6⟩
    have hfin : codeO o = [7] ++ pathC o.path ++ encO o.val := by unfold codeO; rw [HKE.out]; simp
    have HX6 : Hid (OwnB w6 B v6 (l ++ codeO o) ∧ Below B w w6 ∧ K8 w w6) := Lib.hid ⟨by rw [hfin, ← List.append_assoc, ← List.append_assoc]; exact hv6, HX5.out.2.1.trans hb6, HX5.out.2.2.trans hk6⟩
    clear hfin hv6 hb6 hk6
    go_wp2_with fail
    go_ret
    exact ⟨_, rfl, HX6.out⟩
  · have HKE := Lib.hid hkk
    have hbk := HBK.out
    rw [hkk] at hbk hw1 ⊢
    clear hkk
    have HBKK := Lib.hid hbk
    go_wp2_with fail
    first | rw [← hw1] | skip
    clear hw1
    have q0 := cell_k8 (i := 0) (show w1.drew.heap[w.heap.size]? = _ from HBKK.out) (by decide) rfl
    have q1 := cell_k8 (i := 1) (show w1.drew.heap[w.heap.size]? = _ from HBKK.out) (by decide) rfl
    refine wp_region_OT K8 (fun w => Lib.OthersKept.refl _ _ _) (fun a b c h k => h.trans k) [] (.pure [0, 1, 2, 3, 6, 7] (.step 4 (.step 5 (.step 8 (.free [9] (.tail [])))))) (by kernel_rfl) (by kernel_rfl) (fun _ d _ _ _ h => by cases d <;> exact h) ?_
    generalize hw2 : w1.drew = w2 at *
    have HW2 : Hid (Below w.heap.size w w2 ∧ OwnB w2 B (.slice Av m cv) l ∧ K8 w w2 ∧ w.heap.size < w2.heap.size) := Lib.hid (by
      rw [← hw2]
      exact ⟨HB1.out.drew, HO1.out, (k8_below HB1.out).drew, (Array.getElem?_eq_some_iff.1 HBKK.out).1⟩)
    have HBK2 := Lib.hid ((show w2.heap[w.heap.size]? = w1.heap[w.heap.size]? from by rw [← hw2]; rfl).trans HBKK.out)
    clear hw2 hbk
    refine ot_pure ?_
    simp only [atNats, List.filterMap_cons, List.filterMap_nil, List.getElem?_toArray, List.getElem?_cons_succ, List.getElem?_cons_zero]
    show wpQuiet _ _ _ _ [_, _, _, _, _, _] _
    try simp only [List.getElem_toArray, List.getElem_cons_succ, List.getElem_cons_zero, Act.put, List.setIfInBounds_toArray, List.set_cons_succ, List.set_cons_zero] at *
    repeat (go_big_quiet_step (fail))
    refine wpQuiet_nil ?_
    clear q0 q1
    refine ot_step rfl (fun K hK => ?_)
    go_simp
    refine hK _ _ (.inr ((Lib.OthersKept.refl _ _ _).alloc _)) ?_
    clear hK K
    have hml : m ≤ 140737470000000 := by rw [HM.out]; exact HL.out
    have hB2 : B ≤ w2.heap.size := Nat.le_trans HB.out HW2.out.1.size
    have HOA : Hid (∀ X : Obj, OwnB (w2.alloc X) B (.slice Av m cv) l) := Lib.hid fun X => HW2.out.2.1.below ((Below.refl _ _).alloc (Nat.le_refl _) _)
    have hrow : ∀ X : Obj, (w2.alloc X).ownsRow B 5 1 (.slice Av m cv) m (bcells l) := fun X => by have h9 := HOA.out X; unfold OwnB at h9; rw [← HM.out] at h9; exact h9
    refine ot_step rfl (fun K hK => ?_)
    refine wp_append_moved _ _ _ 39 rfl B 5 i0 (.int .u8 0) 1 1 Try.underlying39 hi hz0 hz1 hz2 rfl (by decide) _ m (bcells l) rfl (hrow _) ⟨w2.heap.size, 0, none⟩ 1 1 [.int .u8 8] rfl rfl (cell_one_new _ _ _) (by simp [Value.oneCell']) (by unfold maxLen; omega) (by omega) (by simp; omega) ?_
    intro v4 w4 hv4 hg4 hwh4
    have hk5 : K8 (w2.alloc (.cells #[.int .u8 8] 5)) w4 := k8_grown (HOA.out _) hg4
    refine hK _ _ (.inr hk5) ?_
    clear hK K
    have HX4 : Hid (OwnB w4 B v4 (l ++ [8]) ∧ Below B w w4 ∧ K8 w w4) := Lib.hid ⟨by unfold OwnB; rw [List.length_append, ← HM.out, show bcells (l ++ [8]) = bcells l ++ [.int .u8 8] from by unfold bcells; rw [List.map_append]; rfl]; exact hv4, below_own ((HW2.out.1.mono HB.out).alloc hB2 _) (HOA.out _) (by simp; omega) hg4, (HW2.out.2.2.1.alloc _).trans hk5⟩
    have HBK4 := Lib.hid (box_k8 (w := w2.alloc (.cells #[.int .u8 8] 5)) ((Below.heap_alloc w2 _ _ HW2.out.2.2.2).trans HBK2.out) hk5)
    have HC := Lib.hid (pputpath_any S PA pc o.path B v4 (l ++ [8]) w4 HSB.out (HIN.out w4 HX4.out.2.1).2.1 HPP.out.1 HX4.out.1 (Nat.le_trans HB.out HX4.out.2.1.size) (by have := HM.out; simp; omega))
    clear hv4 hg4 hwh4 hrow hk5 hB2
    refine ot_step rfl (fun K hK => ?_)
    go_simp
    refine HC.out.mono ?_
    rintro e w5 ⟨v5, rfl, hv5, hb5, hk5⟩
    go_simp
    refine hK _ _ (.inr hk5) ?_
    clear hK K
    have HX5 : Hid (OwnB w5 B v5 (l ++ [8] ++ pathC o.path) ∧ Below B w w5 ∧ K8 w w5) := Lib.hid ⟨hv5, HX4.out.2.1.trans hb5, HX4.out.2.2.trans hk5⟩
    have HBK5 := Lib.hid (box_k8 HBK4.out hk5)
    refine ot_free ?_
    simp only [atNats, List.filterMap_cons, List.filterMap_nil, List.getElem?_toArray, List.getElem?_cons_succ, List.getElem?_cons_zero]
    show wpQuiet _ _ _ _ [_] _
    try simp only [List.getElem_toArray, List.getElem_cons_succ, List.getElem_cons_zero, Act.put, List.setIfInBounds_toArray, List.set_cons_succ, List.set_cons_zero] at *
    repeat (go_big_quiet_step (fail))
    refine wpQuiet_nil ?_
    refine ot_end ?_
    have r0 : w5.cell? ⟨w.heap.size, 0, none⟩ = some (.int .i64 8) := Go.Joins.cell_of_block HBK5.out 0
    have r1 : w5.cell? ⟨w.heap.size, 2, none⟩ = some (.int .i64 o.val.kind) := Go.Joins.cell_of_block HBK5.out 2
    have r2 : w5.cell? ⟨w.heap.size, 3, none⟩ = some (.int .i64 o.val.num) := Go.Joins.cell_of_block HBK5.out 3
    have r3 : w5.cell? ⟨w.heap.size, 4, none⟩ = some (.string o.val.text) := Go.Joins.cell_of_block HBK5.out 4
    have r4 : w5.cell? ⟨w.heap.size, 5, none⟩ = some (.slice VA o.val.items.length vc) := Go.Joins.cell_of_block HBK5.out 5
    have r5 : w5.cell? ⟨w.heap.size, 6, none⟩ = some (.slice VA' o.val.names.length vc') := Go.Joins.cell_of_block HBK5.out 6
    have r6 : w5.cell? ⟨w.heap.size, 7, none⟩ = some (.slice TA o.to.length tc) := Go.Joins.cell_of_block HBK5.out 7
    have hL5 : Hid ((l ++ [8] ++ pathC o.path).length ≤ 140737480000000) := Lib.hid (by
      have h1 := (grp_length o.path.length).1
      have h2 := flat_small HPP.out.1.2
      have h3 := HPP.out.1.1
      have h4 := HL.out
      unfold pathC
      simp only [List.length_append, List.length_cons, List.length_nil]
      omega)
    have HC6 := Lib.hid (putv_any S o.val _ B v5 (l ++ [8] ++ pathC o.path) w5 (fun b hb => Nat.lt_of_lt_of_le (HSB.out b hb) (Nat.le_trans HB.out HX5.out.2.1.size)) (HIN.out w5 HX5.out.2.1).1 HD.out.1 HD.out.2 HX5.out.1 (Nat.le_trans HB.out HX5.out.2.1.size) (by have := hL5.out; omega))
    go_wp2_with fail
    refine HC6.out.mono ?_
    rintro e w6 ⟨v6, rfl, hv6, hb6, hk6⟩
    have hfin : codeO o = [8] ++ pathC o.path ++ encO o.val := by unfold codeO; rw [HKE.out]; simp
    have HX6 : Hid (OwnB w6 B v6 (l ++ codeO o) ∧ Below B w w6 ∧ K8 w w6) := Lib.hid ⟨by rw [hfin, ← List.append_assoc, ← List.append_assoc]; exact hv6, HX5.out.2.1.trans hb6, HX5.out.2.2.trans hk6⟩
    clear hfin hv6 hb6 hk6
    go_wp2_with fail
    go_ret
    exact ⟨_, rfl, HX6.out⟩
end Go.Proofs.Ytipiplnhbecjeaa

/- The code of an update: the program's Put. -/
namespace Go.Proofs.Ytipiplnhbecjeaa
set_option linter.unusedVariables false
set_option linter.unusedSimpArgs false
open Go.RowKit
theorem one_news {W : World} {g : Nat} {x : Value} {t : TypeId} {fr : Nat × Nat} (h : W.heap[g]? = some (.cells #[x] t fr)) : ∀ (j : Nat) (u : Value), ([x] : List Value)[j]? = some u → W.cell? ((⟨g, 0, none⟩ : Addr).add j) = some u := by
  intro j u hj
  rw [add_atK, Nat.zero_add, Go.Joins.cell_of_block h j]
  simpa using hj
set_option maxRecDepth 100000
theorem mayP_ok {p : List ByteArray} (h : mayP p = true) : NamesOK p := by
  obtain ⟨-, h8, h2⟩ := (mayP_iff p).1 h
  refine ⟨by omega, fun s hs => ?_⟩
  have := ((nameB_iff s).1 (h2 s hs)).2.1
  omega
theorem mayO_ok {o : OpT} (h : mayO o = true) : NamesOK o.path ∧ NamesOK o.to := by
  unfold mayO at h
  rw [Bool.and_eq_true] at h
  refine ⟨mayP_ok h.1, ?_⟩
  have h2 := h.2
  have h0 : ∀ l : List ByteArray, l.length = 0 → NamesOK l := fun l hl => ⟨by omega, fun s hs => by rw [List.eq_nil_of_length_eq_zero hl] at hs; cases hs⟩
  split at h2
  · simp only [Bool.and_eq_true, decide_eq_true_eq] at h2; exact h0 _ h2.2
  split at h2
  · simp only [Bool.and_eq_true, decide_eq_true_eq] at h2; exact h0 _ h2.2
  split at h2
  · simp only [Bool.and_eq_true, decide_eq_true_eq] at h2; exact h0 _ h2.2
  split at h2
  · rw [Bool.and_eq_true] at h2; exact mayP_ok h2.2
  · cases h2
theorem pathC_small {p : List ByteArray} (h : NamesOK p) : (pathC p).length ≤ 1012000 := by
  have h1 := (grp_length p.length).1
  have h2 := flat_small h.2
  have h3 := h.1
  unfold pathC
  rw [List.length_append]
  omega
theorem codeO_small {o : OpT} (h : mayO o = true) (hz : sizeT o.val ≤ 9223372036854775807) : (codeO o).length ≤ 2100000 := by
  have h1 := pathC_small (mayO_ok h).1
  have h2 := pathC_small (mayO_ok h).2
  have h3 := encO_length hz
  unfold codeO
  rw [List.length_append, List.length_append]
  split
  · simp; omega
  split
  · simp; omega
  · simp; omega
theorem codes_small : ∀ {l : List OpT}, (∀ o ∈ l, mayO o = true ∧ sizeT o.val ≤ 9223372036854775807) → ((l.map codeO).flatten).length ≤ 2100000 * l.length
  | [], _ => by simp
  | a :: r, h => by
    have h1 := codeO_small (h a (by simp)).1 (h a (by simp)).2
    have h2 := codes_small (l := r) fun o ho => h o (List.mem_cons_of_mem _ ho)
    simp only [List.map_cons, List.flatten_cons, List.length_append, List.length_cons]
    omega
/-- An update's code. -/
def codeS (s : SpecT) : List UInt8 := if checkS s = 0 then (if s.rep then [1] ++ encO s.doc else [0] ++ grp s.ops.length ++ (s.ops.map codeO).flatten) else []
theorem check_zero_ops {s : SpecT} (h : checkS s = 0) (hr : s.rep = false) : s.ops.length ≤ 16 ∧ ∀ o ∈ s.ops, mayO o = true := by
  unfold checkS at h
  by_cases hf : formedS s = true
  · unfold formedS at hf
    rw [hr] at hf
    simp only [Bool.false_eq_true, if_false, Bool.and_eq_true, decide_eq_true_eq, List.all_eq_true] at hf
    exact ⟨hf.1.2, hf.2⟩
  · rw [if_neg hf] at h
    cases h
theorem boxs_k8 {w w' : World} {g : Nat} {s : SpecT} {DA : Option Addr} {dc : Nat} {DA' : Option Addr} {dc' : Nat} {OA : Option Addr} {oc : Nat} (hg : SBox w g s DA dc DA' dc' OA oc) (h : K8 w w') : SBox w' g s DA dc DA' dc' OA oc := h g _ hg (fun h => by cases h) (fun c fz h => by injection h with _ h; exact absurd h (by decide))
def SmallZ (s : SpecT) : Prop := sizeT s.doc ≤ 9223372036854775807 ∧ ∀ o ∈ s.ops, sizeT o.val ≤ 9223372036854775807
set_option maxHeartbeats 16000000 in
theorem spput_any (S : Nat → Prop) (s : SpecT) (cs : Array Value) (bv : Value) (l : List UInt8) (w : World) (hS : ∀ b, S b → b < w.heap.size) (h : SpecL w S s cs) (hd : SmallS s) (hz : SmallZ s) (hb : Rd w w.heap.size bv l) (hl : l.length ≤ 140737400000000) :
    Calls Try.prog 10 #[bv, .agg cs] w fun e w' => ∃ v', e = .returned v' ∧ OwnB w' w.heap.size v' (l ++ codeS s) ∧ Below w.heap.size w w' := by
  have HL := Lib.hid h
  obtain ⟨DA, dc, DA', dc', OA, oc, rfl, hv, ho, hoc, hol⟩ := h
  obtain ⟨w1, hw1⟩ : ∃ W, W = w.alloc (.cells #[.bool s.rep, .int .i64 s.doc.kind, .int .i64 s.doc.num, .string s.doc.text, .slice DA s.doc.items.length dc, .slice DA' s.doc.names.length dc', .slice OA s.ops.length oc] 35) := ⟨_, rfl⟩
  have hbk : SBox w1 w.heap.size s DA dc DA' dc' OA oc := by rw [hw1]; exact heap_alloc_new w _
  have hb1 : Below w.heap.size w w1 := by rw [hw1]; exact (Below.refl _ _).alloc (Nat.le_refl _) _
  have hrd1 : Rd w1 w.heap.size bv l := hb.keep hb1
  have HB1 := Lib.hid hb1
  have HBK := Lib.hid hbk
  have HRD := Lib.hid hrd1
  have HS := Lib.hid hS
  have HD := Lib.hid (And.intro hd hz)
  have HLL := Lib.hid hl
  have HOL := Lib.hid hol
  have HZ1 := Lib.hid hb1.size
  have HO0 : Hid (OwnB w1 w.heap.size (.slice none 0 0) []) := Lib.hid (World.ownsRow_nil _ _ _ _)
  obtain ⟨m, hm⟩ : ∃ m, m = l.length := ⟨_, rfl⟩
  obtain ⟨Ab, cb, hbv⟩ : ∃ A c, bv = .slice A l.length c := by obtain ⟨A, c, h, -⟩ := hb; exact ⟨A, c, h⟩
  subst hbv
  rw [← hm] at HRD ⊢
  have HM := Lib.hid hm
  have HW1 := Lib.hid hw1
  have HV := Lib.hid hv
  have HO := Lib.hid ho
  clear hbk hb1 hrd1 hv ho hoc hol hd hz hS hb hl hm
  go_enter Try.func10, Try.ntmps10
  go_wp2_with (at_builtin; go_must (refine wpList_append_bytes rfl _ _ rfl w.heap.size _ [] rfl (HW1.out ▸ HO0.out) w.heap.size _ l rfl (HW1.out ▸ HRD.out) (HW1.out ▸ HZ1.out) (by have := HLL.out; simp; omega) ?_))
  intro v2 w2 hv2 hg2
  rw [← HW1.out] at hg2
  have HX2 : Hid (OwnB w2 w.heap.size v2 l ∧ Below w.heap.size w w2 ∧ K8 w1 w2) := Lib.hid ⟨by simpa using hv2, below_own HB1.out HO0.out HZ1.out hg2, k8_grown HO0.out hg2⟩
  have HBK2 := Lib.hid (boxs_k8 HBK.out HX2.out.2.2)
  have HC := Lib.hid (spcheck_any S s _ w2 (fun b hb => Nat.lt_of_lt_of_le (HS.out b hb) HX2.out.2.1.size) (HL.out.below HS.out HX2.out.2.1) HD.out.1)
  have y0 := Go.Joins.cell_of_block HBK2.out 0
  have y1 := Go.Joins.cell_of_block HBK2.out 1
  have y2 := Go.Joins.cell_of_block HBK2.out 2
  have y3 := Go.Joins.cell_of_block HBK2.out 3
  have y4 := Go.Joins.cell_of_block HBK2.out 4
  have y5 := Go.Joins.cell_of_block HBK2.out 5
  have y6 := Go.Joins.cell_of_block HBK2.out 6
  clear hv2 hg2 HRD HO0
  go_wp2_with fail
  refine HC.out.mono ?_
  rintro e w3 ⟨rfl, hb3⟩
  have HX3 : Hid (OwnB w3 w.heap.size v2 l ∧ Below w.heap.size w w3 ∧ SBox w3 w.heap.size s DA dc DA' dc' OA oc) := Lib.hid ⟨HX2.out.1.below hb3, HX2.out.2.1.trans (hb3.mono HX2.out.2.1.size), HBK2.out.below hb3⟩
  clear hb3 HC y0 y1 y2 y3 y4 y5 y6 HX2 HBK2
  obtain ⟨r, hr⟩ : ∃ r, r = checkS s := ⟨_, rfl⟩
  rw [← hr]
  have HR := Lib.hid hr
  clear hr
  by_cases hr0 : r = 0
  · subst hr0
    obtain ⟨rp, hrp⟩ : ∃ rp, rp = s.rep := ⟨_, rfl⟩
    have y0 : w3.cell? ⟨w.heap.size, 0, none⟩ = some (.bool rp) := by rw [hrp]; exact Go.Joins.cell_of_block HX3.out.2.2 0
    have HRP := Lib.hid hrp
    clear hrp
    have HY : Hid (∃ A2 c2, v2 = .slice A2 m c2) := Lib.hid (by rw [HM.out]; exact HX3.out.1.slice)
    obtain ⟨A2, c2, rfl⟩ := HY.out
    obtain ⟨i0, hi, hz0, hz1, hz2⟩ := info_parts Try.infoU8
    clear HY
    cases rp
    · go_wp2_with fail
      have q6 := cell_k8 (w := w3.drew) (i := 6) (show w3.drew.heap[w.heap.size]? = _ from HX3.out.2.2) (by decide) rfl
      clear y0
      refine wp_region_OT K8 (fun w => Lib.OthersKept.refl _ _ _) (fun a b c h k => h.trans k) [] (.pure [0, 3, 4, 5] (.fork 1 (.fork 2 (.step 6 (.step 7 (.free [8] (.tail [])))) 6 (.step 2 (.step 7 (.free [8] (.tail []))))) 6 (.step 1 (.step 2 (.step 7 (.free [8] (.tail []))))))) (by kernel_rfl) (by kernel_rfl) (fun _ d _ _ _ h => by cases d <;> exact h) ?_
      generalize hw4 : w3.drew = w4 at *
      have HX4 : Hid (OwnB w4 w.heap.size (.slice A2 m c2) l ∧ Below w.heap.size w w4 ∧ SBox w4 w.heap.size s DA dc DA' dc' OA oc) := Lib.hid (by rw [← hw4]; exact ⟨HX3.out.1, HX3.out.2.1.drew, HX3.out.2.2⟩)
      clear hw4 HX3
      refine ot_pure ?_
      simp only [atNats, List.filterMap_cons, List.filterMap_nil, List.getElem?_toArray, List.getElem?_cons_succ, List.getElem?_cons_zero]
      show wpQuiet _ _ _ _ [_, _, _, _] _
      try simp only [List.getElem_toArray, List.getElem_cons_succ, List.getElem_cons_zero, Act.put, List.setIfInBounds_toArray, List.set_cons_succ, List.set_cons_zero] at *
      repeat (go_big_quiet_step (fail))
      refine wpQuiet_nil ?_
      clear q6
      have hml : m ≤ 140737400000000 := by rw [HM.out]; exact HLL.out
      refine ot_fork rfl rfl (fun K hK => ?_) (fun K hK => ?_)
      · go_simp
        refine hK _ _ (.inr ((Lib.OthersKept.refl _ _ _).alloc _)) ?_
        clear hK K
        obtain ⟨w10, hw10⟩ : ∃ U, U = w4.alloc (.cells #[.int .u8 0] 5) := ⟨_, rfl⟩
        obtain ⟨g10, hg10⟩ : ∃ g, g = w4.heap.size := ⟨_, rfl⟩
        have hkk : K8 w4 w10 := by rw [hw10]; exact (Lib.OthersKept.refl _ _ _).alloc _
        have hzz := HX4.out.2.1.size
        have HX10 : Hid (OwnB w10 w.heap.size (.slice A2 m c2) (l) ∧ Below w.heap.size w w10 ∧ SBox w10 w.heap.size s DA dc DA' dc' OA oc) := Lib.hid ⟨by rw [hw10]; exact HX4.out.1.below ((Below.refl _ _).alloc (Nat.le_refl _) _), by rw [hw10]; exact HX4.out.2.1.alloc hzz _, boxs_k8 HX4.out.2.2 hkk⟩
        have HG1 : Hid (w10.heap[g10]? = some (.cells #[.int .u8 0] 5 (0, 0))) := Lib.hid (by rw [hw10, hg10]; exact heap_alloc_new _ _)
        rw [← hw10, ← hg10]
        clear hw10 hg10 hkk hzz
        refine ot_fork rfl rfl (fun K hK => ?_) (fun K hK => ?_)
        · have hrow : w10.ownsRow w.heap.size 5 1 (.slice A2 m c2) m (bcells l) := by have h9 := HX10.out.1; unfold OwnB at h9; rw [← HM.out] at h9; exact h9
          refine wp_append_moved _ _ _ 39 rfl w.heap.size 5 i0 (.int .u8 0) 1 1 Try.underlying39 hi hz0 hz1 hz2 rfl (by decide) _ m (bcells l) rfl hrow ⟨g10, 0, none⟩ 1 1 [.int .u8 0] rfl rfl (one_news HG1.out) (by simp [Value.oneCell']) (by unfold maxLen; omega) (by omega) HX10.out.2.1.size ?_
          intro v11 w11 hv hg hwh
          have hkk : K8 w10 w11 := k8_grown HX10.out.1 hg
          refine hK _ _ (.inr hkk) ?_
          clear hK K
          have HX11 : Hid (OwnB w11 w.heap.size v11 (l ++ [0]) ∧ Below w.heap.size w w11 ∧ SBox w11 w.heap.size s DA dc DA' dc' OA oc) := Lib.hid ⟨by unfold OwnB; rw [List.length_append, ← HM.out, show bcells (l ++ [0]) = bcells l ++ [.int .u8 0] from by unfold bcells; rw [List.map_append]; rfl]; exact hv, below_own HX10.out.2.1 HX10.out.1 HX10.out.2.1.size hg, boxs_k8 HX10.out.2.2 hkk⟩
          clear hrow hv hg hwh hkk
          refine ot_step rfl (fun K hK => ?_)
          go_simp
          refine hK _ _ (.inr ((Lib.OthersKept.refl _ _ _).alloc _)) ?_
          clear hK K
          obtain ⟨w12, hw12⟩ : ∃ U, U = w11.alloc (.cells #[.int .i64 (s.ops.length : Int)] 3) := ⟨_, rfl⟩
          obtain ⟨g12, hg12⟩ : ∃ g, g = w11.heap.size := ⟨_, rfl⟩
          have hkk : K8 w11 w12 := by rw [hw12]; exact (Lib.OthersKept.refl _ _ _).alloc _
          have hzz := HX11.out.2.1.size
          have HX12 : Hid (OwnB w12 w.heap.size v11 (l ++ [0]) ∧ Below w.heap.size w w12 ∧ SBox w12 w.heap.size s DA dc DA' dc' OA oc) := Lib.hid ⟨by rw [hw12]; exact HX11.out.1.below ((Below.refl _ _).alloc (Nat.le_refl _) _), by rw [hw12]; exact HX11.out.2.1.alloc hzz _, boxs_k8 HX11.out.2.2 hkk⟩
          have HN12 : Hid (NBox w12 g12 [s.ops.length]) := Lib.hid (by rw [hw12, hg12]; exact NBox.new _ [s.ops.length])
          rw [← hw12, ← hg12]
          clear hw12 hg12 hkk hzz
          refine ot_step rfl (fun K hK => ?_)
          go_simp
          refine (pputcounts_any w.heap.size g12 1 [s.ops.length] v11 (l ++ [0]) w12 HX12.out.1 HX12.out.2.1.size HN12.out (by intro k hk; have := HOL.out; simp at hk; omega) (by have := HLL.out; simp; omega)).mono ?_
          rintro e w6 ⟨v6, rfl, hv6, hb6, hk6⟩
          go_simp
          refine hK _ _ (.inr hk6) ?_
          clear hK K
          have hgl : grpL [s.ops.length] = grp s.ops.length := by unfold grpL; simp
          rw [hgl] at hv6
          have HX6 : Hid (OwnB w6 w.heap.size v6 (l ++ [0] ++ grp s.ops.length) ∧ Below w.heap.size w w6 ∧ SBox w6 w.heap.size s DA dc DA' dc' OA oc) := Lib.hid ⟨hv6, HX12.out.2.1.trans hb6, boxs_k8 HX12.out.2.2 hk6⟩
          clear hv6 hb6 hk6 hgl
          refine ot_free ?_
          simp only [atNats, List.filterMap_cons, List.filterMap_nil, List.getElem?_toArray, List.getElem?_cons_succ, List.getElem?_cons_zero]
          show wpQuiet _ _ _ _ [_] _
          try simp only [List.getElem_toArray, List.getElem_cons_succ, List.getElem_cons_zero, Act.put, List.setIfInBounds_toArray, List.set_cons_succ, List.set_cons_zero] at *
          repeat (go_big_quiet_step (fail))
          refine wpQuiet_nil ?_
          refine ot_end ?_
          have y6 : w6.cell? ⟨w.heap.size, 6, none⟩ = some (.slice OA s.ops.length oc) := Go.Joins.cell_of_block HX6.out.2.2 6
          have HZO := Lib.hid (check_zero_ops HR.out.symm HRP.out.symm)
          have HSM : Hid (∀ k, (((s.ops.take k).map codeO).flatten).length ≤ 33600000) := Lib.hid fun k => by
            have h1 := codes_small (l := s.ops.take k) fun o ho => ⟨HZO.out.2 o (List.mem_of_mem_take ho), HD.out.2.2 o (List.mem_of_mem_take ho)⟩
            have h2 := HZO.out.1
            rw [List.length_take] at h1
            omega
          have hfin : codeS s = [0] ++ grp s.ops.length ++ (s.ops.map codeO).flatten := by unfold codeS; rw [if_pos HR.out.symm, if_neg (by rw [← HRP.out]; simp)]
          have HF := Lib.hid hfin
          have h0 : Hid (OwnB w6 w.heap.size v6 (l ++ [0] ++ grp s.ops.length ++ ((s.ops.take 0).map codeO).flatten) ∧ Below w.heap.size w w6) := Lib.hid ⟨by simpa using HX6.out.1, HX6.out.2.1⟩
          clear hfin hml
          go_wp2_with fail
          go_loopw [5, 35] (fun v0 i wr => ∃ k : Nat, i = .int .i64 k ∧ k ≤ s.ops.length ∧ Hid (OwnB wr w.heap.size v0 (l ++ [0] ++ grp s.ops.length ++ ((s.ops.take k).map codeO).flatten) ∧ Below w.heap.size w wr)) (fun _ i _ => s.ops.length - (intOf i).toNat)
          case atStart => exact ⟨0, rfl, by omega, h0⟩
          case round =>
            obtain ⟨k, rfl, hk, HH⟩ := hrel
            by_cases hlt : k < s.ops.length
            · have d1 : decide ((k : Int) < (s.ops.length : Int)) = true := decide_eq_true (by omega)
              obtain ⟨p, off, rfl, hpS, c0, c1, c2', c3, c4, c5, c6, c7, ho, x0, x1, x2, x3, x4, x5, x6, x7⟩ := HO.out.cells k hlt
              have hp := HH.out.2.block p (HS.out p hpS)
              have z0 := (World.cell?_of_block (a := ⟨p, off + k * 8, none⟩) hp).trans x0
              have z1 := (World.cell?_of_block (a := ⟨p, off + k * 8 + 1, none⟩) hp).trans x1
              have z2 := (World.cell?_of_block (a := ⟨p, off + k * 8 + 2, none⟩) hp).trans x2
              have z3 := (World.cell?_of_block (a := ⟨p, off + k * 8 + 3, none⟩) hp).trans x3
              have z4 := (World.cell?_of_block (a := ⟨p, off + k * 8 + 4, none⟩) hp).trans x4
              have z5 := (World.cell?_of_block (a := ⟨p, off + k * 8 + 5, none⟩) hp).trans x5
              have z6 := (World.cell?_of_block (a := ⟨p, off + k * 8 + 6, none⟩) hp).trans x6
              have z7 := (World.cell?_of_block (a := ⟨p, off + k * 8 + 7, none⟩) hp).trans x7
              have HOK := Lib.hid ho
              obtain ⟨PA, pc, a, b, c, d, e, TA, tc, he, hv, -, -, -, -, -, -, -⟩ := ho
              obtain ⟨VA, vc, VA', vc', hvs, -⟩ := hv.shape
              simp only [Value.agg.injEq, Array.mk.injEq, List.cons.injEq, and_true] at he hvs
              obtain ⟨rfl, rfl, rfl, rfl, rfl, rfl, rfl, rfl⟩ := he
              obtain ⟨rfl, rfl, rfl, rfl, rfl⟩ := hvs
              clear hv
              have hmay := HZO.out.2 _ (List.getElem_mem hlt)
              obtain ⟨acc, hacc⟩ : ∃ acc, acc = l ++ [0] ++ grp s.ops.length ++ ((s.ops.take k).map codeO).flatten := ⟨_, rfl⟩
              rw [← hacc] at HH
              have hal : acc.length ≤ 140737450000000 := by
                have h1 := HSM.out k
                have h2 := (grp_length s.ops.length).1
                have h3 := HLL.out
                rw [hacc]
                simp only [List.length_append, List.length_cons, List.length_nil]
                omega
              have HPO : Hid (∀ X : Obj, Calls Try.prog 28 #[u5, .agg #[.int .i64 s.ops[k].kind, .slice PA s.ops[k].path.length pc, .int .i64 s.ops[k].val.kind, .int .i64 s.ops[k].val.num, .string s.ops[k].val.text, .slice VA s.ops[k].val.items.length vc, .slice VA' s.ops[k].val.names.length vc', .slice TA s.ops[k].to.length tc]] (wr.alloc X) (PutsR w.heap.size (acc ++ codeO s.ops[k]) (wr.alloc X))) := Lib.hid fun X =>
                puto_any S s.ops[k] _ w.heap.size u5 acc (wr.alloc X) HS.out (HOK.out.keep fun b hb => (HH.out.2.alloc HH.out.2.size X).block b (HS.out b hb)) hmay (HD.out.1.2 _ (List.getElem_mem hlt)) (HD.out.2.2 _ (List.getElem_mem hlt)) (mayO_ok hmay).1 (mayO_ok hmay).2 (HH.out.1.below ((Below.refl _ _).alloc (Nat.le_refl _) _)) (Nat.le_trans HH.out.2.size (by simp)) (by omega)
              have HBA : Hid (∀ X : Obj, Below w.heap.size w (wr.alloc X)) := Lib.hid fun X => HH.out.2.alloc HH.out.2.size X
              have HACC : Hid (acc ++ codeO s.ops[k] = l ++ [0] ++ grp s.ops.length ++ ((s.ops.take (k + 1)).map codeO).flatten) := Lib.hid (by
                have h1 : ((s.ops.take (k + 1)).map codeO).flatten = ((s.ops.take k).map codeO).flatten ++ codeO s.ops[k] := by
                  rw [List.take_add_one, List.getElem?_eq_getElem hlt, List.map_append, List.flatten_append]
                  exact congrArg _ (List.append_nil _)
                rw [hacc, h1]
                simp only [List.append_assoc])
              clear x0 x1 x2 x3 x4 x5 x6 x7 hp hmay hacc hal
              go_wp2_with fail
              refine (HPO.out _).mono ?_
              rintro e w7 ⟨v7, rfl, hv7, hb7, hk7⟩
              rw [HACC.out] at hv7
              have HX7 : Hid (OwnB w7 w.heap.size v7 (l ++ [0] ++ grp s.ops.length ++ ((s.ops.take (k + 1)).map codeO).flatten) ∧ Below w.heap.size w w7) := Lib.hid ⟨hv7, (HBA.out _).trans hb7⟩
              clear hv7 hb7 hk7 z0 z1 z2 z3 z4 z5 z6 z7 HPO HBA
              have h16 := HZO.out.1
              go_wp2_with fail
              go_roundw
              case rel => exact ⟨k + 1, by go_num, by omega, HX7⟩
              case measure => simp [intOf]; omega
            · have hke : k = s.ops.length := by omega
              have d1 : decide ((k : Int) < (s.ops.length : Int)) = false := decide_eq_false (by omega)
              have HE : Hid (OwnB wr w.heap.size u5 (l ++ codeS s)) := Lib.hid (by
                have h9 := HH.out.1
                rw [hke, List.take_length] at h9
                rw [HF.out]
                simpa [List.append_assoc] using h9)
              clear hke
              go_wp2_with fail
              go_ret
              exact ⟨_, rfl, HE.out, HH.out.2⟩
        · go_simp
          refine hK _ _ (.inr ((Lib.OthersKept.refl _ _ _).alloc _)) ?_
          clear hK K
          obtain ⟨w11, hw11⟩ : ∃ U, U = w10.alloc (.cells #[.int .i64 (s.ops.length : Int)] 3) := ⟨_, rfl⟩
          obtain ⟨g11, hg11⟩ : ∃ g, g = w10.heap.size := ⟨_, rfl⟩
          have hkk : K8 w10 w11 := by rw [hw11]; exact (Lib.OthersKept.refl _ _ _).alloc _
          have hzz := HX10.out.2.1.size
          have HX11 : Hid (OwnB w11 w.heap.size (.slice A2 m c2) (l) ∧ Below w.heap.size w w11 ∧ SBox w11 w.heap.size s DA dc DA' dc' OA oc) := Lib.hid ⟨by rw [hw11]; exact HX10.out.1.below ((Below.refl _ _).alloc (Nat.le_refl _) _), by rw [hw11]; exact HX10.out.2.1.alloc hzz _, boxs_k8 HX10.out.2.2 hkk⟩
          have HN11 : Hid (NBox w11 g11 [s.ops.length]) := Lib.hid (by rw [hw11, hg11]; exact NBox.new _ [s.ops.length])
          have HG1 : Hid (w11.heap[g10]? = some (.cells #[.int .u8 0] 5 (0, 0))) := Lib.hid (by rw [hw11]; exact (Below.heap_alloc _ _ _ (Array.getElem?_eq_some_iff.1 HG1.out).1).trans HG1.out)
          rw [← hw11, ← hg11]
          clear hw11 hg11 hkk hzz
          refine ot_step rfl (fun K hK => ?_)
          have hrow : w11.ownsRow w.heap.size 5 1 (.slice A2 m c2) m (bcells l) := by have h9 := HX11.out.1; unfold OwnB at h9; rw [← HM.out] at h9; exact h9
          refine wp_append_moved _ _ _ 39 rfl w.heap.size 5 i0 (.int .u8 0) 1 1 Try.underlying39 hi hz0 hz1 hz2 rfl (by decide) _ m (bcells l) rfl hrow ⟨g10, 0, none⟩ 1 1 [.int .u8 0] rfl rfl (one_news HG1.out) (by simp [Value.oneCell']) (by unfold maxLen; omega) (by omega) HX11.out.2.1.size ?_
          intro v12 w12 hv hg hwh
          have hkk : K8 w11 w12 := k8_grown HX11.out.1 hg
          refine hK _ _ (.inr hkk) ?_
          clear hK K
          have HX12 : Hid (OwnB w12 w.heap.size v12 (l ++ [0]) ∧ Below w.heap.size w w12 ∧ SBox w12 w.heap.size s DA dc DA' dc' OA oc) := Lib.hid ⟨by unfold OwnB; rw [List.length_append, ← HM.out, show bcells (l ++ [0]) = bcells l ++ [.int .u8 0] from by unfold bcells; rw [List.map_append]; rfl]; exact hv, below_own HX11.out.2.1 HX11.out.1 HX11.out.2.1.size hg, boxs_k8 HX11.out.2.2 hkk⟩
          have HN12 := Lib.hid (HN11.out.k8 hkk)
          clear hrow hv hg hwh hkk
          refine ot_step rfl (fun K hK => ?_)
          go_simp
          refine (pputcounts_any w.heap.size g11 1 [s.ops.length] v12 (l ++ [0]) w12 HX12.out.1 HX12.out.2.1.size HN12.out (by intro k hk; have := HOL.out; simp at hk; omega) (by have := HLL.out; simp; omega)).mono ?_
          rintro e w6 ⟨v6, rfl, hv6, hb6, hk6⟩
          go_simp
          refine hK _ _ (.inr hk6) ?_
          clear hK K
          have hgl : grpL [s.ops.length] = grp s.ops.length := by unfold grpL; simp
          rw [hgl] at hv6
          have HX6 : Hid (OwnB w6 w.heap.size v6 (l ++ [0] ++ grp s.ops.length) ∧ Below w.heap.size w w6 ∧ SBox w6 w.heap.size s DA dc DA' dc' OA oc) := Lib.hid ⟨hv6, HX12.out.2.1.trans hb6, boxs_k8 HX12.out.2.2 hk6⟩
          clear hv6 hb6 hk6 hgl
          refine ot_free ?_
          simp only [atNats, List.filterMap_cons, List.filterMap_nil, List.getElem?_toArray, List.getElem?_cons_succ, List.getElem?_cons_zero]
          show wpQuiet _ _ _ _ [_] _
          try simp only [List.getElem_toArray, List.getElem_cons_succ, List.getElem_cons_zero, Act.put, List.setIfInBounds_toArray, List.set_cons_succ, List.set_cons_zero] at *
          repeat (go_big_quiet_step (fail))
          refine wpQuiet_nil ?_
          refine ot_end ?_
          have y6 : w6.cell? ⟨w.heap.size, 6, none⟩ = some (.slice OA s.ops.length oc) := Go.Joins.cell_of_block HX6.out.2.2 6
          have HZO := Lib.hid (check_zero_ops HR.out.symm HRP.out.symm)
          have HSM : Hid (∀ k, (((s.ops.take k).map codeO).flatten).length ≤ 33600000) := Lib.hid fun k => by
            have h1 := codes_small (l := s.ops.take k) fun o ho => ⟨HZO.out.2 o (List.mem_of_mem_take ho), HD.out.2.2 o (List.mem_of_mem_take ho)⟩
            have h2 := HZO.out.1
            rw [List.length_take] at h1
            omega
          have hfin : codeS s = [0] ++ grp s.ops.length ++ (s.ops.map codeO).flatten := by unfold codeS; rw [if_pos HR.out.symm, if_neg (by rw [← HRP.out]; simp)]
          have HF := Lib.hid hfin
          have h0 : Hid (OwnB w6 w.heap.size v6 (l ++ [0] ++ grp s.ops.length ++ ((s.ops.take 0).map codeO).flatten) ∧ Below w.heap.size w w6) := Lib.hid ⟨by simpa using HX6.out.1, HX6.out.2.1⟩
          clear hfin hml
          go_wp2_with fail
          go_loopw [5, 35] (fun v0 i wr => ∃ k : Nat, i = .int .i64 k ∧ k ≤ s.ops.length ∧ Hid (OwnB wr w.heap.size v0 (l ++ [0] ++ grp s.ops.length ++ ((s.ops.take k).map codeO).flatten) ∧ Below w.heap.size w wr)) (fun _ i _ => s.ops.length - (intOf i).toNat)
          case atStart => exact ⟨0, rfl, by omega, h0⟩
          case round =>
            obtain ⟨k, rfl, hk, HH⟩ := hrel
            by_cases hlt : k < s.ops.length
            · have d1 : decide ((k : Int) < (s.ops.length : Int)) = true := decide_eq_true (by omega)
              obtain ⟨p, off, rfl, hpS, c0, c1, c2', c3, c4, c5, c6, c7, ho, x0, x1, x2, x3, x4, x5, x6, x7⟩ := HO.out.cells k hlt
              have hp := HH.out.2.block p (HS.out p hpS)
              have z0 := (World.cell?_of_block (a := ⟨p, off + k * 8, none⟩) hp).trans x0
              have z1 := (World.cell?_of_block (a := ⟨p, off + k * 8 + 1, none⟩) hp).trans x1
              have z2 := (World.cell?_of_block (a := ⟨p, off + k * 8 + 2, none⟩) hp).trans x2
              have z3 := (World.cell?_of_block (a := ⟨p, off + k * 8 + 3, none⟩) hp).trans x3
              have z4 := (World.cell?_of_block (a := ⟨p, off + k * 8 + 4, none⟩) hp).trans x4
              have z5 := (World.cell?_of_block (a := ⟨p, off + k * 8 + 5, none⟩) hp).trans x5
              have z6 := (World.cell?_of_block (a := ⟨p, off + k * 8 + 6, none⟩) hp).trans x6
              have z7 := (World.cell?_of_block (a := ⟨p, off + k * 8 + 7, none⟩) hp).trans x7
              have HOK := Lib.hid ho
              obtain ⟨PA, pc, a, b, c, d, e, TA, tc, he, hv, -, -, -, -, -, -, -⟩ := ho
              obtain ⟨VA, vc, VA', vc', hvs, -⟩ := hv.shape
              simp only [Value.agg.injEq, Array.mk.injEq, List.cons.injEq, and_true] at he hvs
              obtain ⟨rfl, rfl, rfl, rfl, rfl, rfl, rfl, rfl⟩ := he
              obtain ⟨rfl, rfl, rfl, rfl, rfl⟩ := hvs
              clear hv
              have hmay := HZO.out.2 _ (List.getElem_mem hlt)
              obtain ⟨acc, hacc⟩ : ∃ acc, acc = l ++ [0] ++ grp s.ops.length ++ ((s.ops.take k).map codeO).flatten := ⟨_, rfl⟩
              rw [← hacc] at HH
              have hal : acc.length ≤ 140737450000000 := by
                have h1 := HSM.out k
                have h2 := (grp_length s.ops.length).1
                have h3 := HLL.out
                rw [hacc]
                simp only [List.length_append, List.length_cons, List.length_nil]
                omega
              have HPO : Hid (∀ X : Obj, Calls Try.prog 28 #[u5, .agg #[.int .i64 s.ops[k].kind, .slice PA s.ops[k].path.length pc, .int .i64 s.ops[k].val.kind, .int .i64 s.ops[k].val.num, .string s.ops[k].val.text, .slice VA s.ops[k].val.items.length vc, .slice VA' s.ops[k].val.names.length vc', .slice TA s.ops[k].to.length tc]] (wr.alloc X) (PutsR w.heap.size (acc ++ codeO s.ops[k]) (wr.alloc X))) := Lib.hid fun X =>
                puto_any S s.ops[k] _ w.heap.size u5 acc (wr.alloc X) HS.out (HOK.out.keep fun b hb => (HH.out.2.alloc HH.out.2.size X).block b (HS.out b hb)) hmay (HD.out.1.2 _ (List.getElem_mem hlt)) (HD.out.2.2 _ (List.getElem_mem hlt)) (mayO_ok hmay).1 (mayO_ok hmay).2 (HH.out.1.below ((Below.refl _ _).alloc (Nat.le_refl _) _)) (Nat.le_trans HH.out.2.size (by simp)) (by omega)
              have HBA : Hid (∀ X : Obj, Below w.heap.size w (wr.alloc X)) := Lib.hid fun X => HH.out.2.alloc HH.out.2.size X
              have HACC : Hid (acc ++ codeO s.ops[k] = l ++ [0] ++ grp s.ops.length ++ ((s.ops.take (k + 1)).map codeO).flatten) := Lib.hid (by
                have h1 : ((s.ops.take (k + 1)).map codeO).flatten = ((s.ops.take k).map codeO).flatten ++ codeO s.ops[k] := by
                  rw [List.take_add_one, List.getElem?_eq_getElem hlt, List.map_append, List.flatten_append]
                  exact congrArg _ (List.append_nil _)
                rw [hacc, h1]
                simp only [List.append_assoc])
              clear x0 x1 x2 x3 x4 x5 x6 x7 hp hmay hacc hal
              go_wp2_with fail
              refine (HPO.out _).mono ?_
              rintro e w7 ⟨v7, rfl, hv7, hb7, hk7⟩
              rw [HACC.out] at hv7
              have HX7 : Hid (OwnB w7 w.heap.size v7 (l ++ [0] ++ grp s.ops.length ++ ((s.ops.take (k + 1)).map codeO).flatten) ∧ Below w.heap.size w w7) := Lib.hid ⟨hv7, (HBA.out _).trans hb7⟩
              clear hv7 hb7 hk7 z0 z1 z2 z3 z4 z5 z6 z7 HPO HBA
              have h16 := HZO.out.1
              go_wp2_with fail
              go_roundw
              case rel => exact ⟨k + 1, by go_num, by omega, HX7⟩
              case measure => simp [intOf]; omega
            · have hke : k = s.ops.length := by omega
              have d1 : decide ((k : Int) < (s.ops.length : Int)) = false := decide_eq_false (by omega)
              have HE : Hid (OwnB wr w.heap.size u5 (l ++ codeS s)) := Lib.hid (by
                have h9 := HH.out.1
                rw [hke, List.take_length] at h9
                rw [HF.out]
                simpa [List.append_assoc] using h9)
              clear hke
              go_wp2_with fail
              go_ret
              exact ⟨_, rfl, HE.out, HH.out.2⟩
      · go_simp
        refine hK _ _ (.inr ((Lib.OthersKept.refl _ _ _).alloc _)) ?_
        clear hK K
        obtain ⟨w10, hw10⟩ : ∃ U, U = w4.alloc (.cells #[.int .i64 (s.ops.length : Int)] 3) := ⟨_, rfl⟩
        obtain ⟨g10, hg10⟩ : ∃ g, g = w4.heap.size := ⟨_, rfl⟩
        have hkk : K8 w4 w10 := by rw [hw10]; exact (Lib.OthersKept.refl _ _ _).alloc _
        have hzz := HX4.out.2.1.size
        have HX10 : Hid (OwnB w10 w.heap.size (.slice A2 m c2) (l) ∧ Below w.heap.size w w10 ∧ SBox w10 w.heap.size s DA dc DA' dc' OA oc) := Lib.hid ⟨by rw [hw10]; exact HX4.out.1.below ((Below.refl _ _).alloc (Nat.le_refl _) _), by rw [hw10]; exact HX4.out.2.1.alloc hzz _, boxs_k8 HX4.out.2.2 hkk⟩
        have HN10 : Hid (NBox w10 g10 [s.ops.length]) := Lib.hid (by rw [hw10, hg10]; exact NBox.new _ [s.ops.length])
        rw [← hw10, ← hg10]
        clear hw10 hg10 hkk hzz
        refine ot_step rfl (fun K hK => ?_)
        go_simp
        refine hK _ _ (.inr ((Lib.OthersKept.refl _ _ _).alloc _)) ?_
        clear hK K
        obtain ⟨w11, hw11⟩ : ∃ U, U = w10.alloc (.cells #[.int .u8 0] 5) := ⟨_, rfl⟩
        obtain ⟨g11, hg11⟩ : ∃ g, g = w10.heap.size := ⟨_, rfl⟩
        have hkk : K8 w10 w11 := by rw [hw11]; exact (Lib.OthersKept.refl _ _ _).alloc _
        have hzz := HX10.out.2.1.size
        have HX11 : Hid (OwnB w11 w.heap.size (.slice A2 m c2) (l) ∧ Below w.heap.size w w11 ∧ SBox w11 w.heap.size s DA dc DA' dc' OA oc) := Lib.hid ⟨by rw [hw11]; exact HX10.out.1.below ((Below.refl _ _).alloc (Nat.le_refl _) _), by rw [hw11]; exact HX10.out.2.1.alloc hzz _, boxs_k8 HX10.out.2.2 hkk⟩
        have HG1 : Hid (w11.heap[g11]? = some (.cells #[.int .u8 0] 5 (0, 0))) := Lib.hid (by rw [hw11, hg11]; exact heap_alloc_new _ _)
        have HN11 := Lib.hid (HN10.out.k8 hkk)
        rw [← hw11, ← hg11]
        clear hw11 hg11 hkk hzz
        refine ot_step rfl (fun K hK => ?_)
        have hrow : w11.ownsRow w.heap.size 5 1 (.slice A2 m c2) m (bcells l) := by have h9 := HX11.out.1; unfold OwnB at h9; rw [← HM.out] at h9; exact h9
        refine wp_append_moved _ _ _ 39 rfl w.heap.size 5 i0 (.int .u8 0) 1 1 Try.underlying39 hi hz0 hz1 hz2 rfl (by decide) _ m (bcells l) rfl hrow ⟨g11, 0, none⟩ 1 1 [.int .u8 0] rfl rfl (one_news HG1.out) (by simp [Value.oneCell']) (by unfold maxLen; omega) (by omega) HX11.out.2.1.size ?_
        intro v12 w12 hv hg hwh
        have hkk : K8 w11 w12 := k8_grown HX11.out.1 hg
        refine hK _ _ (.inr hkk) ?_
        clear hK K
        have HX12 : Hid (OwnB w12 w.heap.size v12 (l ++ [0]) ∧ Below w.heap.size w w12 ∧ SBox w12 w.heap.size s DA dc DA' dc' OA oc) := Lib.hid ⟨by unfold OwnB; rw [List.length_append, ← HM.out, show bcells (l ++ [0]) = bcells l ++ [.int .u8 0] from by unfold bcells; rw [List.map_append]; rfl]; exact hv, below_own HX11.out.2.1 HX11.out.1 HX11.out.2.1.size hg, boxs_k8 HX11.out.2.2 hkk⟩
        have HN12 := Lib.hid (HN11.out.k8 hkk)
        clear hrow hv hg hwh hkk
        refine ot_step rfl (fun K hK => ?_)
        go_simp
        refine (pputcounts_any w.heap.size g10 1 [s.ops.length] v12 (l ++ [0]) w12 HX12.out.1 HX12.out.2.1.size HN12.out (by intro k hk; have := HOL.out; simp at hk; omega) (by have := HLL.out; simp; omega)).mono ?_
        rintro e w6 ⟨v6, rfl, hv6, hb6, hk6⟩
        go_simp
        refine hK _ _ (.inr hk6) ?_
        clear hK K
        have hgl : grpL [s.ops.length] = grp s.ops.length := by unfold grpL; simp
        rw [hgl] at hv6
        have HX6 : Hid (OwnB w6 w.heap.size v6 (l ++ [0] ++ grp s.ops.length) ∧ Below w.heap.size w w6 ∧ SBox w6 w.heap.size s DA dc DA' dc' OA oc) := Lib.hid ⟨hv6, HX12.out.2.1.trans hb6, boxs_k8 HX12.out.2.2 hk6⟩
        clear hv6 hb6 hk6 hgl
        refine ot_free ?_
        simp only [atNats, List.filterMap_cons, List.filterMap_nil, List.getElem?_toArray, List.getElem?_cons_succ, List.getElem?_cons_zero]
        show wpQuiet _ _ _ _ [_] _
        try simp only [List.getElem_toArray, List.getElem_cons_succ, List.getElem_cons_zero, Act.put, List.setIfInBounds_toArray, List.set_cons_succ, List.set_cons_zero] at *
        repeat (go_big_quiet_step (fail))
        refine wpQuiet_nil ?_
        refine ot_end ?_
        have y6 : w6.cell? ⟨w.heap.size, 6, none⟩ = some (.slice OA s.ops.length oc) := Go.Joins.cell_of_block HX6.out.2.2 6
        have HZO := Lib.hid (check_zero_ops HR.out.symm HRP.out.symm)
        have HSM : Hid (∀ k, (((s.ops.take k).map codeO).flatten).length ≤ 33600000) := Lib.hid fun k => by
          have h1 := codes_small (l := s.ops.take k) fun o ho => ⟨HZO.out.2 o (List.mem_of_mem_take ho), HD.out.2.2 o (List.mem_of_mem_take ho)⟩
          have h2 := HZO.out.1
          rw [List.length_take] at h1
          omega
        have hfin : codeS s = [0] ++ grp s.ops.length ++ (s.ops.map codeO).flatten := by unfold codeS; rw [if_pos HR.out.symm, if_neg (by rw [← HRP.out]; simp)]
        have HF := Lib.hid hfin
        have h0 : Hid (OwnB w6 w.heap.size v6 (l ++ [0] ++ grp s.ops.length ++ ((s.ops.take 0).map codeO).flatten) ∧ Below w.heap.size w w6) := Lib.hid ⟨by simpa using HX6.out.1, HX6.out.2.1⟩
        clear hfin hml
        go_wp2_with fail
        go_loopw [5, 35] (fun v0 i wr => ∃ k : Nat, i = .int .i64 k ∧ k ≤ s.ops.length ∧ Hid (OwnB wr w.heap.size v0 (l ++ [0] ++ grp s.ops.length ++ ((s.ops.take k).map codeO).flatten) ∧ Below w.heap.size w wr)) (fun _ i _ => s.ops.length - (intOf i).toNat)
        case atStart => exact ⟨0, rfl, by omega, h0⟩
        case round =>
          obtain ⟨k, rfl, hk, HH⟩ := hrel
          by_cases hlt : k < s.ops.length
          · have d1 : decide ((k : Int) < (s.ops.length : Int)) = true := decide_eq_true (by omega)
            obtain ⟨p, off, rfl, hpS, c0, c1, c2', c3, c4, c5, c6, c7, ho, x0, x1, x2, x3, x4, x5, x6, x7⟩ := HO.out.cells k hlt
            have hp := HH.out.2.block p (HS.out p hpS)
            have z0 := (World.cell?_of_block (a := ⟨p, off + k * 8, none⟩) hp).trans x0
            have z1 := (World.cell?_of_block (a := ⟨p, off + k * 8 + 1, none⟩) hp).trans x1
            have z2 := (World.cell?_of_block (a := ⟨p, off + k * 8 + 2, none⟩) hp).trans x2
            have z3 := (World.cell?_of_block (a := ⟨p, off + k * 8 + 3, none⟩) hp).trans x3
            have z4 := (World.cell?_of_block (a := ⟨p, off + k * 8 + 4, none⟩) hp).trans x4
            have z5 := (World.cell?_of_block (a := ⟨p, off + k * 8 + 5, none⟩) hp).trans x5
            have z6 := (World.cell?_of_block (a := ⟨p, off + k * 8 + 6, none⟩) hp).trans x6
            have z7 := (World.cell?_of_block (a := ⟨p, off + k * 8 + 7, none⟩) hp).trans x7
            have HOK := Lib.hid ho
            obtain ⟨PA, pc, a, b, c, d, e, TA, tc, he, hv, -, -, -, -, -, -, -⟩ := ho
            obtain ⟨VA, vc, VA', vc', hvs, -⟩ := hv.shape
            simp only [Value.agg.injEq, Array.mk.injEq, List.cons.injEq, and_true] at he hvs
            obtain ⟨rfl, rfl, rfl, rfl, rfl, rfl, rfl, rfl⟩ := he
            obtain ⟨rfl, rfl, rfl, rfl, rfl⟩ := hvs
            clear hv
            have hmay := HZO.out.2 _ (List.getElem_mem hlt)
            obtain ⟨acc, hacc⟩ : ∃ acc, acc = l ++ [0] ++ grp s.ops.length ++ ((s.ops.take k).map codeO).flatten := ⟨_, rfl⟩
            rw [← hacc] at HH
            have hal : acc.length ≤ 140737450000000 := by
              have h1 := HSM.out k
              have h2 := (grp_length s.ops.length).1
              have h3 := HLL.out
              rw [hacc]
              simp only [List.length_append, List.length_cons, List.length_nil]
              omega
            have HPO : Hid (∀ X : Obj, Calls Try.prog 28 #[u5, .agg #[.int .i64 s.ops[k].kind, .slice PA s.ops[k].path.length pc, .int .i64 s.ops[k].val.kind, .int .i64 s.ops[k].val.num, .string s.ops[k].val.text, .slice VA s.ops[k].val.items.length vc, .slice VA' s.ops[k].val.names.length vc', .slice TA s.ops[k].to.length tc]] (wr.alloc X) (PutsR w.heap.size (acc ++ codeO s.ops[k]) (wr.alloc X))) := Lib.hid fun X =>
              puto_any S s.ops[k] _ w.heap.size u5 acc (wr.alloc X) HS.out (HOK.out.keep fun b hb => (HH.out.2.alloc HH.out.2.size X).block b (HS.out b hb)) hmay (HD.out.1.2 _ (List.getElem_mem hlt)) (HD.out.2.2 _ (List.getElem_mem hlt)) (mayO_ok hmay).1 (mayO_ok hmay).2 (HH.out.1.below ((Below.refl _ _).alloc (Nat.le_refl _) _)) (Nat.le_trans HH.out.2.size (by simp)) (by omega)
            have HBA : Hid (∀ X : Obj, Below w.heap.size w (wr.alloc X)) := Lib.hid fun X => HH.out.2.alloc HH.out.2.size X
            have HACC : Hid (acc ++ codeO s.ops[k] = l ++ [0] ++ grp s.ops.length ++ ((s.ops.take (k + 1)).map codeO).flatten) := Lib.hid (by
              have h1 : ((s.ops.take (k + 1)).map codeO).flatten = ((s.ops.take k).map codeO).flatten ++ codeO s.ops[k] := by
                rw [List.take_add_one, List.getElem?_eq_getElem hlt, List.map_append, List.flatten_append]
                exact congrArg _ (List.append_nil _)
              rw [hacc, h1]
              simp only [List.append_assoc])
            clear x0 x1 x2 x3 x4 x5 x6 x7 hp hmay hacc hal
            go_wp2_with fail
            refine (HPO.out _).mono ?_
            rintro e w7 ⟨v7, rfl, hv7, hb7, hk7⟩
            rw [HACC.out] at hv7
            have HX7 : Hid (OwnB w7 w.heap.size v7 (l ++ [0] ++ grp s.ops.length ++ ((s.ops.take (k + 1)).map codeO).flatten) ∧ Below w.heap.size w w7) := Lib.hid ⟨hv7, (HBA.out _).trans hb7⟩
            clear hv7 hb7 hk7 z0 z1 z2 z3 z4 z5 z6 z7 HPO HBA
            have h16 := HZO.out.1
            go_wp2_with fail
            go_roundw
            case rel => exact ⟨k + 1, by go_num, by omega, HX7⟩
            case measure => simp [intOf]; omega
          · have hke : k = s.ops.length := by omega
            have d1 : decide ((k : Int) < (s.ops.length : Int)) = false := decide_eq_false (by omega)
            have HE : Hid (OwnB wr w.heap.size u5 (l ++ codeS s)) := Lib.hid (by
              have h9 := HH.out.1
              rw [hke, List.take_length] at h9
              rw [HF.out]
              simpa [List.append_assoc] using h9)
            clear hke
            go_wp2_with fail
            go_ret
            exact ⟨_, rfl, HE.out, HH.out.2⟩
    · go_wp2_with fail
      have q1 := cell_k8 (w := w3.drew) (i := 1) (show w3.drew.heap[w.heap.size]? = _ from HX3.out.2.2) (by decide) rfl
      have q2 := cell_k8 (w := w3.drew) (i := 2) (show w3.drew.heap[w.heap.size]? = _ from HX3.out.2.2) (by decide) rfl
      have q3 := cell_k8 (w := w3.drew) (i := 3) (show w3.drew.heap[w.heap.size]? = _ from HX3.out.2.2) (by decide) rfl
      have q4 := cell_k8 (w := w3.drew) (i := 4) (show w3.drew.heap[w.heap.size]? = _ from HX3.out.2.2) (by decide) rfl
      have q5 := cell_k8 (w := w3.drew) (i := 5) (show w3.drew.heap[w.heap.size]? = _ from HX3.out.2.2) (by decide) rfl
      clear y0
      refine wp_region_OT K8 (fun w => Lib.OthersKept.refl _ _ _) (fun a b c h k => h.trans k) [] (.pure [0, 3, 4] (.step 1 (.step 2 (.step 5 (.free [6] (.tail [])))))) (by kernel_rfl) (by kernel_rfl) (fun _ d _ _ _ h => by cases d <;> exact h) ?_
      generalize hw4 : w3.drew = w4 at *
      have HX4 : Hid (OwnB w4 w.heap.size (.slice A2 m c2) l ∧ Below w.heap.size w w4 ∧ SBox w4 w.heap.size s DA dc DA' dc' OA oc) := Lib.hid (by rw [← hw4]; exact ⟨HX3.out.1, HX3.out.2.1.drew, HX3.out.2.2⟩)
      clear hw4 HX3
      refine ot_pure ?_
      simp only [atNats, List.filterMap_cons, List.filterMap_nil, List.getElem?_toArray, List.getElem?_cons_succ, List.getElem?_cons_zero]
      show wpQuiet _ _ _ _ [_, _, _] _
      try simp only [List.getElem_toArray, List.getElem_cons_succ, List.getElem_cons_zero, Act.put, List.setIfInBounds_toArray, List.set_cons_succ, List.set_cons_zero] at *
      repeat (go_big_quiet_step (fail))
      refine wpQuiet_nil ?_
      clear q1 q2 q3 q4 q5
      refine ot_step rfl (fun K hK => ?_)
      go_simp
      refine hK _ _ (.inr ((Lib.OthersKept.refl _ _ _).alloc _)) ?_
      clear hK K
      have hml : m ≤ 140737400000000 := by rw [HM.out]; exact HLL.out
      have hB4 : w.heap.size < w4.heap.size := (Array.getElem?_eq_some_iff.1 HX4.out.2.2).1
      have HOA : Hid (∀ X : Obj, OwnB (w4.alloc X) w.heap.size (.slice A2 m c2) l) := Lib.hid fun X => HX4.out.1.below ((Below.refl _ _).alloc (Nat.le_refl _) _)
      have hrow : ∀ X : Obj, (w4.alloc X).ownsRow w.heap.size 5 1 (.slice A2 m c2) m (bcells l) := fun X => by have h9 := HOA.out X; unfold OwnB at h9; rw [← HM.out] at h9; exact h9
      refine ot_step rfl (fun K hK => ?_)
      refine wp_append_moved _ _ _ 39 rfl w.heap.size 5 i0 (.int .u8 0) 1 1 Try.underlying39 hi hz0 hz1 hz2 rfl (by decide) _ m (bcells l) rfl (hrow _) ⟨w4.heap.size, 0, none⟩ 1 1 [.int .u8 1] rfl rfl (cell_one_new _ _ _) (by simp [Value.oneCell']) (by unfold maxLen; omega) (by omega) (by simp; omega) ?_
      intro v5 w5 hv5 hg5 hwh5
      have hk5 : K8 (w4.alloc (.cells #[.int .u8 1] 5)) w5 := k8_grown (HOA.out _) hg5
      refine hK _ _ (.inr hk5) ?_
      clear hK K
      have HX5 : Hid (OwnB w5 w.heap.size v5 (l ++ [1]) ∧ Below w.heap.size w w5 ∧ SBox w5 w.heap.size s DA dc DA' dc' OA oc) := Lib.hid ⟨by unfold OwnB; rw [List.length_append, ← HM.out, show bcells (l ++ [1]) = bcells l ++ [.int .u8 1] from by unfold bcells; rw [List.map_append]; rfl]; exact hv5, below_own (HX4.out.2.1.alloc HX4.out.2.1.size _) (HOA.out _) (by simp; omega) hg5, boxs_k8 ((Below.heap_alloc w4 _ _ hB4).trans HX4.out.2.2) hk5⟩
      have HC := Lib.hid (putv_any S s.doc _ w.heap.size v5 (l ++ [1]) w5 (fun b hb => Nat.lt_of_lt_of_le (HS.out b hb) HX5.out.2.1.size) (HV.out.keep fun b hb => HX5.out.2.1.block b (HS.out b hb)) HD.out.1.1 HD.out.2.1 HX5.out.1 HX5.out.2.1.size (by have := HLL.out; simp; omega))
      clear hv5 hg5 hwh5 hrow hk5 hB4 HOA
      refine ot_step rfl (fun K hK => ?_)
      go_simp
      refine HC.out.mono ?_
      rintro e w6 ⟨v6, rfl, hv6, hb6, hk6⟩
      go_simp
      refine hK _ _ (.inr hk6) ?_
      clear hK K
      have HX6 : Hid (OwnB w6 w.heap.size v6 (l ++ [1] ++ encO s.doc) ∧ Below w.heap.size w w6 ∧ SBox w6 w.heap.size s DA dc DA' dc' OA oc) := Lib.hid ⟨hv6, HX5.out.2.1.trans hb6, boxs_k8 HX5.out.2.2 hk6⟩
      clear hv6 hb6 hk6 HC HX4
      refine ot_free ?_
      simp only [atNats, List.filterMap_cons, List.filterMap_nil, List.getElem?_toArray, List.getElem?_cons_succ, List.getElem?_cons_zero]
      show wpQuiet _ _ _ _ [_] _
      try simp only [List.getElem_toArray, List.getElem_cons_succ, List.getElem_cons_zero, Act.put, List.setIfInBounds_toArray, List.set_cons_succ, List.set_cons_zero] at *
      repeat (go_big_quiet_step (fail))
      refine wpQuiet_nil ?_
      refine ot_end ?_
      have hfin : codeS s = [1] ++ encO s.doc := by unfold codeS; rw [if_pos HR.out.symm, if_pos HRP.out.symm]
      have HF : Hid (OwnB w6 w.heap.size v6 (l ++ codeS s)) := Lib.hid (by rw [hfin, ← List.append_assoc]; exact HX6.out.1)
      clear hfin
      go_wp2_with fail
      go_ret
      exact ⟨_, rfl, HF.out, HX6.out.2.1⟩
  · have d1 : (r != 0) = true := by simpa using hr0
    have HE : Hid (codeS s = []) := Lib.hid (by unfold codeS; rw [if_neg (fun h => hr0 (HR.out.trans h))])
    clear hr0
    go_wp2_with fail
    go_ret
    exact ⟨_, rfl, by rw [HE.out, List.append_nil]; exact HX3.out.1, HX3.out.2.1⟩
end Go.Proofs.Ytipiplnhbecjeaa
