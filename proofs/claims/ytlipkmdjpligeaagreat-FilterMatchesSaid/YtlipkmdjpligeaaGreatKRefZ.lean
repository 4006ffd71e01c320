/- How large a value is and what is wrong with it, as the document's answer has it. -/
import Derived.Test.YtlipkmdjpligeaaGreatKVr
import Derived.Test.YtlipkmdjpligeaaGreatKValF
import Derived.Test.YtlipkmdjpligeaaGreatKValQ
import Derived.Test.YtlipkmdjpligeaaGreatKMath
import Derived.Lib.OthersKept
import Derived.Laws.AppendOwnNone
import Derived.Outline
import Derived.Deep.OwnRows
namespace Go.Proofs.YtlipkmdjpligeaaGreat
open Lib (hid)
set_option linter.unusedVariables false
set_option linter.unusedSimpArgs false
open Go.RowKit

theorem sizeL_drop {l : List VT} {j : Nat} (h : j < l.length) : sizeL (l.drop j) = sizeT l[j] + sizeL (l.drop (j + 1)) := by
 rw [List.drop_eq_getElem_cons h]; conv => lhs; unfold sizeL
theorem wrap64_add4 (a b c : Int) : wrap64 (wrap64 a + wrap64 b + c) = wrap64 (a + b + c) := by unfold wrap64; omega
theorem sizeL_nil : sizeL [] = 0 := by unfold sizeL; rfl
theorem sumN_drop {ns : List ByteArray} {j : Nat} (h : j < ns.length) : sumN (ns.drop j) = tsz ns[j] + sumN (ns.drop (j + 1)) := by
 rw [List.drop_eq_getElem_cons h]; simp only [sumN, List.map_cons, List.sum_cons]
theorem sumN_nil : sumN [] = 0 := rfl
theorem sizeT_mk2 (t : VT) : sizeT t = ownP t.kind t.num t.text t.items.length t.names + sizeL t.items := by cases t; unfold sizeT; rfl
theorem txt_len (s : ByteArray) : (txt s).length = tsz s := by unfold txt tsz; simp
theorem may_kinds {k i : Int} {s : ByteArray} {n : Nat} {ns : List ByteArray} (h : fitsP k i s n ns = true) : (k = 1 ∨ k = 2 ∨ k = 3 ∨ k = 4 ∨ k = 5 ∨ k = 6 ∨ k = 7) ∧ (k ≤ 5 → n = 0) ∧ (k = 7 → ns.length = n) := by
 unfold fitsP at h
 by_cases h1 : k = 1
 ·simp [h1] at h; omega
 ·by_cases h2 : k = 2
  ·simp [h2] at h; omega
  ·by_cases h3 : k = 3
   ·simp [h3] at h; omega
   ·by_cases h4 : k = 4 ∨ k = 5
    ·simp [h1, h2, h3, h4] at h; omega
    ·by_cases h6 : k = 6
     ·simp [h6] at h; omega
     ·by_cases h7 : k = 7
      ·simp [h7] at h; omega
      ·simp [h1, h2, h3, h4, h6, h7] at h

set_option maxHeartbeats 4000000 in
set_option maxRecDepth 100000 in
theorem rsize_any (S : Nat → Prop) : ∀ (n : Nat) (t : VT) (v : Value) (w : World), depthT t ≤ n → mayT t = true → (∀ b, S b → b < w.heap.size) → LV w S t v →
  Calls Tryz.prog 89 #[v] w fun e w' => e = .returned (.int .i64 (wrap64 (sizeT t))) ∧ Below w.heap.size w w' := by
 intro n
 induction n with
 | zero => intro t v w hd; cases t; rw [depthT_mk] at hd; omega
 | succ n ih =>
  intro t v w hd hm hS h
  have hrn := h.shape
  obtain ⟨A, c, A', c', rfl, lens, a7, a6, v1, hb0⟩ := one_var hS h
  obtain ⟨_, _, _, _, -, -, hri, hrs, -⟩ := hrn
  have hm2 := mayT_mk2 t
  rw [hm] at hm2
  have hm3 := (Bool.and_eq_true _ _).mp hm2.symm
  obtain ⟨hk, hk5, hk7⟩ := may_kinds hm3.1
  have hml := hm3.2
  have hdl : depthL t.items ≤ n := by
   have hdt : depthT t = depthL t.items + 1 := by cases t; exact depthT_mk _ _ _ _ _
   omega
  have hz := sizeT_mk2 t
  obtain ⟨Z, hZ⟩ : ∃ Z, Z = sizeT t := ⟨_, rfl⟩
  rw [← hZ] at hz ⊢
  clear hm2 hm3 hZ hd hm h
  cases t with
  | mk kd num txs its nms =>
  simp only [VT.kind, VT.num, VT.text, VT.items, VT.names] at *
  have HML := hid hml
  have HRI := hid hri
  have HRS := hid hrs
  have HK5 := hid hk5
  have HK7 := hid hk7
  have LENS := hid lens
  have A7 := hid a7
  have A6 := hid a6
  have P0 := hid v1
  have HB0 := hid hb0
  have HD := hid hdl
  have HZ := hid hz
  have hl := LENS.out.1
  clear lens a7 a6 v1 hb0 hk5 hk7 hri hrs hz hdl hml
  have HKC := hid hk
  clear hk
  go_enter Tryz.func89, Tryz.ntmps89
  rcases HKC.out with rfl | rfl | rfl | rfl | rfl | rfl | rfl
  ·have HL0 : Hid (its = []) := hid (List.eq_nil_of_length_eq_zero (HK5.out (by decide)))
   have HZ2 : Hid ((1 : Int) + ((sizeL (its.drop 0) : Nat) : Int) = Z) := hid (by rw [HZ.out]; unfold ownP; simp)
   go_wp2_with fail
   skip
   go_loopw [3, 4] (fun n i wr => ∃ (j : Nat) (m : Int), n = .int .i64 (wrap64 m) ∧ i = .int .i64 j ∧ j ≤ its.length ∧ Hid (m + ((sizeL (its.drop j) : Nat) : Int) = Z) ∧ Hid (Below w.heap.size w wr) ∧ Hid (Vr wr S w.heap.size (.mk 1 num txs its nms) A c A' c')) (fun _ i _ => its.length - (intOf i).toNat)
   case atStart => exact ⟨0, 1, by rw [wrap64_id (by omega) (by omega)], rfl, Nat.zero_le _, HZ2, HB0, P0⟩
   case round =>
    obtain ⟨j, m, rfl, rfl, hj, HI, HB, P⟩ := hrel
    clear P0 HB0
    have k3 : wr.cell? ⟨w.heap.size, 3, none⟩ = some (.slice A its.length c) := P.out.x.c3
    by_cases hlt : j < its.length
    ·exfalso
     rw [HL0.out] at hlt
     simp at hlt
    ·have HF : Hid (m = Z) := hid (by
      have h := HI.out
      rw [List.drop_eq_nil_of_le (by omega : its.length ≤ j), sizeL_nil] at h
      omega)
     go_wp2_with fail
     go_ret
     exact ⟨ret_i64 (by rw [HF.out]), HB.out⟩
  ·have HL0 : Hid (its = []) := hid (List.eq_nil_of_length_eq_zero (HK5.out (by decide)))
   have HF : Hid (wrap64 Z = 2) := hid (by rw [HZ.out, HL0.out, sizeL_nil]; unfold ownP; simp; rw [wrap64_id (by omega) (by omega)])
   go_wp2_with fail
   go_ret
   exact ⟨ret_i64 HF.out.symm, HB0.out⟩
  ·have HL0 : Hid (its = []) := hid (List.eq_nil_of_length_eq_zero (HK5.out (by decide)))
   have hg := (grp_length (zig num)).1
   have HF : Hid (wrap64 Z = 1 + ((grp (zig num)).length : Int)) := hid (by rw [HZ.out, HL0.out, sizeL_nil]; unfold ownP; simp; rw [wrap64_id (by omega) (by omega)])
   go_wp2_with fail
   refine (rint_any num _ HRI.out.1 HRI.out.2).mono ?_
   rintro e w1 ⟨v, rfl, hv, hb⟩
   obtain ⟨A2, c2, rfl⟩ := hv.slice
   have HB := hid (toStart HB0.out hb)
   clear hv hb
   go_wp2_with fail
   go_ret
   exact ⟨ret_i64 HF.out.symm, HB.out⟩
  ·have HL0 : Hid (its = []) := hid (List.eq_nil_of_length_eq_zero (HK5.out (by decide)))
   have hg := tsz_le txs HRS.out
   have HTL := txt_len txs
   have HF : Hid (wrap64 Z = 1 + ((txt txs).length : Int)) := hid (by rw [HTL, HZ.out, HL0.out, sizeL_nil]; unfold ownP; simp; rw [wrap64_id (by omega) (by omega)])
   have hg2 : (txt txs).length ≤ 140737488351300 := by omega
   clear hg HTL
   go_wp2_with fail
   refine (rtext_any txs _ HRS.out).mono ?_
   rintro e w1 ⟨v, rfl, hv, hb⟩
   obtain ⟨A2, c2, rfl⟩ := hv.slice
   have HB := hid (toStart HB0.out hb)
   clear hv hb
   go_wp2_with fail
   go_ret
   exact ⟨ret_i64 HF.out.symm, HB.out⟩
  ·have HL0 : Hid (its = []) := hid (List.eq_nil_of_length_eq_zero (HK5.out (by decide)))
   have hg := tsz_le txs HRS.out
   have HTL := txt_len txs
   have HF : Hid (wrap64 Z = 1 + ((txt txs).length : Int)) := hid (by rw [HTL, HZ.out, HL0.out, sizeL_nil]; unfold ownP; simp; rw [wrap64_id (by omega) (by omega)])
   have hg2 : (txt txs).length ≤ 140737488351300 := by omega
   clear hg HTL
   go_wp2_with fail
   refine (rtext_any txs _ HRS.out).mono ?_
   rintro e w1 ⟨v, rfl, hv, hb⟩
   obtain ⟨A2, c2, rfl⟩ := hv.slice
   have HB := hid (toStart HB0.out hb)
   clear hv hb
   go_wp2_with fail
   go_ret
   exact ⟨ret_i64 HF.out.symm, HB.out⟩
  ·have hg := (grp_length its.length).1
   have HZ2 : Hid ((1 + ((grp its.length).length : Int)) + ((sizeL (its.drop 0) : Nat) : Int) = Z) := hid (by rw [HZ.out]; unfold ownP; simp <;> omega)
   go_wp2_with fail
   refine (rcount_any its.length _ (by omega)).mono ?_
   rintro e w1 ⟨v, rfl, hv, hb⟩
   obtain ⟨A2, c2, rfl⟩ := hv.slice
   have P0 := hid (P0.out.call hb)
   have HB0 := hid (toStart HB0.out hb)
   clear hv hb
   go_wp2_with fail
   go_loopw [3, 4] (fun n i wr => ∃ (j : Nat) (m : Int), n = .int .i64 (wrap64 m) ∧ i = .int .i64 j ∧ j ≤ its.length ∧ Hid (m + ((sizeL (its.drop j) : Nat) : Int) = Z) ∧ Hid (Below w.heap.size w wr) ∧ Hid (Vr wr S w.heap.size (.mk 6 num txs its nms) A c A' c')) (fun _ i _ => its.length - (intOf i).toNat)
   case atStart => exact ⟨0, 1 + ((grp its.length).length : Int), by rw [wrap64_id (by omega) (by omega)], rfl, Nat.zero_le _, HZ2, HB0, P0⟩
   case round =>
    obtain ⟨j, m, rfl, rfl, hj, HI, HB, P⟩ := hrel
    clear P0 HB0
    have k3 : wr.cell? ⟨w.heap.size, 3, none⟩ = some (.slice A its.length c) := P.out.x.c3
    by_cases hlt : j < its.length
    ·obtain ⟨p, o, A2, e2, A3, e3, rfl, hp, h0, h1, h2, h3, h4, hx⟩ := item_at hS A7.out HB.out j hlt
     have HC := hid (ih its[j] _ wr (Nat.le_trans (depthL_le (List.getElem_mem hlt)) HD.out) (mayL_mem HML.out (List.getElem_mem hlt)) P.out.s hx)
     have HI2 : Hid (m + sizeT its[j] + ((sizeL (its.drop (j + 1)) : Nat) : Int) = Z) := hid (by rw [← HI.out, sizeL_drop hlt]; omega)
     generalize sizeT its[j] = C at *
     clear hx hp HI
     go_wp2_with fail
     refine HC.out.mono ?_
     rintro e w2 ⟨rfl, hb⟩
     have P2 := hid (P.out.call hb)
     have HB2 := hid (toStart HB.out hb)
     clear hb HC k3 h0 h1 h2 h3 h4 P HB
     have k0 : w2.cell? ⟨w.heap.size, 0, none⟩ = some (.int .i64 6) := P2.out.x.c0
     go_wp2_with fail
     clear k0
     go_roundw
     case rel => exact ⟨j + 1, m + C, by rw [wrap64_add, wrap64_add2], by go_num, by omega, HI2, HB2, P2⟩
     case measure => simp [intOf]; omega
    ·have HF : Hid (m = Z) := hid (by
      have h := HI.out
      rw [List.drop_eq_nil_of_le (by omega : its.length ≤ j), sizeL_nil] at h
      omega)
     go_wp2_with fail
     go_ret
     exact ⟨ret_i64 (by rw [HF.out]), HB.out⟩
  ·have hg := (grp_length its.length).1
   have HZ2 : Hid ((1 + ((grp its.length).length : Int)) + ((sizeL (its.drop 0) + sumN (nms.drop 0) : Nat) : Int) = Z) := hid (by rw [HZ.out]; unfold ownP; simp <;> omega)
   go_wp2_with fail
   refine (rcount_any its.length _ (by omega)).mono ?_
   rintro e w1 ⟨v, rfl, hv, hb⟩
   obtain ⟨A2, c2, rfl⟩ := hv.slice
   have P0 := hid (P0.out.call hb)
   have HB0 := hid (toStart HB0.out hb)
   clear hv hb
   go_wp2_with fail
   go_loopw [3, 4] (fun n i wr => ∃ (j : Nat) (m : Int), n = .int .i64 (wrap64 m) ∧ i = .int .i64 j ∧ j ≤ its.length ∧ Hid (m + ((sizeL (its.drop j) + sumN (nms.drop j) : Nat) : Int) = Z) ∧ Hid (Below w.heap.size w wr) ∧ Hid (Vr wr S w.heap.size (.mk 7 num txs its nms) A c A' c')) (fun _ i _ => its.length - (intOf i).toNat)
   case atStart => exact ⟨0, 1 + ((grp its.length).length : Int), by rw [wrap64_id (by omega) (by omega)], rfl, Nat.zero_le _, HZ2, HB0, P0⟩
   case round =>
    obtain ⟨j, m, rfl, rfl, hj, HI, HB, P⟩ := hrel
    clear P0 HB0
    have k3 : wr.cell? ⟨w.heap.size, 3, none⟩ = some (.slice A its.length c) := P.out.x.c3
    by_cases hlt : j < its.length
    ·obtain ⟨p, o, A2, e2, A3, e3, rfl, hp, h0, h1, h2, h3, h4, hx⟩ := item_at hS A7.out HB.out j hlt
     have HC := hid (ih its[j] _ wr (Nat.le_trans (depthL_le (List.getElem_mem hlt)) HD.out) (mayL_mem HML.out (List.getElem_mem hlt)) P.out.s hx)
     have ia : j < nms.length := by have := HK7.out (by simp); omega
     have HI2 : Hid (m + sizeT its[j] + tsz nms[j] + ((sizeL (its.drop (j + 1)) + sumN (nms.drop (j + 1)) : Nat) : Int) = Z) := hid (by rw [← HI.out, sizeL_drop hlt, sumN_drop ia]; omega)
     generalize sizeT its[j] = C at *
     clear hx hp HI
     go_wp2_with fail
     refine HC.out.mono ?_
     rintro e w2 ⟨rfl, hb⟩
     have P2 := hid (P.out.call hb)
     have HB2 := hid (toStart HB.out hb)
     clear hb HC k3 h0 h1 h2 h3 h4 P HB
     have k0 : w2.cell? ⟨w.heap.size, 0, none⟩ = some (.int .i64 7) := P2.out.x.c0
     obtain ⟨p', o', rfl, hp, t1, hsz⟩ := text_at hS A6.out HB2.out j ia
     have k4 : w2.cell? ⟨w.heap.size, 4, none⟩ = some (.slice (some ⟨p', o', none⟩) nms.length c') := P2.out.x.c4
     have hl2 := LENS.out.2
     obtain ⟨sn, hs⟩ : ∃ s, s = nms[j] := ⟨_, rfl⟩
     rw [← hs] at t1 hsz HI2
     have HSZ := hid hsz
     clear hp hs hsz
     go_wp2_with fail
     refine (rtext_any sn _ HSZ.out).mono ?_
     rintro e w3 ⟨v, rfl, hv, hb⟩
     obtain ⟨A9, c9, rfl⟩ := hv.slice
     have P3 := hid (P2.out.call hb)
     have HB3 := hid (toStart HB2.out hb)
     have HTL := hid (txt_len sn)
     clear hv hb k4 t1 P2 HB2 k0
     go_wp2_with fail
     go_roundw
     case rel => exact ⟨j + 1, m + C + tsz sn, by rw [HTL.out, wrap64_add, wrap64_add4], by go_num, by omega, HI2, HB3, P3⟩
     case measure => simp [intOf]; omega
    ·have HF : Hid (m = Z) := hid (by
      have hne : nms.length ≤ j := by have := HK7.out (by simp); omega
      have h := HI.out
      rw [List.drop_eq_nil_of_le (by omega : its.length ≤ j), sizeL_nil, List.drop_eq_nil_of_le hne, sumN_nil] at h
      omega)
     go_wp2_with fail
     go_ret
     exact ⟨ret_i64 (by rw [HF.out]), HB.out⟩

set_option maxHeartbeats 1000000 in
set_option maxRecDepth 100000 in
theorem rcheck_any (S : Nat → Prop) (t : VT) (v : Value) (w : World) (hd : depthT t ≤ 4611686018427387903) (hS : ∀ b, S b → b < w.heap.size) (h : LV w S t v) :
  Calls Tryz.prog 48 #[v] w fun e w' => e = .returned (.int .i64 (checkT t)) ∧ Below w.heap.size w w' := by
 obtain ⟨A, c, A', c', rfl, -, -, -, v1, hb0⟩ := one_var hS h
 have P := hid v1
 have HB := hid hb0
 have HR : Hid (checkT t = if mayT t = true then (if 8 < (depthT t : Int) then 21 else if 4096 < wrap64 (sizeT t) then 22 else 0) else 20) := hid rfl
 obtain ⟨R, hR⟩ : ∃ R, R = checkT t := ⟨_, rfl⟩
 rw [← hR] at HR ⊢
 obtain ⟨x, hx⟩ : ∃ x, x = mayT t := ⟨_, rfl⟩
 rw [← hx] at HR
 have HX := hid hx
 have HD := hid hd
 clear h v1 hb0 hR hx hd
 go_enter Tryz.func48, Tryz.ntmps48
 go_wp2_with fail
 refine (P.out.rmay HX.out).mono ?_
 rintro e w1 ⟨rfl, hb⟩
 have P1 := hid (P.out.call hb)
 have HB1 := hid (toStart HB.out hb)
 clear hb P HB
 cases x
 ·have HF : Hid (R = 20) := hid (by rw [HR.out]; simp)
  clear HR HX P1
  go_wp2_with fail
  go_ret
  exact ⟨ret_i64 HF.out.symm, HB1.out⟩
 ·have HR2 : Hid (R = if 8 < (depthT t : Int) then 21 else if 4096 < wrap64 (sizeT t) then 22 else 0) := hid (by rw [HR.out]; simp)
  have HDC := hid (rdepth_any S 4611686018427387903 t _ w1 HD.out (Nat.le_refl _) P1.out.s P1.out.v)
  have q0 := P1.out.x.c0
  have q1 := P1.out.x.c1
  have q2 := P1.out.x.c2
  have q3 := P1.out.x.c3
  have q4 := P1.out.x.c4
  clear HR
  go_wp2_with fail
  refine HDC.out.mono ?_
  rintro e w2 ⟨rfl, hb⟩
  have P2 := hid (P1.out.call hb)
  have HB2 := hid (toStart HB1.out hb)
  clear hb P1 HB1 HDC q0 q1 q2 q3 q4
  by_cases h8 : 8 < (depthT t : Int)
  ·have HF : Hid (R = 21) := hid (by rw [HR2.out, if_pos h8])
   clear HR2 HX P2
   go_wp2_with fail
   go_ret
   exact ⟨ret_i64 HF.out.symm, HB2.out⟩
  ·have HR3 : Hid (R = if 4096 < wrap64 (sizeT t) then 22 else 0) := hid (by rw [HR2.out, if_neg h8])
   have HSC := hid (rsize_any S (depthT t) t _ w2 (Nat.le_refl _) HX.out.symm P2.out.s P2.out.v)
   have q0 := P2.out.x.c0
   have q1 := P2.out.x.c1
   have q2 := P2.out.x.c2
   have q3 := P2.out.x.c3
   have q4 := P2.out.x.c4
   clear HR2 HX
   go_wp2_with fail
   refine HSC.out.mono ?_
   rintro e w3 ⟨rfl, hb⟩
   have HB3 := hid (toStart HB2.out hb)
   clear hb P2 HB2 HSC q0 q1 q2 q3 q4 h8
   generalize wrap64 (sizeT t) = C at *
   by_cases hz : 4096 < C
   ·have HF : Hid (R = 22) := hid (by rw [HR3.out, if_pos hz])
    clear HR3
    go_wp2_with fail
    go_ret
    exact ⟨ret_i64 HF.out.symm, HB3.out⟩
   ·have HF : Hid (R = 0) := hid (by rw [HR3.out, if_neg hz])
    clear HR3
    go_wp2_with fail
    go_ret
    exact ⟨ret_i64 HF.out.symm, HB3.out⟩
def eS : ByteArray := ⟨#[]⟩

/-! ### what bytes begin with -/

/-! ### numbers read are numbers put -/

/-! ### there and back -/
set_option maxRecDepth 100000

abbrev K8 (w w' : World) : Prop := Lib.OthersKept 5 Option.none w w'

end Go.Proofs.YtlipkmdjpligeaaGreat

/- Statements whose order Go leaves open, where two operations that do more than yield may come in either order: a walk along a tree of orders, with a relation of one's choice for what must stay while something that only yields is waited for. -/
namespace Go.Proofs.YtlipkmdjpligeaaGreat
set_option linter.unusedVariables false
set_option linter.unusedSimpArgs false
open Go.RowKit Go.Sort

structure LaterR (R : World → World → Prop) (w : World) where
 u : World
 h : R w u
abbrev CRR (R : World → World → Prop) (w : World) : World → Prop := fun u => ∃ p : LaterR R w, u = p.u

inductive OT where
 | tail (l : List Nat) : OT
 | pure (l : List Nat) (t : OT) : OT
 | free (l : List Nat) (t : OT) : OT
 | step (i : Nat) (t : OT) : OT
 | fork (i : Nat) (a : OT) (j : Nat) (b : OT) : OT

section
variable {P : Program} {ops : Array Oper} {Q : Exit → Act → World → Prop} {md : Region.Mode} {R : World → World → Prop} {T : List Nat}

def anyR (R : World → World → Prop) (T : List Nat) (P : Program) (md : Region.Mode) (ops : Array Oper) (Q : Exit → Act → World → Prop) : Nat → Array Bool → Act → World → Prop
 | 0, listed, a, w => Region.ready md ops listed = [] ∧ Q .normal a w
 | f + 1, listed, a, w => (Region.ready md ops listed = [] → Q .normal a w) ∧
   ∀ i ∈ Region.ready md ops listed, wpOp P ops Q i (fun a' w' => (i ∈ T ∨ R w w') ∧ anyR R T P md ops Q f (listed.setIfInBounds i true) a' w') a w
theorem any_of_anyR : ∀ (f : Nat) (listed : Array Bool) (a : Act) (w : World), anyR R T P md ops Q f listed a w → wpAny P md ops Q f listed a w
 | 0, _, _, _, h => h
 | f + 1, _, _, _, h => ⟨h.1, fun i hi => wpOp_mono (fun a' w' h' => any_of_anyR f _ a' w' h'.2) (h.2 i hi)⟩

def lastWait (md : Region.Mode) (ops : Array Oper) (T : List Nat) (i : Nat) : Bool := T.all fun j => match ops[j]? with
 | none => true
 | some o => o.after.toList.any fun e => Region.binds md e && Nat.beq e.on i

theorem anyR_first (hrr : ∀ w, R w w) (R2 : World → World → Prop) (hrr2 : ∀ w, R2 w w) (htr : ∀ a b c, R2 a b → R2 b c → R2 a c) {i : Nat} {oi : Oper} {v : Value} (hi : ops[i]? = some oi) (hT0 : (lastWait md ops T i = true ∧ ∀ a b, R a b → R2 a b) ∨ ∀ a b, R2 a b) (hsel : Region.noSelect ops = true) (hQ : ∀ c d v a w, Q (.panic c) (Act.put a d v) w → Q (.panic c) a w) :
  ∀ (f : Nat) (listed : Array Bool) (a : Act) (w : World),
   (∀ j oj, ops[j]? = some oj → j ≠ i → listed.getD j true = false → (∀ e ∈ oj.after, Region.binds md e = true → e.on ≠ i) → oi.apart ops oj = true) →
   i ∈ Region.ready md ops listed → YieldsIf P ops (fun u => R2 w u) oi v a →
   anyR R T P md ops Q f (listed.setIfInBounds i true) (a.put oi.dst v) w → anyR R T P md ops Q (f + 1) listed a w := by
 intro f
 induction f with
 | zero =>
  intro listed a w _ hr hy H
  refine ⟨fun h => absurd hr (by rw [h]; exact List.not_mem_nil), fun j hj => ?_⟩
  by_cases hji : j = i
  ·subst hji; exact hy.wpOp hi (hrr2 _) ⟨.inr (hrr _), H⟩
  ·exact absurd (ready_mono hj hji) (by rw [H.1]; exact List.not_mem_nil)
 | succ f ih =>
  intro listed a w hfree hr hy H
  refine ⟨fun h => absurd hr (by rw [h]; exact List.not_mem_nil), fun j hj => ?_⟩
  by_cases hji : j = i
  ·subst hji; exact hy.wpOp hi (hrr2 _) ⟨.inr (hrr _), H⟩
  ·obtain ⟨hjun, oj, hoj, hall⟩ := mem_ready.1 hj
   have hnot : ∀ e ∈ oj.after, Region.binds md e = true → e.on ≠ i := by
    intro e he hb heq
    have h1 := hall e he hb
    have h0 := (mem_ready.1 hr).1
    rw [heq] at h1
    rcases Nat.lt_or_ge i listed.size with h' | h'
    ·simp [h'] at h0 h1; rw [h0] at h1; cases h1
    ·simp [Array.getElem?_eq_none h'] at h1
   have hjT : lastWait md ops T i = true → j ∉ T := by
    intro hT hm
    have h1 := List.all_eq_true.1 hT j hm
    rw [hoj] at h1
    obtain ⟨e, he, hb⟩ := List.any_eq_true.1 h1
    simp only [Bool.and_eq_true] at hb
    exact hnot e (by simpa using he) hb.1 (Nat.eq_of_beq_eq_true hb.2)
   have h2 := wpOp_putIf (S := fun u => R2 w u) hoj (hfree j oj hoj hji hjun hnot) (fun cs b => Region.noSelect_spec hsel i oi cs b hi) (fun cs b => Region.noSelect_spec hsel j oj cs b hoj)
    (fun c a w => hQ c oi.dst v a w) hy (H.2 j (ready_mono hj hji))
   refine wpOp_mono (fun a' w' h3 => ?_) h2
   have hR : R2 w w' := by
    rcases hT0 with ⟨hT, himp⟩ | hall
    ·exact himp _ _ (h3.2.1.resolve_left (hjT hT))
    ·exact hall _ _
   refine ⟨h3.2.1, ih (listed.setIfInBounds j true) a' w' ?_ (ready_mono hr (Ne.symm hji)) (h3.1.imp (fun ⟨h1, h2⟩ => ⟨h1, fun u hu => h2 u (htr _ _ _ hR hu)⟩) id) ?_⟩
   ·intro k ok hk hki hun hno
    refine hfree k ok hk hki ?_ hno
    by_cases hjk : j = k
    ·subst hjk; exact hjun
    ·rw [getD_set_ne true hjk] at hun; exact hun
   ·rw [Array.setIfInBounds_comm _ _ hji]
    exact h3.2.2

/-! ### the tree, checked -/
def okTail (md : Region.Mode) (ops : Array Oper) (T : List Nat) : Nat → List Nat → Array Bool → Bool
 | 0, [], listed => (Region.ready md ops listed).isEmpty
 | f + 1, i :: r, listed => (ops[i]?).isSome && Region.ready md ops listed == [i] && T.contains i && okTail md ops T f r (listed.setIfInBounds i true)
 | _, _, _ => false
def okPure (all : Bool) (md : Region.Mode) (ops : Array Oper) (T : List Nat) : List Nat → Array Bool → Bool
 | [], _ => true
 | i :: r, listed => match ops[i]? with
  | none => false
  | some o => isPure o && (Region.ready md ops listed).contains i && Region.free md ops listed i && (all || lastWait md ops T i) && okPure all md ops T r (listed.setIfInBounds i true)
def setAll (l : List Nat) (listed : Array Bool) : Array Bool := l.foldl (fun x i => x.setIfInBounds i true) listed
def okOT (md : Region.Mode) (ops : Array Oper) (T : List Nat) : Nat → OT → Array Bool → Bool
 | f, .tail l, listed => okTail md ops T f l listed
 | f, .pure l t, listed => l.length ≤ f && okPure false md ops T l listed && okOT md ops T (f - l.length) t (setAll l listed)
 | f, .free l t, listed => l.length ≤ f && okPure true md ops T l listed && okOT md ops T (f - l.length) t (setAll l listed)
 | f, .step i t, listed => 1 ≤ f && (ops[i]?).isSome && Region.ready md ops listed == [i] && okOT md ops T (f - 1) t (listed.setIfInBounds i true)
 | f, .fork i a j b, listed => 1 ≤ f && (ops[i]?).isSome && (ops[j]?).isSome && Region.ready md ops listed == [i, j] && okOT md ops T (f - 1) a (listed.setIfInBounds i true) && okOT md ops T (f - 1) b (listed.setIfInBounds j true)

/-! ### the walk -/
def wpStepR (P : Program) (ops : Array Oper) (Q : Exit → Act → World → Prop) (o : Oper) (K : Act → World → Prop) (a : Act) (w : World) : Prop :=
 if Region.wanted o (yielded ops a.tmps) then o.wp P a w K Q else K (a.put o.dst undef) w
def wpTail (P : Program) (ops : Array Oper) (Q : Exit → Act → World → Prop) : List Oper → Act → World → Prop
 | [], a, w => Q .normal a w
 | o :: r, a, w => wpStepR P ops Q o (wpTail P ops Q r) a w
abbrev Always : World → World → Prop := fun _ _ => True
instance (w : World) : Inhabited (LaterR Always w) := ⟨⟨w, trivial⟩⟩
def wpOT (R : World → World → Prop) (T : List Nat) (P : Program) (ops : Array Oper) (Q : Exit → Act → World → Prop) : OT → Act → World → Prop
 | .tail l, a, w => wpTail P ops Q (atNats ops l) a w
 | .pure l t, a, w => wpQuiet P ops (CRR R w) (fun a' => wpOT R T P ops Q t a' w) (atNats ops l) a
 | .free l t, a, w => wpQuiet P ops (CRR Always w) (fun a' => wpOT R T P ops Q t a' w) (atNats ops l) a
 | .step i t, a, w => ∀ o, ops[i]? = some o → wpStepR P ops Q o (fun a' w' => (i ∈ T ∨ R w w') ∧ wpOT R T P ops Q t a' w') a w
 | .fork i x j y, a, w => (∀ o, ops[i]? = some o → wpStepR P ops Q o (fun a' w' => (i ∈ T ∨ R w w') ∧ wpOT R T P ops Q x a' w') a w) ∧ (∀ o, ops[j]? = some o → wpStepR P ops Q o (fun a' w' => (j ∈ T ∨ R w w') ∧ wpOT R T P ops Q y a' w') a w)

theorem wpOp_of_step {i : Nat} {o : Oper} {K : Act → World → Prop} {a : Act} {w : World} (ho : ops[i]? = some o) (h : wpStepR P ops Q o K a w) : wpOp P ops Q i K a w := by
 unfold wpOp wpStepR at *
 simp only [ho]
 split
 ·next hw => rw [if_pos hw] at h; exact .inl h
 ·next hw => rw [if_neg hw] at h; exact h
theorem step_mono {o : Oper} {K K' : Act → World → Prop} {a : Act} {w : World} (hk : ∀ a w, K a w → K' a w) (h : wpStepR P ops Q o K a w) : wpStepR P ops Q o K' a w := by
 unfold wpStepR at *
 split
 ·next hw => rw [if_pos hw] at h; exact Oper.wp_mono hk h
 ·next hw => rw [if_neg hw] at h; exact hk _ _ h
theorem atNats_cons {i : Nat} {r : List Nat} {o : Oper} (h : ops[i]? = some o) : atNats ops (i :: r) = o :: atNats ops r := by simp [atNats, h]
theorem anyR_only {i : Nat} {o : Oper} {f : Nat} {listed : Array Bool} {a : Act} {w : World} (ho : ops[i]? = some o) (hr : Region.ready md ops listed = [i])
  (h : wpStepR P ops Q o (fun a' w' => (i ∈ T ∨ R w w') ∧ anyR R T P md ops Q f (listed.setIfInBounds i true) a' w') a w) : anyR R T P md ops Q (f + 1) listed a w :=
 ⟨(fun h0 => by rw [hr] at h0; cases h0), fun j hj => by
  rw [hr] at hj
  obtain rfl : j = i := by simpa using hj
  exact wpOp_of_step ho h⟩
theorem anyR_tail : ∀ (f : Nat) (l : List Nat) (listed : Array Bool) (a : Act) (w : World), okTail md ops T f l listed = true → wpTail P ops Q (atNats ops l) a w → anyR R T P md ops Q f listed a w
 | 0, [], listed, a, w, hB, h => ⟨by unfold okTail at hB; simpa using hB, h⟩
 | 0, i :: r, listed, a, w, hB, h => by unfold okTail at hB; cases hB
 | f + 1, [], listed, a, w, hB, h => by unfold okTail at hB; cases hB
 | f + 1, i :: r, listed, a, w, hB, h => by
  unfold okTail at hB
  simp only [Bool.and_eq_true, beq_iff_eq] at hB
  obtain ⟨⟨⟨h1, h2⟩, h3⟩, h4⟩ := hB
  obtain ⟨o, ho⟩ := Option.isSome_iff_exists.1 h1
  rw [atNats_cons ho] at h
  exact anyR_only ho h2 (step_mono (fun a' w' h' => ⟨.inl (by simpa using h3), anyR_tail f r _ a' w' h4 h'⟩) h)
theorem yieldsR {o : Oper} {v : Value} {a : Act} {w : World} (hp : isPure o = true) (hw : Region.wanted o (yielded ops a.tmps) = true) (h : ∀ u, CRR R w u → o.quietAt P a (CRR R w) u v) :
  YieldsIf P ops (fun u => R w u) o v a := by
 refine .inl ⟨hw, fun u hu => ?_⟩
 have h1 := h u ⟨⟨u, hu⟩, rfl⟩
 unfold Oper.quietAt at h1
 cases hr : (execOp a.eval o).run P u with
 | halt x u' => rw [hr] at h1; exact absurd h1 (by simp [Oper.quietUpon])
 | ok n u' =>
  obtain ⟨x, rfl⟩ := pure_value hp hr
  rw [hr] at h1
  obtain ⟨rfl, rfl⟩ := h1
  rfl
theorem anyR_pure (hrr : ∀ w, R w w) (R2 : World → World → Prop) (all : Bool) (hrr2 : ∀ w, R2 w w) (htr : ∀ a b c, R2 a b → R2 b c → R2 a c) (h2 : if all then ∀ a b, R2 a b else ∀ a b, R a b → R2 a b) (hsel : Region.noSelect ops = true) (hQ : ∀ c d v a w, Q (.panic c) (Act.put a d v) w → Q (.panic c) a w) (f : Nat) {w : World} {K : Act → Prop} :
  ∀ (l : List Nat) (listed : Array Bool) (a : Act), okPure all md ops T l listed = true → (∀ a', K a' → anyR R T P md ops Q f (setAll l listed) a' w) → wpQuiet P ops (CRR R2 w) K (atNats ops l) a → anyR R T P md ops Q (l.length + f) listed a w
 | [], listed, a, _, hK, h => by
  have h1 := hK a h
  simpa [setAll] using h1
 | i :: r, listed, a, hB, hK, h => by
  unfold okPure at hB
  cases ho : ops[i]? with
  | none => rw [ho] at hB; cases hB
  | some o =>
   rw [ho] at hB
   simp only [Bool.and_eq_true] at hB
   obtain ⟨⟨⟨⟨hp, hr⟩, hk⟩, hT⟩, hB'⟩ := hB
   rw [atNats_cons ho] at h
   have hT' : (lastWait md ops T i = true ∧ ∀ a b, R a b → R2 a b) ∨ ∀ a b, R2 a b := by
    cases all with
    | true => exact .inr (by simpa using h2)
    | false => exact .inl ⟨by simpa using hT, by simpa using h2⟩
   have e : (i :: r).length + f = (r.length + f) + 1 := by simp; omega
   rw [e]
   unfold wpQuiet at h
   have hK' : ∀ a', K a' → anyR R T P md ops Q f (setAll r (listed.setIfInBounds i true)) a' w := fun a' h' => hK a' h'
   by_cases hw : Region.wanted o (yielded ops a.tmps) = true
   ·rw [if_pos hw] at h
    obtain ⟨v, h1, h3⟩ := h
    exact anyR_first hrr R2 hrr2 htr ho hT' hsel hQ _ listed a w (Region.free_spec ho hk) (by simpa using hr) (yieldsR hp hw h1) (anyR_pure hrr R2 all hrr2 htr h2 hsel hQ f r _ _ hB' hK' h3)
   ·rw [if_neg hw] at h
    exact anyR_first hrr R2 hrr2 htr ho hT' hsel hQ _ listed a w (Region.free_spec ho hk) (by simpa using hr) (.inr ⟨by simpa using hw, rfl⟩) (anyR_pure hrr R2 all hrr2 htr h2 hsel hQ f r _ _ hB' hK' h)
theorem anyR_of_OT (hrr : ∀ w, R w w) (htr : ∀ a b c, R a b → R b c → R a c) (hsel : Region.noSelect ops = true) (hQ : ∀ c d v a w, Q (.panic c) (Act.put a d v) w → Q (.panic c) a w) :
  ∀ (t : OT) (f : Nat) (listed : Array Bool) (a : Act) (w : World), okOT md ops T f t listed = true → wpOT R T P ops Q t a w → anyR R T P md ops Q f listed a w
 | .tail l, f, listed, a, w, hB, h => anyR_tail f l listed a w hB h
 | .pure l t, f, listed, a, w, hB, h => by
  unfold okOT at hB
  simp only [Bool.and_eq_true, decide_eq_true_eq] at hB
  obtain ⟨⟨h1, h2⟩, h3⟩ := hB
  have e : f = l.length + (f - l.length) := by omega
  rw [e]
  exact anyR_pure hrr R false hrr htr (by simp) hsel hQ _ l listed a h2 (fun a' h' => anyR_of_OT hrr htr hsel hQ t _ _ a' w h3 h') h
 | .free l t, f, listed, a, w, hB, h => by
  unfold okOT at hB
  simp only [Bool.and_eq_true, decide_eq_true_eq] at hB
  obtain ⟨⟨h1, h2⟩, h3⟩ := hB
  have e : f = l.length + (f - l.length) := by omega
  rw [e]
  exact anyR_pure hrr Always true (fun _ => trivial) (fun _ _ _ _ _ => trivial) (by simp [Always]) hsel hQ _ l listed a h2 (fun a' h' => anyR_of_OT hrr htr hsel hQ t _ _ a' w h3 h') h
 | .step i t, f, listed, a, w, hB, h => by
  unfold okOT at hB
  simp only [Bool.and_eq_true, decide_eq_true_eq, beq_iff_eq] at hB
  obtain ⟨⟨⟨h1, h2⟩, h3⟩, h4⟩ := hB
  obtain ⟨o, ho⟩ := Option.isSome_iff_exists.1 h2
  have e : f = (f - 1) + 1 := by omega
  rw [e]
  exact anyR_only ho h3 (step_mono (fun a' w' h' => ⟨h'.1, anyR_of_OT hrr htr hsel hQ t _ _ a' w' h4 h'.2⟩) (h o ho))
 | .fork i x j y, f, listed, a, w, hB, h => by
  unfold okOT at hB
  simp only [Bool.and_eq_true, decide_eq_true_eq, beq_iff_eq] at hB
  obtain ⟨⟨⟨⟨⟨h1, h2⟩, h3⟩, h4⟩, h5⟩, h6⟩ := hB
  obtain ⟨o, ho⟩ := Option.isSome_iff_exists.1 h2
  obtain ⟨o', ho'⟩ := Option.isSome_iff_exists.1 h3
  have e : f = (f - 1) + 1 := by omega
  rw [e]
  refine ⟨(fun h0 => by rw [h4] at h0; cases h0), fun k hk => ?_⟩
  rw [h4] at hk
  rcases List.mem_cons.1 hk with rfl | hk
  ·exact wpOp_of_step ho (step_mono (fun a' w' h' => ⟨h'.1, anyR_of_OT hrr htr hsel hQ x _ _ a' w' h5 h'.2⟩) (h.1 o ho))
  ·obtain rfl : k = j := by simpa using hk
   exact wpOp_of_step ho' (step_mono (fun a' w' h' => ⟨h'.1, anyR_of_OT hrr htr hsel hQ y _ _ a' w' h6 h'.2⟩) (h.2 o' ho'))
def okAll (ops : Array Oper) (T : List Nat) (t : OT) : Bool := Region.noSelect ops && okOT .any ops T ops.size t (Array.replicate ops.size false)
theorem wp_region_OT (R : World → World → Prop) (hrr : ∀ w, R w w) (htr : ∀ a b c, R a b → R b c → R a c) (T : List Nat) (t : OT) {id : Nat} {a : Act} {w : World} (hm : P.follows .mixedOrders = true) (hB : okAll ops T t = true)
  (hQ : ∀ c d v a w, Q (.panic c) (Act.put a d v) w → Q (.panic c) a w) (h : wpOT R T P ops Q t a w.drew) : (Code.region id ops true).wp P Q a w := by
 unfold okAll at hB
 simp only [Bool.and_eq_true] at hB
 exact wp_region_any hm (any_of_anyR (R := R) (T := T) _ _ _ _ (anyR_of_OT hrr htr hB.1 hQ t _ _ a w.drew hB.2 h))

/-! ### nodes, one at a time -/
theorem ot_pure {l : List Nat} {t : OT} {a : Act} {w : World} (h : wpQuiet P ops (CRR R w) (fun a' => wpOT R T P ops Q t a' w) (atNats ops l) a) : wpOT R T P ops Q (.pure l t) a w := h
theorem ot_free {l : List Nat} {t : OT} {a : Act} {w : World} (h : wpQuiet P ops (CRR Always w) (fun a' => wpOT R T P ops Q t a' w) (atNats ops l) a) : wpOT R T P ops Q (.free l t) a w := h
theorem ot_one {i : Nat} {o : Oper} {t : OT} {a : Act} {w : World}
  (h : ∀ K : Act → World → Prop, (∀ a' w', (i ∈ T ∨ R w w') → wpOT R T P ops Q t a' w' → K a' w') → if Region.wanted o (yielded ops a.tmps) = true then o.wp P a w K Q else K (a.put o.dst undef) w) :
  wpStepR P ops Q o (fun a' w' => (i ∈ T ∨ R w w') ∧ wpOT R T P ops Q t a' w') a w := h _ fun _ _ h1 h2 => ⟨h1, h2⟩
theorem ot_step {i : Nat} {o : Oper} {t : OT} {a : Act} {w : World} (ho : ops[i]? = some o)
  (h : ∀ K : Act → World → Prop, (∀ a' w', (i ∈ T ∨ R w w') → wpOT R T P ops Q t a' w' → K a' w') → if Region.wanted o (yielded ops a.tmps) = true then o.wp P a w K Q else K (a.put o.dst undef) w) :
  wpOT R T P ops Q (.step i t) a w := fun o' ho' => by
 rw [ho] at ho'
 injection ho' with e
 subst e
 exact ot_one h
theorem ot_end {a : Act} {w : World} (h : Q .normal a w) : wpOT R T P ops Q (.tail []) a w := h
end
end Go.Proofs.YtlipkmdjpligeaaGreat

/- Values made, and copied. -/
namespace Go.Proofs.YtlipkmdjpligeaaGreat
open Lib (hid)
set_option linter.unusedVariables false
set_option linter.unusedSimpArgs false
open Go.RowKit

theorem Tryz.infoStr : (Tryz.prog.info? 9).map (fun i => (i.zero, i.size, i.bytes)) = some (some (.string ⟨#[]⟩), 1, 16) := by kernel_rfl
theorem Tryz.infoVal : (Tryz.prog.info? 27).map (fun i => (i.zero, i.size, i.bytes)) = some (some (.agg #[.int .i64 0, .int .i64 0, .string ⟨#[]⟩, .slice none 0 0, .slice none 0 0]), 5, 80) := by kernel_rfl

theorem strs_nil (w : World) (S : Nat → Prop) (A : Option Addr) : StrsAt w S A [] := fun h => absurd h (by simp)
theorem lva_nil (w : World) (S : Nat → Prop) (A : Option Addr) : LVA w S A [] := fun h => absurd h (by simp)
theorem leaf_lv (w : World) (S : Nat → Prop) (k i : Int) (s : ByteArray) (hk : Rng k) (hi : Rng i) (hs : s.size ≤ 140737488351232) :
  LV w S (.mk k i s [] []) (.agg #[.int .i64 k, .int .i64 i, .string s, .slice none 0 0, .slice none 0 0]) := LV.mk hk hi hs (by simp) (by simp) (strs_nil _ _ _) (lva_nil _ _ _)

section
set_option maxHeartbeats 400000
variable (w : World)
end

/-! ### names copied -/
def New (B : Nat) (w : World) : Nat → Prop := fun b => B ≤ b ∧ b < w.heap.size
theorem run_append_nothing (A : Option Addr) (c : Nat) (w : World) (ty : TypeId) : (Builtin.append_ #[22, 22] ty #[.slice none 0 0, .slice A 0 c]).run Tryz.prog w = .ok (.slice none 0 0) w := by
 obtain ⟨i0, hi, -, -, -⟩ := info_parts Tryz.infoStr
 cases A <;> simp [Builtin.append_, run_underlying Tryz.underlying22, sizeOf, typeInfo, hi, Builtin.lenOf, Builtin.firstCells, loadCells, loadCellsFrom]
theorem addr_at (b off i : Nat) : ((⟨b, off, none⟩ : Addr).add i) = ⟨b, off + i, none⟩ := by
 unfold Addr.add
 split
 ·next h => simp [h]
 ·rfl
theorem wpList_append_nothing {w : World} {ops : Array Oper} {rest : List Oper} {o : Oper} {a : Act} {Q : Exit → Act → World → Prop} (hgd : o.guard = none) (s x : Operand)
  (ho : o.op = .call { callee := .builtin .append, args := #[s, x], argTypes := #[22, 22] }) (hs : a.eval s = .slice none 0 0) (A : Option Addr) (c : Nat) (hx : a.eval x = .slice A 0 c)
  (h : wpList Tryz.prog ops Q rest (a.put o.dst (.slice none 0 0)) w) : wpList Tryz.prog ops Q (o :: rest) a w := by
 refine wpList_plain hgd fun K hK => ?_
 have hrun := run_append_nothing A c w o.type
 unfold Oper.wp
 simp [execOp, ho, resolve, invoke, builtin, hs, hx, hrun, Result.andThen]
 exact hK _ _ h
theorem strs_of_row {w : World} {B : Nat} {v : Value} {ns : List ByteArray} (h : w.ownsRow B 9 1 v ns.length (ns.map Value.string)) (hs : ∀ s ∈ ns, s.size ≤ 140737488351232) : ∃ A c, v = .slice A ns.length c ∧ StrsAt w (New B w) A ns := by
 rcases h.2 with ⟨rfl, h2⟩ | ⟨g, cap, cur, rfl, hg, hh, r⟩
 ·exact ⟨none, 0, by rw [h2], fun hp => absurd hp (by omega)⟩
 ·refine ⟨_, _, rfl, fun hp => ⟨g, 0, rfl, ⟨hg, (Array.getElem?_eq_some_iff.1 hh).1⟩, fun i hi => ⟨?_, hs _ (List.getElem_mem hi)⟩⟩⟩
  have h' : w.ownsRow B 9 1 (.slice (some ⟨g, 0, none⟩) ns.length cap) ns.length (ns.map Value.string) := h
  have := h'.cells (g := g) rfl i (.string ns[i]) (by simp [List.getElem?_map, List.getElem?_eq_getElem hi])
  rw [addr_at] at this
  exact this

set_option maxHeartbeats 400000 in
theorem copyNames_any (S : Nat → Prop) (A : Option Addr) (c : Nat) (ns : List ByteArray) (w : World) (h : StrsAt w S A ns) (hl : ns.length ≤ 8796093021952) :
  Calls Tryz.prog 143 #[.slice A ns.length c] w fun e w' => ∃ A' c', e = .returned (.slice A' ns.length c') ∧ StrsAt w' (New w.heap.size w') A' ns ∧ Below w.heap.size w w' := by
 rcases ns with _ | ⟨n0, r⟩
 ·go_enter Tryz.func143, Tryz.ntmps143
  go_wp2_with (at_builtin; go_must (refine wpList_append_nothing rfl _ _ rfl rfl A c rfl ?_))
  go_ret
  exact ⟨none, 0, rfl, strs_nil _ _ _, Below.refl _ _⟩
 ·obtain ⟨b, off, rfl, hb, hc⟩ := h (by simp)
  generalize hns : n0 :: r = ns at *
  obtain ⟨i0, hi, hz0, hz1, hz2⟩ := info_parts Tryz.infoStr
  have HL := hid hl
  have HC := hid hc
  clear hl hc h
  have hnw : ∀ j u, (ns.map Value.string)[j]? = some u → w.cell? ((⟨b, off, none⟩ : Addr).add j) = some u := by
   intro j u hj
   have hjl : j < ns.length := by have := (List.getElem?_eq_some_iff.1 hj).1; simpa using this
   rw [addr_at, (HC.out j hjl).1]
   simpa [List.getElem?_map, List.getElem?_eq_getElem hjl] using hj
  have HNW := hid hnw
  clear hnw
  go_enter Tryz.func143, Tryz.ntmps143
  go_wp2_with (at_builtin; go_must (refine wpList_append_own _ rfl _ _ 22 rfl w.heap.size 9 i0 (.string ⟨#[]⟩) 1 16 Tryz.underlying22 hi hz0 hz1 hz2 rfl (by decide) _ 0 [] rfl (World.ownsRow_nil _ _ _ _) ⟨b, off, none⟩ ns.length c (ns.map Value.string) rfl ?d0 HNW.out ?d1 ?d2 ?d3 ?d4 ?_))
  case d0 => simp
  case d1 => intro u hu; obtain ⟨_, _, rfl⟩ := List.mem_map.1 hu; rfl
  case d2 => have := HL.out; unfold maxLen; omega
  case d3 => have := HL.out; omega
  case d4 => exact Nat.le_refl _
  intro v' w' hown hg _
  obtain ⟨A', c', rfl, hst⟩ := strs_of_row hown (fun s hs => by obtain ⟨i, hi, rfl⟩ := List.mem_iff_getElem.1 hs; exact (HC.out i hi).2)
  have HST := hid hst
  have HB := hid (below_of_grown (B := w.heap.size) hg (Nat.le_refl _) (fun k hk => by cases hk))
  clear hown hg hst
  go_wp2_with fail
  go_ret
  exact ⟨_, _, rfl, HST.out, HB.out⟩
theorem LVs_of_row {w : World} {S : Nat → Prop} {G n : Nat} {f : Nat → Value} (hr : w.rowIs G 27 n f) : ∀ (l : List VT) (off : Nat), off + l.length * 5 ≤ n →
  (∀ i (h : i < l.length), LV w S l[i] (.agg #[f (off + i * 5), f (off + i * 5 + 1), f (off + i * 5 + 2), f (off + i * 5 + 3), f (off + i * 5 + 4)])) → LVs w S G off l
 | [], _, _, _ => by unfold LVs; trivial
 | t :: r, off, hn, h => by
  simp only [List.length_cons] at hn
  unfold LVs
  refine ⟨⟨_, _, _, _, _, hr.cell (by omega), hr.cell (by omega), hr.cell (by omega), hr.cell (by omega), hr.cell (by omega), by have := h 0 (by simp); simpa only [Nat.zero_mul, Nat.add_zero, List.getElem_cons_zero] using this⟩, LVs_of_row hr r (off + 5) (by omega) fun i hi => ?_⟩
  have := h (i + 1) (by simpa using hi)
  have e : off + 5 + i * 5 = off + (i + 1) * 5 := by omega
  rw [e]
  simpa using this
theorem row_of_made {w : World} {G n : Nat} {v : Value} {xs : List Value} {B : Nat} (h : w.ownsRow B 27 5 (.slice (some ⟨G, 0, none⟩) n n) n xs) : ∃ f, w.rowIs G 27 (n * 5) f := by
 rcases h.2 with ⟨h1, _⟩ | ⟨g, cap, cur, hv, hg, hh, h1, h2, h3, _⟩
 ·cases h1
 ·injection hv with e1 e2 e3
  injection e1 with e1
  injection e1 with e1
  subst e1; subst e3
  exact ⟨fun i => cur[i]?.getD undef, cur, hh, h3, fun i hi => by show cur[i]? = some (cur[i]?.getD undef); rw [Array.getElem?_eq_getElem (by omega)]; rfl⟩

def put5 (f : Nat → Value) (p : Nat) (v0 v1 v2 v3 v4 : Value) : Nat → Value := fun i => if i = p + 4 then v4 else if i = p + 3 then v3 else if i = p + 2 then v2 else if i = p + 1 then v1 else if i = p then v0 else f i
def set5 (w : World) (G p : Nat) (v0 v1 v2 v3 v4 : Value) : World := ((((w.setCell ⟨G, p, none⟩ v0).setCell ⟨G, p + 1, none⟩ v1).setCell ⟨G, p + 2, none⟩ v2).setCell ⟨G, p + 3, none⟩ v3).setCell ⟨G, p + 4, none⟩ v4
theorem row_set5 {w : World} {G n p : Nat} {f : Nat → Value} (hr : w.rowIs G 27 n f) (v0 v1 v2 v3 v4 : Value) : (set5 w G p v0 v1 v2 v3 v4).rowIs G 27 n (put5 f p v0 v1 v2 v3 v4) :=
 ((((hr.set p v0).set (p + 1) v1).set (p + 2) v2).set (p + 3) v3).set (p + 4) v4
theorem set5_size (w : World) (G p : Nat) (v0 v1 v2 v3 v4 : Value) : (set5 w G p v0 v1 v2 v3 v4).heap.size = w.heap.size := by simp [set5, World.setCell]
theorem set5_block {w : World} {G p b : Nat} (v0 v1 v2 v3 v4 : Value) (h : b ≠ G) : (set5 w G p v0 v1 v2 v3 v4).heap[b]? = w.heap[b]? := by
 unfold set5
 rw [Below.heap_setCell _ _ _ _ h, Below.heap_setCell _ _ _ _ h, Below.heap_setCell _ _ _ _ h, Below.heap_setCell _ _ _ _ h, Below.heap_setCell _ _ _ _ h]
theorem set5_below {B : Nat} {a w : World} {G p : Nat} (v0 v1 v2 v3 v4 : Value) (h : Below B a w) (hG : B ≤ G) : Below B a (set5 w G p v0 v1 v2 v3 v4) := by
 unfold set5
 exact ((((h.setCell hG _).setCell hG _).setCell hG _).setCell hG _).setCell hG _
theorem put5_old {f : Nat → Value} {p i : Nat} {v0 v1 v2 v3 v4 : Value} (h : i < p) : put5 f p v0 v1 v2 v3 v4 i = f i := by
 unfold put5
 rw [if_neg (by omega), if_neg (by omega), if_neg (by omega), if_neg (by omega), if_neg (by omega)]
theorem put5_new (f : Nat → Value) (p : Nat) (v0 v1 v2 v3 v4 : Value) : put5 f p v0 v1 v2 v3 v4 p = v0 ∧ put5 f p v0 v1 v2 v3 v4 (p + 1) = v1 ∧ put5 f p v0 v1 v2 v3 v4 (p + 2) = v2 ∧ put5 f p v0 v1 v2 v3 v4 (p + 3) = v3 ∧ put5 f p v0 v1 v2 v3 v4 (p + 4) = v4 := by
 unfold put5
 refine ⟨?_, ?_, ?_, ?_, ?_⟩
 ·rw [if_neg (by omega), if_neg (by omega), if_neg (by omega), if_neg (by omega), if_pos rfl]
 ·rw [if_neg (by omega), if_neg (by omega), if_neg (by omega), if_pos rfl]
 ·rw [if_neg (by omega), if_neg (by omega), if_pos rfl]
 ·rw [if_neg (by omega), if_pos rfl]
 ·rw [if_pos rfl]
def Part (w : World) (G : Nat) (l : List VT) (f : Nat → Value) (j : Nat) : Prop := ∀ i (h : i < l.length), i < j → LV w (fun b => G < b ∧ b < w.heap.size) l[i] (.agg #[f (i * 5), f (i * 5 + 1), f (i * 5 + 2), f (i * 5 + 3), f (i * 5 + 4)])
theorem Part.next {w w3 : World} {G j : Nat} {l : List VT} {f : Nat → Value} {v0 v1 v2 v3 v4 : Value} (h : Part w G l f j) (hj : j < l.length) (hs : w.heap.size ≤ w3.heap.size) (hG : G < w.heap.size) (hb : ∀ b, b < w.heap.size → b ≠ G → w3.heap[b]? = w.heap[b]?)
  (hx : LV w3 (fun b => w.heap.size ≤ b ∧ b < w3.heap.size) l[j] (.agg #[v0, v1, v2, v3, v4])) : Part (set5 w3 G (j * 5) v0 v1 v2 v3 v4) G l (put5 f (j * 5) v0 v1 v2 v3 v4) (j + 1) := by
 intro i hi hij
 have hkeep : ∀ {S : Nat → Prop} {t : VT} {v : Value}, (∀ b, S b → b ≠ G) → LV w3 S t v → LV (set5 w3 G (j * 5) v0 v1 v2 v3 v4) S t v := fun hS hv => hv.keep fun b hb => set5_block v0 v1 v2 v3 v4 (hS b hb)
 by_cases e : i = j
 ·subst e
  obtain ⟨e0, e1, e2, e3, e4⟩ := put5_new f (i * 5) v0 v1 v2 v3 v4
  rw [e0, e1, e2, e3, e4]
  refine (hkeep (fun b hb => by have := hb.1; omega) hx).imp fun b hb => ⟨by have := hb.1; omega, by rw [set5_size]; exact hb.2⟩
 ·rw [put5_old (by omega), put5_old (by omega), put5_old (by omega), put5_old (by omega), put5_old (by omega)]
  have h1 := h i hi (by omega)
  have h2 := h1.keep (w' := w3) fun b hb' => hb b hb'.2 (by have := hb'.1; omega)
  exact (hkeep (fun b hb => by have := hb.1; omega) h2).imp fun b hb => ⟨hb.1, by rw [set5_size]; omega⟩

theorem enters_clone : Enters 99 := fun _ _ => by simp [callFunc, go_sem, Tryz.func99, Tryz.f99]
def CloneOK (n : Nat) : Prop := ∀ (S : Nat → Prop) (t : VT) (v : Value) (w : World), depthT t ≤ n → (∀ b, S b → b < w.heap.size) → LV w S t v →
 Calls Tryz.prog 99 #[v] w fun e w' => ∃ v', e = .returned v' ∧ LV w' (New w.heap.size w') t v' ∧ Below w.heap.size w w'

set_option maxHeartbeats 2000000 in
set_option maxRecDepth 100000 in
theorem all_of_clone {n : Nat} (hcl : CloneOK n) (S : Nat → Prop) (A : Option Addr) (c : Nat) (l : List VT) (w : World) (hd : depthL l ≤ n) (hS : ∀ b, S b → b < w.heap.size) (h : LVA w S A l) (hl : l.length ≤ 1759218604390) :
  Calls Tryz.prog 142 #[.slice A l.length c, .func (.func 99) #[] #[]] w fun e w' => ∃ A' c', e = .returned (.slice A' l.length c') ∧ LVA w' (New w.heap.size w') A' l ∧ Below w.heap.size w w' := by
 by_cases hl0 : l.length = 0
 ·have hnil := List.eq_nil_of_length_eq_zero hl0
  subst hnil
  go_enter Tryz.func142, Tryz.ntmps142
  go_wp2_with fail
  go_ret
  exact ⟨none, 0, rfl, lva_nil _ _ _, Below.refl _ _⟩
 ·obtain ⟨b, off, rfl, hb, hls⟩ := h (by omega)
  obtain ⟨i0, hi, hz0, hz1, hz2⟩ := info_parts Tryz.infoVal
  have HL := hid hl
  have HLS := hid hls
  have hne : ((l.length : Int) == 0) = false := by simp; intro h; simp [h] at hl0
  have hlb : l.length ≤ 4611686018427387904 := by omega
  have hcf : ∀ (args : Array Value) (W : World), (callFunc 99 args).run Tryz.prog W = .ok (.enter 99 args) W := enters_clone
  clear h hls hl
  go_enter Tryz.func142, Tryz.ntmps142
  go_wp2_with (at_make; go_must (refine wpList_make_full _ rfl _ _ 25 rfl w.heap.size 27 i0 _ 5 Tryz.underlying25 hi hz0 hz1 .i64 .i64 _ _ l.length rfl rfl rfl rfl ?b0 ?b1 ?b2 ?_))
  case b0 => have := HL.out; rw [hz2]; omega
  case b1 => have := HL.out; unfold maxLen; omega
  case b2 => exact Nat.le_refl _
  intro w1 hown hg
  obtain ⟨f0, hrow⟩ := row_of_made hown (v := .slice none 0 0)
  have hb1 : Below w.heap.size w w1 := below_of_grown hg (Nat.le_refl _) (fun k hk => by cases hk)
  have HROW := hid hrow
  have HB1 := hid hb1
  clear hown hg hrow hb1
  obtain ⟨G, hG⟩ : ∃ G, G = w.heap.size := ⟨_, rfl⟩
  rw [← hG] at HROW ⊢
  have HG := hid hG
  clear hG
  go_wp2_with fail
  have hGlt := HROW.out.lt
  go_loopw [16] (fun i wr => ∃ (j : Nat) (f : Nat → Value), i = .int .i64 j ∧ j ≤ l.length ∧ Hid (wr.rowIs G 27 (l.length * 5) f ∧ Part wr G l f j ∧ Below w.heap.size w wr)) (fun i _ => l.length - (intOf i).toNat)
  case atStart => exact ⟨0, f0, rfl, Nat.zero_le _, HROW.out, fun i _ h => absurd h (by omega), HB1.out⟩
  case round =>
   obtain ⟨j, f, rfl, hj, HI⟩ := hrel
   by_cases hlt : j < l.length
   ·obtain ⟨c0, c1, c2, c3, c4, h0, h1, h2, h3, h4, hx⟩ := HLS.out.at j hlt
    obtain ⟨A2, e2, A3, e3, hag, -⟩ := hx.shape
    injection hag with hag; injection hag with hag
    injection hag with y0 hag; injection hag with y1 hag; injection hag with y2 hag; injection hag with y3 hag; injection hag with y4 hag
    subst y0 y1 y2 y3 y4
    have hw : ∀ o, wr.cell? ⟨b, o, none⟩ = w.cell? ⟨b, o, none⟩ := fun o => HI.out.2.2.cell (p := ⟨b, o, none⟩) (hS b hb)
    rw [← hw] at h0 h1 h2 h3 h4
    have hS1 := sub_below hS HI.out.2.2
    have hS2 : ∀ b, S b → b < (wr.alloc (.cells #[.int .i64 l[j].kind, .int .i64 l[j].num, .string l[j].text, .slice A2 l[j].items.length e2, .slice A3 l[j].names.length e3] 27)).heap.size := sub_alloc hS1 _
    have IH := hid (hcl S l[j] _ _ (Nat.le_trans (depthL_le (List.getElem_mem hlt)) hd) hS2 ((hx.below hS HI.out.2.2).alloc hS1 _))
    have hGr := HI.out.1.lt
    clear hx hw hS1 hS2
    go_wp2_with fail
    refine IH.out.mono ?_
    rintro e w3 ⟨v', rfl, hv, hb3⟩
    obtain ⟨A4, e4, A5, e5, rfl, -⟩ := hv.shape
    have hb3' : Below wr.heap.size wr w3 := toStart (below_box _) hb3
    have hrow3 : w3.rowIs G 27 (l.length * 5) f := HI.out.1.of_block (hb3'.block G hGr)
    have hpart := HI.out.2.1.next hlt hb3'.size hGr (fun b hb _ => hb3'.block b hb) (hv.imp fun b hb => ⟨Nat.le_trans (by simp) hb.1, hb.2⟩)
    have HF : Hid ((set5 w3 G (j * 5) (.int .i64 l[j].kind) (.int .i64 l[j].num) (.string l[j].text) (.slice A4 l[j].items.length e4) (.slice A5 l[j].names.length e5)).rowIs G 27 (l.length * 5) _ ∧ Part _ G l _ (j + 1) ∧ Below w.heap.size w (set5 w3 G (j * 5) (.int .i64 l[j].kind) (.int .i64 l[j].num) (.string l[j].text) (.slice A4 l[j].items.length e4) (.slice A5 l[j].names.length e5))) :=
     hid ⟨row_set5 hrow3 _ _ _ _ _, hpart, set5_below _ _ _ _ _ (HI.out.2.2.trans (hb3'.mono HI.out.2.2.size)) (by have := HG.out; omega)⟩
    have m0 := hrow3.cell (i := j * 5) (by omega)
    have m1 := hrow3.cell (i := j * 5 + 1) (by omega)
    have m2 := hrow3.cell (i := j * 5 + 2) (by omega)
    have m3 := hrow3.cell (i := j * 5 + 3) (by omega)
    have m4 := hrow3.cell (i := j * 5 + 4) (by omega)
    have n0 := hrow3.frozen (j * 5)
    have n1 := hrow3.frozen (j * 5 + 1)
    have n2 := hrow3.frozen (j * 5 + 2)
    have n3 := hrow3.frozen (j * 5 + 3)
    have n4 := hrow3.frozen (j * 5 + 4)
    have hlb2 := HL.out
    clear hv hb3 hb3' hrow3 hpart IH h0 h1 h2 h3 h4
    go_wp2_with fail
    go_roundw
    case rel => exact ⟨j + 1, _, by go_num, by omega, HF.out⟩
    case measure => simp [intOf]; omega
   ·go_wp2_with fail
    go_ret
    refine ⟨some ⟨G, 0, none⟩, l.length, rfl, fun _ => ⟨G, 0, rfl, ⟨by have := HG.out; omega, HI.out.1.lt⟩, LVs_of_row HI.out.1 l 0 (by omega) fun i hi => ?_⟩, HI.out.2.2⟩
    rw [Nat.zero_add]
    exact (HI.out.2.1 i hi (by omega)).imp fun b hb => ⟨by have := hb.1; have := HG.out; omega, hb.2⟩

theorem Box.set0 {w : World} {g : Nat} {a b c d e : Value} (h : Box w g a b c d e) (u : Value) : Box (w.setCell ⟨g, 0, none⟩ u) g u b c d e := Go.Joins.block_setCell (i := 0) h u
theorem Box.set1 {w : World} {g : Nat} {a b c d e : Value} (h : Box w g a b c d e) (u : Value) : Box (w.setCell ⟨g, 1, none⟩ u) g a u c d e := Go.Joins.block_setCell (i := 1) h u
theorem Box.set2 {w : World} {g : Nat} {a b c d e : Value} (h : Box w g a b c d e) (u : Value) : Box (w.setCell ⟨g, 2, none⟩ u) g a b u d e := Go.Joins.block_setCell (i := 2) h u
theorem Box.set3 {w : World} {g : Nat} {a b c d e : Value} (h : Box w g a b c d e) (u : Value) : Box (w.setCell ⟨g, 3, none⟩ u) g a b c u e := Go.Joins.block_setCell (i := 3) h u
theorem Box.set4 {w : World} {g : Nat} {a b c d e : Value} (h : Box w g a b c d e) (u : Value) : Box (w.setCell ⟨g, 4, none⟩ u) g a b c d u := Go.Joins.block_setCell (i := 4) h u
theorem Box.far {w : World} {g : Nat} {a b c d e : Value} (h : Box w g a b c d e) {p : Addr} (hne : g ≠ p.block) (u : Value) : Box (w.setCell p u) g a b c d e := (Below.heap_setCell w p u g hne).trans h
theorem New.mono {B B' : Nat} {w w' : World} (hB : B' ≤ B) (hs : w.heap.size ≤ w'.heap.size) : ∀ b, New B w b → New B' w' b := fun b hb => ⟨Nat.le_trans hB hb.1, Nat.lt_of_lt_of_le hb.2 hs⟩

set_option maxHeartbeats 1000000 in
set_option maxRecDepth 100000 in
theorem clone_of_all {n : Nat} (hcl : CloneOK n) : CloneOK (n + 1) := by
 intro S t v w hd hS h
 have HLEN := hid h.lens
 obtain ⟨A, c, A', c', rfl, k1, k2, k3, k4, k5, k6, k7⟩ := h.shape
 clear h
 cases t with
 | mk k i s l ns =>
 simp only [VT.kind, VT.num, VT.text, VT.items, VT.names] at *
 have HK := hid (And.intro k1 (And.intro k2 k3))
 have hdl : depthL l ≤ n := by rw [depthT_mk] at hd; omega
 have hb0 : Below w.heap.size w ((w.alloc (.cells #[.int .i64 k, .int .i64 i, .string s, .slice A l.length c, .slice A' ns.length c'] 27)).alloc (.cells #[.int .i64 0, .int .i64 0, .string ⟨#[]⟩, .slice none 0 0, .slice none 0 0] 27)) := (below_box _).alloc (by simp) _
 have hX : Box ((w.alloc (.cells #[.int .i64 k, .int .i64 i, .string s, .slice A l.length c, .slice A' ns.length c'] 27)).alloc (.cells #[.int .i64 0, .int .i64 0, .string ⟨#[]⟩, .slice none 0 0, .slice none 0 0] 27)) w.heap.size (.int .i64 k) (.int .i64 i) (.string s) (.slice A l.length c) (.slice A' ns.length c') := (Box.new _ _ _ _ _).alloc _
 have hY : Box ((w.alloc (.cells #[.int .i64 k, .int .i64 i, .string s, .slice A l.length c, .slice A' ns.length c'] 27)).alloc (.cells #[.int .i64 0, .int .i64 0, .string ⟨#[]⟩, .slice none 0 0, .slice none 0 0] 27)) (w.heap.size + 1) (.int .i64 0) (.int .i64 0) (.string ⟨#[]⟩) (.slice none 0 0) (.slice none 0 0) := by
  have := Box.new (w := (w.alloc (.cells #[.int .i64 k, .int .i64 i, .string s, .slice A l.length c, .slice A' ns.length c'] 27))) (.int .i64 0) (.int .i64 0) (.string ⟨#[]⟩) (.slice none 0 0) (.slice none 0 0)
  simpa using this
 have HA := hid (all_of_clone hcl S A c l _ hdl (sub_below hS hb0) (k7.keep fun b hb => hb0.block b (hS b hb)) HLEN.out.1)
 have K6 := hid k6
 have HB0 := hid hb0
 have HX := hid hX
 have HY := hid hY
 clear k1 k2 k3 k4 k5 k6 k7 hb0 hX hY
 go_enter Tryz.func99, Tryz.ntmps99
 go_wp2_with fail
 refine HA.out.mono ?_
 rintro e w1 ⟨A2, c2, rfl, hla, hb1⟩
 have hx := HX.out.call hb1
 have HX1 := hid hx
 have HY1 := hid (HY.out.call hb1)
 have HB1 := hid (toStart HB0.out hb1)
 have HLA := hid hla
 have x3 := hx.c3
 have x4 := hx.c4
 have xf := hx.free 3
 clear hx hla hb1 HA HX HY
 go_wp2_with fail
 obtain ⟨h, hh⟩ : ∃ h, h = w.heap.size := ⟨_, rfl⟩
 rw [← hh] at HX1 HY1 x3 x4 xf ⊢
 have HH := hid hh
 clear hh
 obtain ⟨W1, hW1⟩ : ∃ W1 : World, W1 = w1.setCell ⟨h, 3, none⟩ (.slice A2 l.length c2) := ⟨_, rfl⟩
 rw [← hW1]
 have sz1 : W1.heap.size = w1.heap.size := by rw [hW1]; simp [World.setCell]
 have bk1 : ∀ b, b ≠ h → W1.heap[b]? = w1.heap[b]? := fun b hb => by rw [hW1]; exact Below.heap_setCell _ _ _ _ hb
 have BX1 := HX1.out.set3 (.slice A2 l.length c2)
 rw [← hW1] at BX1
 have BY1 := HY1.out.far (p := ⟨h, 3, none⟩) (by simp) (.slice A2 l.length c2)
 rw [← hW1] at BY1
 have bw1 : Below w.heap.size w W1 := by rw [hW1]; exact HB1.out.setCell (by have := HH.out; simp; omega) _
 have hw1s : h + 1 < w1.heap.size := HY1.out.lt
 have hla1 : LVA W1 (New (h + 2) W1) A2 l := by
  have e := HH.out
  refine (LVA.keep (w' := W1) HLA.out (fun b hb => bk1 b (by have := hb.1; simp at this; omega))).imp fun b hb => ⟨by have := hb.1; simp at this; omega, by rw [sz1]; exact hb.2⟩
 have HN := hid (copyNames_any S A' c' ns W1 (K6.out.keep fun b hb => bw1.block b (hS b hb)) HLEN.out.2)
 have BX1 := hid BX1
 have BY1 := hid BY1
 have HBW1 := hid bw1
 have HLA1 := hid hla1
 clear hW1 sz1 bk1 bw1 hla1 HX1 HY1 HB1 HLA x3 x4 xf K6 HB0 hw1s
 refine HN.out.mono ?_
 rintro e w2 ⟨A3, c3, rfl, hst, hb2⟩
 have BX2 := hid (BX1.out.call hb2)
 have BY2 := hid (BY1.out.call hb2)
 have HBW2 := hid (toStart HBW1.out hb2)
 have hla2 : LVA w2 (New (h + 2) w2) A2 l := (LVA.keep (w' := w2) HLA1.out (fun b hb => hb2.block b hb.2)).imp (New.mono (Nat.le_refl _) hb2.size)
 have hst2 : StrsAt w2 (New (h + 2) w2) A3 ns := hst.imp (New.mono (by have := BY1.out.lt; omega) (Nat.le_refl _))
 have HLA2 := hid hla2
 have HST2 := hid hst2
 have y0 := BX2.out.c0
 have y1 := BX2.out.c1
 have y2 := BX2.out.c2
 have y3 := BX2.out.c3
 have y4 := BX2.out.c4
 have yf := BX2.out.free 4
 have z0 := BY2.out.c0
 have z1 := BY2.out.c1
 have z2 := BY2.out.c2
 have z3 := BY2.out.c3
 have z4 := BY2.out.c4
 have zf0 := BY2.out.free 0
 have zf1 := BY2.out.free 1
 have zf2 := BY2.out.free 2
 have zf3 := BY2.out.free 3
 have zf4 := BY2.out.free 4
 obtain ⟨W2, hW2⟩ : ∃ W2 : World, W2 = w2.setCell ⟨h, 4, none⟩ (.slice A3 ns.length c3) := ⟨_, rfl⟩
 have BX3 := BX2.out.set4 (.slice A3 ns.length c3)
 rw [← hW2] at BX3
 have BY3 := BY2.out.far (p := ⟨h, 4, none⟩) (by simp) (.slice A3 ns.length c3)
 rw [← hW2] at BY3
 have HBW3 : Hid (Below w.heap.size w W2) := hid (by rw [hW2]; exact HBW2.out.setCell (by have := HH.out; simp; omega) _)
 have sz2 : W2.heap.size = w2.heap.size := by rw [hW2]; simp [World.setCell]
 have bk2 : ∀ b, b ≠ h → W2.heap[b]? = w2.heap[b]? := fun b hb => by rw [hW2]; exact Below.heap_setCell _ _ _ _ hb
 have HLA3 : Hid (LVA W2 (New (h + 2) W2) A2 l) := hid ((LVA.keep (w' := W2) HLA2.out (fun b hb => bk2 b (by have := hb.1; omega))).imp fun b hb => ⟨hb.1, by rw [sz2]; exact hb.2⟩)
 have HST3 : Hid (StrsAt W2 (New (h + 2) W2) A3 ns) := hid ((StrsAt.keep (w' := W2) HST2.out (fun b hb => bk2 b (by have := hb.1; omega))).imp fun b hb => ⟨hb.1, by rw [sz2]; exact hb.2⟩)
 have BX3 := hid BX3
 have BY3 := hid BY3
 have EW := hid hW2
 clear hst hb2 hla2 hst2 BX1 BY1 HBW1 HLA1 BX2 BY2 HBW2 HLA2 HST2 hW2 sz2 bk2 HN
 clear hcl hd hdl
 go_wp2_with fail
 rw [← EW.out]
 (try simp only [Exit.inBlock, Exit.then])
 have FIN := ((((BY3.out.set0 (.int .i64 k)).set1 (.int .i64 i)).set2 (.string s)).set3 (.slice A2 l.length c2)).set4 (.slice A3 ns.length c3)
 have hk : ∀ b, New (h + 2) W2 b → (set5 W2 (h + 1) 0 (.int .i64 k) (.int .i64 i) (.string s) (.slice A2 l.length c2) (.slice A3 ns.length c3)).heap[b]? = W2.heap[b]? := fun b hb => set5_block _ _ _ _ _ (by have := hb.1; omega)
 have hn : ∀ b, New (h + 2) W2 b → New w.heap.size (set5 W2 (h + 1) 0 (.int .i64 k) (.int .i64 i) (.string s) (.slice A2 l.length c2) (.slice A3 ns.length c3)) b := fun b hb => ⟨by have := hb.1; have := HH.out; omega, by rw [set5_size]; exact hb.2⟩
 have hla := (LVA.keep HLA3.out hk).imp hn
 have hst := (StrsAt.keep HST3.out hk).imp hn
 have hbw := set5_below (p := 0) (.int .i64 k) (.int .i64 i) (.string s) (.slice A2 l.length c2) (.slice A3 ns.length c3) HBW3.out (G := h + 1) (by have := HH.out; omega)
 refine bodyPost_ret (results_cell_row rfl _ _ (h + 1) 27 _ (0, 0) _ rfl FIN Tryz.underlying27 rfl (by kernel_rfl)) rfl ?_
 exact ⟨_, rfl, LV.mk HK.out.1 HK.out.2.1 HK.out.2.2 HLEN.out.1 HLEN.out.2 hst hla, hbw⟩

theorem clone_ok : ∀ n, CloneOK n
 | 0 => fun S t v w hd _ _ => by cases t; rw [depthT_mk] at hd; omega
 | n + 1 => clone_of_all (clone_ok n)
theorem clone_any (S : Nat → Prop) (t : VT) (v : Value) (w : World) (hS : ∀ b, S b → b < w.heap.size) (h : LV w S t v) :
  Calls Tryz.prog 99 #[v] w fun e w' => ∃ v', e = .returned v' ∧ LV w' (New w.heap.size w') t v' ∧ Below w.heap.size w w' := clone_ok (depthT t) S t v w (Nat.le_refl _) hS h
end Go.Proofs.YtlipkmdjpligeaaGreat
