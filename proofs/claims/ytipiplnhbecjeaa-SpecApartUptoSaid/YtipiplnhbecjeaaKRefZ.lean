/- How large a value is and what is wrong with it, as the document's answer has it. -/
import Derived.Test.YtipiplnhbecjeaaKCmpL
namespace Go.Proofs.Ytipiplnhbecjeaa
set_option linter.unusedVariables false
set_option linter.unusedSimpArgs false
open Go.RowKit

theorem sizeL_drop {l : List VT} {j : Nat} (h : j < l.length) : sizeL (l.drop j) = sizeT l[j] + sizeL (l.drop (j + 1)) := by
  rw [List.drop_eq_getElem_cons h]; conv => lhs; unfold sizeL
theorem wrap64_add4 (a b c : Int) : wrap64 (wrap64 a + wrap64 b + c) = wrap64 (a + b + c) := by unfold wrap64; omega
theorem sizeL_nil : sizeL [] = 0 := by unfold sizeL; rfl
theorem sumN_drop {ns : List ByteArray} {j : Nat} (h : j < ns.length) : sumN (ns.drop j) = tsz ns[j] + sumN (ns.drop (j + 1)) := by
  rw [List.drop_eq_getElem_cons h]; simp only [sumN, List.map_cons, List.sum_cons]
theorem sumN_nil : sumN [] = 0 := rfl
theorem sizeT_mk2 (t : VT) : sizeT t = ownP t.kind t.num t.text t.items.length t.names + sizeL t.items := by cases t; unfold sizeT; rfl
theorem txt_len (s : ByteArray) : (txt s).length = tsz s := by unfold txt tsz; simp
theorem may_kinds {k i : Int} {s : ByteArray} {n : Nat} {ns : List ByteArray} (h : fitsP k i s n ns = true) : (k = 1 ∨ k = 2 ∨ k = 3 ∨ k = 4 ∨ k = 5 ∨ k = 6 ∨ k = 7) ∧ (k ≤ 5 → n = 0) ∧ (k = 7 → ns.length = n) := by
  unfold fitsP at h
  by_cases h1 : k = 1
  · simp [h1] at h; omega
  · by_cases h2 : k = 2
    · simp [h2] at h; omega
    · by_cases h3 : k = 3
      · simp [h3] at h; omega
      · by_cases h4 : k = 4 ∨ k = 5
        · simp [h1, h2, h3, h4] at h; omega
        · by_cases h6 : k = 6
          · simp [h6] at h; omega
          · by_cases h7 : k = 7
            · simp [h7] at h; omega
            · simp [h1, h2, h3, h4, h6, h7] at h

set_option maxHeartbeats 4000000 in
set_option maxRecDepth 100000 in
theorem rsize_any (S : Nat → Prop) : ∀ (n : Nat) (t : VT) (v : Value) (w : World), depthT t ≤ n → mayT t = true → (∀ b, S b → b < w.heap.size) → LV w S t v →
    Calls Try.prog 25 #[v] w fun e w' => e = .returned (.int .i64 (wrap64 (sizeT t))) ∧ Below w.heap.size w w' := by
  intro n
  induction n with
  | zero => intro t v w hd; cases t; rw [depthT_mk] at hd; omega
  | succ n ih =>
    intro t v w hd hm hS h
    have hrn := h.shape
    obtain ⟨A, c, A', c', rfl, lens, a7, a6, v1, hb0⟩ := one_var hS h
    obtain ⟨_, _, _, _, -, -, hri, hrs, -⟩ := hrn
    have hm2 := mayT_mk2 t
    rw [hm] at hm2
    have hm3 := (Bool.and_eq_true _ _).mp hm2.symm
    obtain ⟨hk, hk5, hk7⟩ := may_kinds hm3.1
    have hml := hm3.2
    have hdl : depthL t.items ≤ n := by
      have hdt : depthT t = depthL t.items + 1 := by cases t; exact depthT_mk _ _ _ _ _
      omega
    have hz := sizeT_mk2 t
    obtain ⟨Z, hZ⟩ : ∃ Z, Z = sizeT t := ⟨_, rfl⟩
    rw [← hZ] at hz ⊢
    clear hm2 hm3 hZ hd hm h
    cases t with
    | mk kd num txs its nms =>
    simp only [VT.kind, VT.num, VT.text, VT.items, VT.names] at *
    have HML := Lib.hid hml
    have HRI := Lib.hid hri
    have HRS := Lib.hid hrs
    have HK5 := Lib.hid hk5
    have HK7 := Lib.hid hk7
    have LENS := Lib.hid lens
    have A7 := Lib.hid a7
    have A6 := Lib.hid a6
    have P0 := Lib.hid v1
    have HB0 := Lib.hid hb0
    have HD := Lib.hid hdl
    have HZ := Lib.hid hz
    have hl := LENS.out.1
    clear lens a7 a6 v1 hb0 hk5 hk7 hri hrs hz hdl hml
    have HKC := Lib.hid hk
    clear hk
    go_enter Try.func25, Try.ntmps25
    rcases HKC.out with rfl | rfl | rfl | rfl | rfl | rfl | rfl
    · have HL0 : Hid (its = []) := Lib.hid (List.eq_nil_of_length_eq_zero (HK5.out (by decide)))
      have HZ2 : Hid ((1 : Int) + ((sizeL (its.drop 0) : Nat) : Int) = Z) := Lib.hid (by rw [HZ.out]; unfold ownP; simp)
      go_wp2_with fail
      skip
      go_loopw [3, 4] (fun n i wr => ∃ (j : Nat) (m : Int), n = .int .i64 (wrap64 m) ∧ i = .int .i64 j ∧ j ≤ its.length ∧ Hid (m + ((sizeL (its.drop j) : Nat) : Int) = Z) ∧ Hid (Below w.heap.size w wr) ∧ Hid (Vr wr S w.heap.size (.mk 1 num txs its nms) A c A' c')) (fun _ i _ => its.length - (intOf i).toNat)
      case atStart => exact ⟨0, 1, by rw [wrap64_id (by omega) (by omega)], rfl, Nat.zero_le _, HZ2, HB0, P0⟩
      case round =>
        obtain ⟨j, m, rfl, rfl, hj, HI, HB, P⟩ := hrel
        clear P0 HB0
        have k3 : wr.cell? ⟨w.heap.size, 3, none⟩ = some (.slice A its.length c) := P.out.x.c3
        by_cases hlt : j < its.length
        · exfalso
          rw [HL0.out] at hlt
          simp at hlt
        · have HF : Hid (m = Z) := Lib.hid (by
            have h := HI.out
            rw [List.drop_eq_nil_of_le (by omega : its.length ≤ j), sizeL_nil] at h
            omega)
          go_wp2_with fail
          go_ret
          exact ⟨ret_i64 (by rw [HF.out]), HB.out⟩
    · have HL0 : Hid (its = []) := Lib.hid (List.eq_nil_of_length_eq_zero (HK5.out (by decide)))
      have HF : Hid (wrap64 Z = 2) := Lib.hid (by rw [HZ.out, HL0.out, sizeL_nil]; unfold ownP; simp; rw [wrap64_id (by omega) (by omega)])
      go_wp2_with fail
      go_ret
      exact ⟨ret_i64 HF.out.symm, HB0.out⟩
    · have HL0 : Hid (its = []) := Lib.hid (List.eq_nil_of_length_eq_zero (HK5.out (by decide)))
      have hg := (grp_length (zig num)).1
      have HF : Hid (wrap64 Z = 1 + ((grp (zig num)).length : Int)) := Lib.hid (by rw [HZ.out, HL0.out, sizeL_nil]; unfold ownP; simp; rw [wrap64_id (by omega) (by omega)])
      go_wp2_with fail
      refine (rint_any num _ HRI.out.1 HRI.out.2).mono ?_
      rintro e w1 ⟨v, rfl, hv, hb⟩
      obtain ⟨A2, c2, rfl⟩ := hv.slice
      have HB := Lib.hid (toStart HB0.out hb)
      clear hv hb
      go_wp2_with fail
      go_ret
      exact ⟨ret_i64 HF.out.symm, HB.out⟩
    · have HL0 : Hid (its = []) := Lib.hid (List.eq_nil_of_length_eq_zero (HK5.out (by decide)))
      have hg := tsz_le txs HRS.out
      have HTL := txt_len txs
      have HF : Hid (wrap64 Z = 1 + ((txt txs).length : Int)) := Lib.hid (by rw [HTL, HZ.out, HL0.out, sizeL_nil]; unfold ownP; simp; rw [wrap64_id (by omega) (by omega)])
      have hg2 : (txt txs).length ≤ 140737488351300 := by omega
      clear hg HTL
      go_wp2_with fail
      refine (rtext_any txs _ HRS.out).mono ?_
      rintro e w1 ⟨v, rfl, hv, hb⟩
      obtain ⟨A2, c2, rfl⟩ := hv.slice
      have HB := Lib.hid (toStart HB0.out hb)
      clear hv hb
      go_wp2_with fail
      go_ret
      exact ⟨ret_i64 HF.out.symm, HB.out⟩
    · have HL0 : Hid (its = []) := Lib.hid (List.eq_nil_of_length_eq_zero (HK5.out (by decide)))
      have hg := tsz_le txs HRS.out
      have HTL := txt_len txs
      have HF : Hid (wrap64 Z = 1 + ((txt txs).length : Int)) := Lib.hid (by rw [HTL, HZ.out, HL0.out, sizeL_nil]; unfold ownP; simp; rw [wrap64_id (by omega) (by omega)])
      have hg2 : (txt txs).length ≤ 140737488351300 := by omega
      clear hg HTL
      go_wp2_with fail
      refine (rtext_any txs _ HRS.out).mono ?_
      rintro e w1 ⟨v, rfl, hv, hb⟩
      obtain ⟨A2, c2, rfl⟩ := hv.slice
      have HB := Lib.hid (toStart HB0.out hb)
      clear hv hb
      go_wp2_with fail
      go_ret
      exact ⟨ret_i64 HF.out.symm, HB.out⟩
    · have hg := (grp_length its.length).1
      have HZ2 : Hid ((1 + ((grp its.length).length : Int)) + ((sizeL (its.drop 0) : Nat) : Int) = Z) := Lib.hid (by rw [HZ.out]; unfold ownP; simp <;> omega)
      go_wp2_with fail
      refine (rcount_any its.length _ (by omega)).mono ?_
      rintro e w1 ⟨v, rfl, hv, hb⟩
      obtain ⟨A2, c2, rfl⟩ := hv.slice
      have P0 := Lib.hid (P0.out.call hb)
      have HB0 := Lib.hid (toStart HB0.out hb)
      clear hv hb
      go_wp2_with fail
      go_loopw [3, 4] (fun n i wr => ∃ (j : Nat) (m : Int), n = .int .i64 (wrap64 m) ∧ i = .int .i64 j ∧ j ≤ its.length ∧ Hid (m + ((sizeL (its.drop j) : Nat) : Int) = Z) ∧ Hid (Below w.heap.size w wr) ∧ Hid (Vr wr S w.heap.size (.mk 6 num txs its nms) A c A' c')) (fun _ i _ => its.length - (intOf i).toNat)
      case atStart => exact ⟨0, 1 + ((grp its.length).length : Int), by rw [wrap64_id (by omega) (by omega)], rfl, Nat.zero_le _, HZ2, HB0, P0⟩
      case round =>
        obtain ⟨j, m, rfl, rfl, hj, HI, HB, P⟩ := hrel
        clear P0 HB0
        have k3 : wr.cell? ⟨w.heap.size, 3, none⟩ = some (.slice A its.length c) := P.out.x.c3
        by_cases hlt : j < its.length
        · obtain ⟨p, o, A2, e2, A3, e3, rfl, hp, h0, h1, h2, h3, h4, hx⟩ := item_at hS A7.out HB.out j hlt
          have HC := Lib.hid (ih its[j] _ wr (Nat.le_trans (depthL_le (List.getElem_mem hlt)) HD.out) (mayL_mem HML.out (List.getElem_mem hlt)) P.out.s hx)
          have HI2 : Hid (m + sizeT its[j] + ((sizeL (its.drop (j + 1)) : Nat) : Int) = Z) := Lib.hid (by rw [← HI.out, sizeL_drop hlt]; omega)
          generalize sizeT its[j] = C at *
          clear hx hp HI
          go_wp2_with fail
          refine HC.out.mono ?_
          rintro e w2 ⟨rfl, hb⟩
          have P2 := Lib.hid (P.out.call hb)
          have HB2 := Lib.hid (toStart HB.out hb)
          clear hb HC k3 h0 h1 h2 h3 h4 P HB
          have k0 : w2.cell? ⟨w.heap.size, 0, none⟩ = some (.int .i64 6) := P2.out.x.c0
          go_wp2_with fail
          clear k0
          go_roundw
          case rel => exact ⟨j + 1, m + C, by rw [wrap64_add, wrap64_add2], by go_num, by omega, HI2, HB2, P2⟩
          case measure => simp [intOf]; omega
        · have HF : Hid (m = Z) := Lib.hid (by
            have h := HI.out
            rw [List.drop_eq_nil_of_le (by omega : its.length ≤ j), sizeL_nil] at h
            omega)
          go_wp2_with fail
          go_ret
          exact ⟨ret_i64 (by rw [HF.out]), HB.out⟩
    · have hg := (grp_length its.length).1
      have HZ2 : Hid ((1 + ((grp its.length).length : Int)) + ((sizeL (its.drop 0) + sumN (nms.drop 0) : Nat) : Int) = Z) := Lib.hid (by rw [HZ.out]; unfold ownP; simp <;> omega)
      go_wp2_with fail
      refine (rcount_any its.length _ (by omega)).mono ?_
      rintro e w1 ⟨v, rfl, hv, hb⟩
      obtain ⟨A2, c2, rfl⟩ := hv.slice
      have P0 := Lib.hid (P0.out.call hb)
      have HB0 := Lib.hid (toStart HB0.out hb)
      clear hv hb
      go_wp2_with fail
      go_loopw [3, 4] (fun n i wr => ∃ (j : Nat) (m : Int), n = .int .i64 (wrap64 m) ∧ i = .int .i64 j ∧ j ≤ its.length ∧ Hid (m + ((sizeL (its.drop j) + sumN (nms.drop j) : Nat) : Int) = Z) ∧ Hid (Below w.heap.size w wr) ∧ Hid (Vr wr S w.heap.size (.mk 7 num txs its nms) A c A' c')) (fun _ i _ => its.length - (intOf i).toNat)
      case atStart => exact ⟨0, 1 + ((grp its.length).length : Int), by rw [wrap64_id (by omega) (by omega)], rfl, Nat.zero_le _, HZ2, HB0, P0⟩
      case round =>
        obtain ⟨j, m, rfl, rfl, hj, HI, HB, P⟩ := hrel
        clear P0 HB0
        have k3 : wr.cell? ⟨w.heap.size, 3, none⟩ = some (.slice A its.length c) := P.out.x.c3
        by_cases hlt : j < its.length
        · obtain ⟨p, o, A2, e2, A3, e3, rfl, hp, h0, h1, h2, h3, h4, hx⟩ := item_at hS A7.out HB.out j hlt
          have HC := Lib.hid (ih its[j] _ wr (Nat.le_trans (depthL_le (List.getElem_mem hlt)) HD.out) (mayL_mem HML.out (List.getElem_mem hlt)) P.out.s hx)
          have ia : j < nms.length := by have := HK7.out (by simp); omega
          have HI2 : Hid (m + sizeT its[j] + tsz nms[j] + ((sizeL (its.drop (j + 1)) + sumN (nms.drop (j + 1)) : Nat) : Int) = Z) := Lib.hid (by rw [← HI.out, sizeL_drop hlt, sumN_drop ia]; omega)
          generalize sizeT its[j] = C at *
          clear hx hp HI
          go_wp2_with fail
          refine HC.out.mono ?_
          rintro e w2 ⟨rfl, hb⟩
          have P2 := Lib.hid (P.out.call hb)
          have HB2 := Lib.hid (toStart HB.out hb)
          clear hb HC k3 h0 h1 h2 h3 h4 P HB
          have k0 : w2.cell? ⟨w.heap.size, 0, none⟩ = some (.int .i64 7) := P2.out.x.c0
          obtain ⟨p', o', rfl, hp, t1, hsz⟩ := text_at hS A6.out HB2.out j ia
          have k4 : w2.cell? ⟨w.heap.size, 4, none⟩ = some (.slice (some ⟨p', o', none⟩) nms.length c') := P2.out.x.c4
          have hl2 := LENS.out.2
          obtain ⟨sn, hs⟩ : ∃ s, s = nms[j] := ⟨_, rfl⟩
          rw [← hs] at t1 hsz HI2
          have HSZ := Lib.hid hsz
          clear hp hs hsz
          go_wp2_with fail
          refine (rtext_any sn _ HSZ.out).mono ?_
          rintro e w3 ⟨v, rfl, hv, hb⟩
          obtain ⟨A9, c9, rfl⟩ := hv.slice
          have P3 := Lib.hid (P2.out.call hb)
          have HB3 := Lib.hid (toStart HB2.out hb)
          have HTL := Lib.hid (txt_len sn)
          clear hv hb k4 t1 P2 HB2 k0
          go_wp2_with fail
          go_roundw
          case rel => exact ⟨j + 1, m + C + tsz sn, by rw [HTL.out, wrap64_add, wrap64_add4], by go_num, by omega, HI2, HB3, P3⟩
          case measure => simp [intOf]; omega
        · have HF : Hid (m = Z) := Lib.hid (by
            have hne : nms.length ≤ j := by have := HK7.out (by simp); omega
            have h := HI.out
            rw [List.drop_eq_nil_of_le (by omega : its.length ≤ j), sizeL_nil, List.drop_eq_nil_of_le hne, sumN_nil] at h
            omega)
          go_wp2_with fail
          go_ret
          exact ⟨ret_i64 (by rw [HF.out]), HB.out⟩

set_option maxHeartbeats 1000000 in
set_option maxRecDepth 100000 in
theorem rcheck_any (S : Nat → Prop) (t : VT) (v : Value) (w : World) (hd : depthT t ≤ 4611686018427387903) (hS : ∀ b, S b → b < w.heap.size) (h : LV w S t v) :
    Calls Try.prog 9 #[v] w fun e w' => e = .returned (.int .i64 (checkT t)) ∧ Below w.heap.size w w' := by
  obtain ⟨A, c, A', c', rfl, -, -, -, v1, hb0⟩ := one_var hS h
  have P := Lib.hid v1
  have HB := Lib.hid hb0
  have HR : Hid (checkT t = if mayT t = true then (if 8 < (depthT t : Int) then 21 else if 4096 < wrap64 (sizeT t) then 22 else 0) else 20) := Lib.hid rfl
  obtain ⟨R, hR⟩ : ∃ R, R = checkT t := ⟨_, rfl⟩
  rw [← hR] at HR ⊢
  obtain ⟨x, hx⟩ : ∃ x, x = mayT t := ⟨_, rfl⟩
  rw [← hx] at HR
  have HX := Lib.hid hx
  have HD := Lib.hid hd
  clear h v1 hb0 hR hx hd
  go_enter Try.func9, Try.ntmps9
  go_wp2_with fail
  refine (P.out.rmay HX.out).mono ?_
  rintro e w1 ⟨rfl, hb⟩
  have P1 := Lib.hid (P.out.call hb)
  have HB1 := Lib.hid (toStart HB.out hb)
  clear hb P HB
  cases x
  · have HF : Hid (R = 20) := Lib.hid (by rw [HR.out]; simp)
    clear HR HX P1
    go_wp2_with fail
    go_ret
    exact ⟨ret_i64 HF.out.symm, HB1.out⟩
  · have HR2 : Hid (R = if 8 < (depthT t : Int) then 21 else if 4096 < wrap64 (sizeT t) then 22 else 0) := Lib.hid (by rw [HR.out]; simp)
    have HDC := Lib.hid (rdepth_any S 4611686018427387903 t _ w1 HD.out (Nat.le_refl _) P1.out.s P1.out.v)
    have q0 := P1.out.x.c0
    have q1 := P1.out.x.c1
    have q2 := P1.out.x.c2
    have q3 := P1.out.x.c3
    have q4 := P1.out.x.c4
    clear HR
    go_wp2_with fail
    refine HDC.out.mono ?_
    rintro e w2 ⟨rfl, hb⟩
    have P2 := Lib.hid (P1.out.call hb)
    have HB2 := Lib.hid (toStart HB1.out hb)
    clear hb P1 HB1 HDC q0 q1 q2 q3 q4
    by_cases h8 : 8 < (depthT t : Int)
    · have HF : Hid (R = 21) := Lib.hid (by rw [HR2.out, if_pos h8])
      clear HR2 HX P2
      go_wp2_with fail
      go_ret
      exact ⟨ret_i64 HF.out.symm, HB2.out⟩
    · have HR3 : Hid (R = if 4096 < wrap64 (sizeT t) then 22 else 0) := Lib.hid (by rw [HR2.out, if_neg h8])
      have HSC := Lib.hid (rsize_any S (depthT t) t _ w2 (Nat.le_refl _) HX.out.symm P2.out.s P2.out.v)
      have q0 := P2.out.x.c0
      have q1 := P2.out.x.c1
      have q2 := P2.out.x.c2
      have q3 := P2.out.x.c3
      have q4 := P2.out.x.c4
      clear HR2 HX
      go_wp2_with fail
      refine HSC.out.mono ?_
      rintro e w3 ⟨rfl, hb⟩
      have HB3 := Lib.hid (toStart HB2.out hb)
      clear hb P2 HB2 HSC q0 q1 q2 q3 q4 h8
      generalize wrap64 (sizeT t) = C at *
      by_cases hz : 4096 < C
      · have HF : Hid (R = 22) := Lib.hid (by rw [HR3.out, if_pos hz])
        clear HR3
        go_wp2_with fail
        go_ret
        exact ⟨ret_i64 HF.out.symm, HB3.out⟩
      · have HF : Hid (R = 0) := Lib.hid (by rw [HR3.out, if_neg hz])
        clear HR3
        go_wp2_with fail
        go_ret
        exact ⟨ret_i64 HF.out.symm, HB3.out⟩
end Go.Proofs.Ytipiplnhbecjeaa
