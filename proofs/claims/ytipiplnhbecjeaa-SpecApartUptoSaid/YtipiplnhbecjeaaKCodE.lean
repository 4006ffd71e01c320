/- Codes put behind bytes of the call's own. -/
import Derived.Test.YtipiplnhbecjeaaKCodM
import Derived.Test.YtipiplnhbecjeaaKKeA
import Derived.Test.YtipiplnhbecjeaaKRefA
import Derived.Lib.OthersKept
import Derived.Laws.AppendOwnNone
import Derived.Outline
namespace Go.Proofs.Ytipiplnhbecjeaa
set_option linter.unusedVariables false
set_option linter.unusedSimpArgs false
set_option maxRecDepth 100000
open Go.RowKit

theorem Box.k8 {w w' : World} {g : Nat} {a b c d e : Value} (h : Box w g a b c d e) (hk : K8 w w') : Box w' g a b c d e := hk g _ h (fun h => by cases h) (fun c fz h => by injection h with _ h; exact absurd h (by decide))

def PutOK (t : VT) : Prop := ∀ (S : Nat → Prop) (v bv : Value) (B : Nat) (l : List UInt8) (w : World), (∀ x, S x → x < B) → B ≤ w.heap.size → LV w S t v → OwnB w B bv l → l.length + (encT t).length ≤ 140737488355328 →
  Calls Try.prog 68 #[bv, v] w (PutsR B (l ++ encT t) w)

theorem item_atB {w u : World} {B : Nat} {S : Nat → Prop} {A : Option Addr} {l : List VT} (hS : ∀ b, S b → b < B) (h : LVA w S A l) (hb : Below B w u) (j : Nat) (hj : j < l.length) :
    ∃ p o A2 e2 A3 e3, A = some ⟨p, o, none⟩ ∧ u.cell? ⟨p, o + j * 5, none⟩ = some (.int .i64 l[j].kind) ∧ u.cell? ⟨p, o + j * 5 + 1, none⟩ = some (.int .i64 l[j].num) ∧ u.cell? ⟨p, o + j * 5 + 2, none⟩ = some (.string l[j].text) ∧
      u.cell? ⟨p, o + j * 5 + 3, none⟩ = some (.slice A2 l[j].items.length e2) ∧ u.cell? ⟨p, o + j * 5 + 4, none⟩ = some (.slice A3 l[j].names.length e3) ∧
      LV u S l[j] (.agg #[.int .i64 l[j].kind, .int .i64 l[j].num, .string l[j].text, .slice A2 l[j].items.length e2, .slice A3 l[j].names.length e3]) := by
  obtain ⟨p, o, hA, hp, hv⟩ := h (by omega)
  obtain ⟨c0, c1, c2, c3, c4, h0, h1, h2, h3, h4, hx⟩ := hv.at j hj
  obtain ⟨A2, e2, A3, e3, hag, -⟩ := hx.shape
  injection hag with hag; injection hag with hag
  injection hag with y0 hag; injection hag with y1 hag; injection hag with y2 hag; injection hag with y3 hag; injection hag with y4 hag
  subst y0 y1 y2 y3 y4
  have hk : ∀ o, u.cell? ⟨p, o, none⟩ = w.cell? ⟨p, o, none⟩ := fun o => hb.cell (p := ⟨p, o, none⟩) (hS p hp)
  exact ⟨p, o, A2, e2, A3, e3, hA, (hk _).trans h0, (hk _).trans h1, (hk _).trans h2, (hk _).trans h3, (hk _).trans h4, hx.keep fun b hb' => hb.block b (hS b hb')⟩
theorem text_atB {w u : World} {B : Nat} {S : Nat → Prop} {A : Option Addr} {ns : List ByteArray} (hS : ∀ b, S b → b < B) (h : StrsAt w S A ns) (hb : Below B w u) (j : Nat) (hj : j < ns.length) :
    ∃ p o, A = some ⟨p, o, none⟩ ∧ p < B ∧ u.cell? ⟨p, o + j, none⟩ = some (.string ns[j]) ∧ ns[j].size ≤ 140737488351232 := by
  obtain ⟨p, o, hA, hp, hc⟩ := h (by omega)
  exact ⟨p, o, hA, hS p hp, (hb.cell (p := ⟨p, o + j, none⟩) (hS p hp)).trans (hc j hj).1, (hc j hj).2⟩
theorem putOK_step {l X : List UInt8} {t : VT} {r : List UInt8} (h : l.length + (X ++ (encT t ++ r)).length ≤ 140737488355328) : (l ++ X).length + (encT t).length ≤ 140737488355328 := by
  simp only [List.length_append] at h ⊢; omega

set_option maxHeartbeats 4000000 in
set_option maxRecDepth 100000 in
theorem putItems6 (num : Int) (txs : ByteArray) (its : List VT) (nms : List ByteArray) (ih : ∀ x ∈ its, PutOK x) (S : Nat → Prop) (v bv : Value) (B : Nat) (l : List UInt8) (w : World) (hS : ∀ x, S x → x < B) (hB : B ≤ w.heap.size) (h : LV w S (.mk 6 num txs its nms) v) (hown : OwnB w B bv l)
    (hlen : l.length + (grp its.length ++ encL false nms its).length ≤ 140737488355328) :
    Calls Try.prog 87 #[bv, v] w (PutsR B (l ++ (grp its.length ++ encL false nms its)) w) := by
  obtain ⟨A, c, A', c', rfl, -, -, -, hl1, -, hN, hA⟩ := h.shape
  simp only [VT.kind, VT.num, VT.text, VT.items, VT.names] at *
  have HX := Lib.hid (Box.new (w := w) (.int .i64 6) (.int .i64 num) (.string txs) (.slice A its.length c) (.slice A' nms.length c'))
  have HB0 := Lib.hid (below_box (w := w) (.cells #[.int .i64 6, .int .i64 num, .string txs, .slice A its.length c, .slice A' nms.length c'] 25))
  have HO := Lib.hid (OwnB.below hown HB0.out)
  have HA := Lib.hid hA
  have HLEN := Lib.hid hlen
  obtain ⟨full, hfull⟩ : ∃ full, full = grp its.length ++ encL false nms its := ⟨_, rfl⟩
  have HF := Lib.hid hfull
  rw [← hfull] at HLEN ⊢
  clear h hA hown hlen hfull
  go_enter Try.func87, Try.ntmps87
  have k3 := HX.out.c3
  go_wp2_with fail
  refine (count_any its.length _ (by omega)).mono ?_
  rintro e w1 (⟨_, _, x, rfl, hx, hb⟩ | ⟨h, _⟩)
  rotate_left
  · omega
  rw [Int.toNat_natCast] at hx
  have HR := Lib.hid hx.rd
  have hb1 := toStart HB0.out hb
  have HB1 := Lib.hid (hb1.mono hB)
  have HK1 := Lib.hid (k8_below hb1)
  have HO1 := Lib.hid (HO.out.below hb)
  have HX1 := Lib.hid (HX.out.call hb)
  have hz1 := Nat.le_trans hB hb1.size
  have hg := grp_length its.length
  have hgl : l.length + (grp its.length).length ≤ 140737488355328 := by have h1 := HLEN.out; rw [HF.out, List.length_append] at h1; omega
  clear hb hb1 hx k3 HB0 HO HX
  go_wp2_with (at_builtin; go_must (refine wpList_append_bytes rfl _ _ rfl B _ l rfl HO1.out w1.heap.size x (grp its.length) rfl HR.out hz1 hgl ?_))
  intro v2 w2 hv2 hg2
  have HB2 := Lib.hid (below_own HB1.out HO1.out hz1 hg2)
  have HK2 := Lib.hid (HK1.out.trans (k8_grown HO1.out hg2))
  have HX2 := Lib.hid (HX1.out.k8 (k8_grown HO1.out hg2))
  have HO2 := Lib.hid hv2
  have k3 := HX2.out.c3
  clear hg2 hv2 HB1 HK1 HX1 HO1 HR
  go_wp2_with fail
  go_loopw [0, 22] (fun b i wr => ∃ (j : Nat) (X : List UInt8), i = .int .i64 j ∧ j ≤ its.length ∧ Hid (OwnB wr B b (l ++ X)) ∧ Hid (X ++ encL false (nms.drop j) (its.drop j) = full) ∧ Hid (Below B w wr) ∧ Hid (K8 w wr) ∧ Hid (Box wr w.heap.size (.int .i64 6) (.int .i64 num) (.string txs) (.slice A its.length c) (.slice A' nms.length c'))) (fun _ i _ => its.length - (intOf i).toNat)
  case atStart => exact ⟨0, grp its.length, rfl, Nat.zero_le _, HO2, HF.out.symm, HB2, HK2, HX2⟩
  case round =>
    obtain ⟨j, X, rfl, hj, HO, HE, HB, HK, HX⟩ := hrel
    clear HX2 HK2 HB2 HO2 k3
    by_cases hlt : j < its.length
    · obtain ⟨p, o, A2, e2, A3, e3, rfl, h0, h1, h2, h3, h4, hx⟩ := item_atB hS HA.out HB.out j hlt
      have k0 : wr.cell? ⟨w.heap.size, 0, none⟩ = some (.int .i64 6) := HX.out.c0
      have hwl : w.heap.size < wr.heap.size := HX.out.lt
      have HV := Lib.hid hx
      clear hx
      go_wp2_with fail
      have hbx := below_box (w := wr) (.cells #[.int .i64 its[j].kind, .int .i64 its[j].num, .string its[j].text, .slice A2 its[j].items.length e2, .slice A3 its[j].names.length e3] 25)
      have hBz : B ≤ wr.heap.size := Nat.le_trans hB HB.out.size
      have HE2 : Hid (X ++ encT its[j] ++ encL false (nms.drop (j + 1)) (its.drop (j + 1)) = full) := Lib.hid (by
        have h1 := HE.out
        rw [encL_step false hlt (fun h => by cases h)] at h1
        simpa using h1)
      have HLE : Hid ((l ++ X).length + (encT its[j]).length ≤ 140737488355328) := Lib.hid (by
        have h1 := HLEN.out
        rw [← HE2.out] at h1
        simp only [List.length_append] at h1 ⊢; omega)
      have HC := Lib.hid (ih its[j] (List.getElem_mem hlt) S _ _ B (l ++ X) _ hS (Nat.le_trans hBz hbx.size) (HV.out.keep fun b hb => (hbx.mono hBz).block b (hS b hb)) (OwnB.below HO.out hbx) HLE.out)
      have HBx := Lib.hid (HB.out.trans (hbx.mono hBz))
      have HKx := Lib.hid (HK.out.trans (k8_below hbx))
      have HXx := Lib.hid (HX.out.call hbx)
      clear hbx h0 h1 h2 h3 h4 k0
      refine HC.out.mono ?_
      rintro e w3 ⟨v3, rfl, hv3, hb3, hk3⟩
      have HO3 : Hid (OwnB w3 B v3 (l ++ (X ++ encT its[j]))) := Lib.hid (by rw [← List.append_assoc]; exact hv3)
      have HB3 := Lib.hid (HBx.out.trans hb3)
      have HK3 := Lib.hid (HKx.out.trans hk3)
      have HX3 := Lib.hid (HXx.out.k8 hk3)
      clear hv3 hb3 hk3 HC HE HO HB HK HX
      go_wp2_with fail
      go_roundw
      case rel => exact ⟨j + 1, X ++ encT its[j], by go_num, by omega, HO3, HE2, HB3, HK3, HX3⟩
      case measure => simp [intOf]; omega
    · obtain rfl : j = its.length := by omega
      go_wp2_with fail
      go_ret
      exact ⟨_, rfl, by have h1 := HE.out; rw [List.drop_of_length_le (Nat.le_refl _), encL_nil, List.append_nil] at h1; rw [← h1]; exact HO.out, HB.out, HK.out⟩
end Go.Proofs.Ytipiplnhbecjeaa

/- Items put behind names. -/
namespace Go.Proofs.Ytipiplnhbecjeaa
set_option linter.unusedVariables false
set_option linter.unusedSimpArgs false
set_option maxRecDepth 100000
open Go.RowKit

set_option maxHeartbeats 4000000 in
set_option maxRecDepth 100000 in
theorem putItems7 (num : Int) (txs : ByteArray) (its : List VT) (nms : List ByteArray) (hnl : nms.length = its.length) (ih : ∀ x ∈ its, PutOK x) (S : Nat → Prop) (v bv : Value) (B : Nat) (l : List UInt8) (w : World) (hS : ∀ x, S x → x < B) (hB : B ≤ w.heap.size) (h : LV w S (.mk 7 num txs its nms) v) (hown : OwnB w B bv l)
    (hlen : l.length + (grp its.length ++ encL true nms its).length ≤ 140737488355328) :
    Calls Try.prog 87 #[bv, v] w (PutsR B (l ++ (grp its.length ++ encL true nms its)) w) := by
  obtain ⟨A, c, A', c', rfl, -, -, -, hl1, hl2, hN, hA⟩ := h.shape
  simp only [VT.kind, VT.num, VT.text, VT.items, VT.names] at *
  have HX := Lib.hid (Box.new (w := w) (.int .i64 7) (.int .i64 num) (.string txs) (.slice A its.length c) (.slice A' nms.length c'))
  have HB0 := Lib.hid (below_box (w := w) (.cells #[.int .i64 7, .int .i64 num, .string txs, .slice A its.length c, .slice A' nms.length c'] 25))
  have HO := Lib.hid (OwnB.below hown HB0.out)
  have HA := Lib.hid hA
  have HLEN := Lib.hid hlen
  have HNL := Lib.hid hnl
  have HN := Lib.hid hN
  obtain ⟨full, hfull⟩ : ∃ full, full = grp its.length ++ encL true nms its := ⟨_, rfl⟩
  have HF := Lib.hid hfull
  rw [← hfull] at HLEN ⊢
  clear h hA hown hlen hfull hnl hN
  go_enter Try.func87, Try.ntmps87
  have k3 := HX.out.c3
  go_wp2_with fail
  refine (count_any its.length _ (by omega)).mono ?_
  rintro e w1 (⟨_, _, x, rfl, hx, hb⟩ | ⟨h, _⟩)
  rotate_left
  · omega
  rw [Int.toNat_natCast] at hx
  have HR := Lib.hid hx.rd
  have hb1 := toStart HB0.out hb
  have HB1 := Lib.hid (hb1.mono hB)
  have HK1 := Lib.hid (k8_below hb1)
  have HO1 := Lib.hid (HO.out.below hb)
  have HX1 := Lib.hid (HX.out.call hb)
  have hz1 := Nat.le_trans hB hb1.size
  have hg := grp_length its.length
  have hgl : l.length + (grp its.length).length ≤ 140737488355328 := by have h1 := HLEN.out; rw [HF.out, List.length_append] at h1; omega
  clear hb hb1 hx k3 HB0 HO HX
  go_wp2_with (at_builtin; go_must (refine wpList_append_bytes rfl _ _ rfl B _ l rfl HO1.out w1.heap.size x (grp its.length) rfl HR.out hz1 hgl ?_))
  intro v2 w2 hv2 hg2
  have HB2 := Lib.hid (below_own HB1.out HO1.out hz1 hg2)
  have HK2 := Lib.hid (HK1.out.trans (k8_grown HO1.out hg2))
  have HX2 := Lib.hid (HX1.out.k8 (k8_grown HO1.out hg2))
  have HO2 := Lib.hid hv2
  have k3 := HX2.out.c3
  clear hg2 hv2 HB1 HK1 HX1 HO1 HR
  go_wp2_with fail
  go_loopw [0, 22] (fun b i wr => ∃ (j : Nat) (X : List UInt8), i = .int .i64 j ∧ j ≤ its.length ∧ Hid (OwnB wr B b (l ++ X)) ∧ Hid (X ++ encL true (nms.drop j) (its.drop j) = full) ∧ Hid (Below B w wr) ∧ Hid (K8 w wr) ∧ Hid (Box wr w.heap.size (.int .i64 7) (.int .i64 num) (.string txs) (.slice A its.length c) (.slice A' nms.length c'))) (fun _ i _ => its.length - (intOf i).toNat)
  case atStart => exact ⟨0, grp its.length, rfl, Nat.zero_le _, HO2, HF.out.symm, HB2, HK2, HX2⟩
  case round =>
    obtain ⟨j, X, rfl, hj, HO, HE, HB, HK, HX⟩ := hrel
    clear HX2 HK2 HB2 HO2 k3
    by_cases hlt : j < its.length
    · obtain ⟨p, o, A2, e2, A3, e3, rfl, h0, h1, h2, h3, h4, hx⟩ := item_atB hS HA.out HB.out j hlt
      have k0 : wr.cell? ⟨w.heap.size, 0, none⟩ = some (.int .i64 7) := HX.out.c0
      obtain ⟨p', o', rfl, hpB, t1, hts⟩ := text_atB hS HN.out HB.out j (by rw [HNL.out]; exact hlt)
      have hpl : p' < wr.heap.size := Nat.lt_of_lt_of_le (Nat.lt_of_lt_of_le hpB (Nat.le_trans hB HB.out.size)) (Nat.le_refl _)
      have k4 : wr.cell? ⟨w.heap.size, 4, none⟩ = some (.slice (some ⟨p', o', none⟩) nms.length c') := HX.out.c4
      have hjn : j < nms.length := by rw [HNL.out]; exact hlt
      obtain ⟨sn, hsn⟩ : ∃ s, s = nms[j] := ⟨_, rfl⟩
      rw [← hsn] at t1 hts
      have HSN := Lib.hid hsn
      have HTS := Lib.hid hts
      have hwl : w.heap.size < wr.heap.size := HX.out.lt
      have HV := Lib.hid hx
      clear hx hts hsn
      have hbx := below_box (w := wr) (.cells #[.int .i64 its[j].kind, .int .i64 its[j].num, .string its[j].text, .slice A2 its[j].items.length e2, .slice A3 its[j].names.length e3] 25)
      have hBz : B ≤ wr.heap.size := Nat.le_trans hB HB.out.size
      have HBX := Lib.hid (Box.new (w := wr) (.int .i64 its[j].kind) (.int .i64 its[j].num) (.string its[j].text) (.slice A2 its[j].items.length e2) (.slice A3 its[j].names.length e3))
      have HE2 : Hid (X ++ (txt sn ++ (encT its[j] ++ encL true (nms.drop (j + 1)) (its.drop (j + 1)))) = full) := Lib.hid (by
        have h1 := HE.out
        rw [encL_step true hlt (fun _ => hjn)] at h1
        have h2 : nms.getD j eS = sn := by rw [HSN.out]; simp [hjn]
        rw [h2] at h1
        simpa using h1)
      have HLE1 : Hid ((l ++ X).length + (txt sn).length ≤ 140737488355328) := Lib.hid (by
        have h1 := HLEN.out
        rw [← HE2.out] at h1
        simp only [List.length_append] at h1 ⊢; omega)
      have HLE : Hid ((l ++ (X ++ txt sn)).length + (encT its[j]).length ≤ 140737488355328) := Lib.hid (by
        have h1 := HLEN.out
        rw [← HE2.out] at h1
        simp only [List.length_append] at h1 ⊢; omega)
      have HOx := Lib.hid (OwnB.below HO.out hbx)
      have HBx := Lib.hid (HB.out.trans (hbx.mono hBz))
      have HKx := Lib.hid (HK.out.trans (k8_below hbx))
      have HXx := Lib.hid (HX.out.call hbx)
      have HVx : Hid (LV (wr.alloc (.cells #[.int .i64 its[j].kind, .int .i64 its[j].num, .string its[j].text, .slice A2 its[j].items.length e2, .slice A3 its[j].names.length e3] 25)) S its[j] _) := Lib.hid (HV.out.keep fun b hb => (hbx.mono hBz).block b (hS b hb))
      have hz3 : wr.heap.size < (wr.alloc (.cells #[.int .i64 its[j].kind, .int .i64 its[j].num, .string its[j].text, .slice A2 its[j].items.length e2, .slice A3 its[j].names.length e3] 25)).heap.size := by simp
      go_wp2_with fail
      generalize hW : wr.alloc (.cells #[.int .i64 its[j].kind, .int .i64 its[j].num, .string its[j].text, .slice A2 its[j].items.length e2, .slice A3 its[j].names.length e3] 25) = W at *
      clear hbx h0 h1 h2 h3 h4 k0 k4 t1 HO HB HK HX HV hW
      refine (text_any sn _ HTS.out).mono ?_
      rintro e w4 ⟨x4, rfl, hx4, hb4⟩
      have HR4 := Lib.hid hx4.rd
      have HO4 := Lib.hid (OwnB.below HOx.out hb4)
      have HB4 := Lib.hid (HBx.out.trans (hb4.mono (by have := HBx.out.size; omega)))
      have HK4 := Lib.hid (HKx.out.trans (k8_below hb4))
      have HX4 := Lib.hid (HXx.out.call hb4)
      have HBX4 := Lib.hid (HBX.out.call hb4)
      have HV4 : Hid (LV w4 S its[j] _) := Lib.hid (HVx.out.keep fun b hb => (hb4.mono (by have := HBx.out.size; omega : B ≤ W.heap.size)).block b (hS b hb))
      have hz4 : B ≤ w4.heap.size := Nat.le_trans hB HB4.out.size
      clear hx4 hb4 HOx HBx HKx HXx HBX HVx
      go_wp2_with (at_builtin; go_must (refine wpList_append_bytes rfl _ _ rfl B _ (l ++ X) rfl HO4.out w4.heap.size x4 (txt sn) rfl HR4.out hz4 HLE1.out ?_))
      intro v5 w5 hv5 hg5
      have HB5 := Lib.hid (below_own HB4.out HO4.out hz4 hg5)
      have hk5 := k8_grown HO4.out hg5
      have hb5 := below_own (Below.refl B w4) HO4.out hz4 hg5
      have HK5 := Lib.hid (HK4.out.trans hk5)
      have HX5 := Lib.hid (HX4.out.k8 hk5)
      have HBX5 := Lib.hid (HBX4.out.k8 hk5)
      have HO5 : Hid (OwnB w5 B v5 (l ++ (X ++ txt sn))) := Lib.hid hv5
      have HV5 : Hid (LV w5 S its[j] _) := Lib.hid (HV4.out.keep fun b hb => hb5.block b (hS b hb))
      have q0 := HBX5.out.c0
      have q1 := HBX5.out.c1
      have q2 := HBX5.out.c2
      have q3 := HBX5.out.c3
      have q4 := HBX5.out.c4
      clear hv5 hg5 hk5 hb5 HB4 HK4 HX4 HBX4 HO4 HR4 HV4
      go_wp2_with fail
      have HC := Lib.hid (ih its[j] (List.getElem_mem hlt) S _ _ B (l ++ (X ++ txt sn)) _ hS (Nat.le_trans hB HB5.out.size) HV5.out HO5.out HLE.out)
      clear q0 q1 q2 q3 q4
      refine HC.out.mono ?_
      rintro e w3 ⟨v3, rfl, hv3, hb3, hk3⟩
      have HO3 : Hid (OwnB w3 B v3 (l ++ (X ++ txt sn ++ encT its[j]))) := Lib.hid (by rw [List.append_assoc] at hv3; exact hv3)
      have HB3 := Lib.hid (HB5.out.trans hb3)
      have HK3 := Lib.hid (HK5.out.trans hk3)
      have HX3 := Lib.hid (HX5.out.k8 hk3)
      have HE3 : Hid (X ++ txt sn ++ encT its[j] ++ encL true (nms.drop (j + 1)) (its.drop (j + 1)) = full) := Lib.hid (by rw [← HE2.out]; simp)
      clear hv3 hb3 hk3 HC HE HE2
      go_wp2_with fail
      go_roundw
      case rel => exact ⟨j + 1, X ++ txt sn ++ encT its[j], by go_num, by omega, HO3, HE3, HB3, HK3, HX3⟩
      case measure => simp [intOf]; omega
    · obtain rfl : j = its.length := by omega
      go_wp2_with fail
      go_ret
      exact ⟨_, rfl, by have h1 := HE.out; rw [List.drop_of_length_le (Nat.le_refl _), encL_nil, List.append_nil] at h1; rw [← h1]; exact HO.out, HB.out, HK.out⟩
end Go.Proofs.Ytipiplnhbecjeaa

/- The code of each kind of value, put behind bytes of the call's own. -/
namespace Go.Proofs.Ytipiplnhbecjeaa
set_option linter.unusedVariables false
set_option linter.unusedSimpArgs false
set_option maxRecDepth 100000
open Go.RowKit

set_option maxHeartbeats 2000000 in
set_option maxRecDepth 100000 in
theorem cpt1  : PutOK (.mk 1 0 eS [] []) := by
  intro S v bv B l w hS hB h hown hlen
  have he : encT (.mk 1 0 eS [] []) = [1] := by
    rw [encT_eq]; unfold headE; simp [VT.kind, VT.num, VT.text, VT.items, VT.names, encL_nil]
  rw [he] at hlen ⊢
  obtain ⟨A, c, A', c', rfl, -, hri, hrs, hl1, -, hN, hA⟩ := h.shape
  simp only [VT.kind, VT.num, VT.text, VT.items, VT.names, List.length_nil] at *
  have HX := Lib.hid (Box.new (w := w) (.int .i64 1) (.int .i64 0) (.string eS) (.slice A 0 c) (.slice A' 0 c'))
  have hb0 := below_box (w := w) (.cells #[.int .i64 1, .int .i64 0, .string eS, .slice A 0 c, .slice A' 0 c'] 25)
  have HO := Lib.hid (OwnB.below hown hb0)
  have hb1 := grow_trans hb0 (below_box (w := w.alloc (.cells #[.int .i64 1, .int .i64 0, .string eS, .slice A 0 c, .slice A' 0 c'] 25)) (.cells #[.int .u8 1] 5))
  have HB1 := Lib.hid (hb1.mono hB)
  have HO1 := Lib.hid (OwnB.below HO.out (below_box (w := w.alloc (.cells #[.int .i64 1, .int .i64 0, .string eS, .slice A 0 c, .slice A' 0 c'] 25)) (.cells #[.int .u8 1] 5)))
  have HK1 := Lib.hid (k8_below hb1)
  have HX1 := Lib.hid (HX.out.call (below_box (.cells #[.int .u8 1] 5)))
  have HV0 := Lib.hid (h.keep (fun b hb => (hb0.mono hB).block b (hS b hb)))
  have hz1 := Nat.le_trans hB hb1.size
  have HLEN := Lib.hid hlen
  have k0 := HX.out.c0
  have hl0 : l.length + 1 ≤ 140737488355328 := by simp only [List.length_cons, List.length_append, List.length_nil] at hlen; omega
  clear hb0 hb1 hown hlen HO HX he h
  go_enter Try.func68, Try.ntmps68
  go_wp2_with (at_builtin; go_must (refine wpList_append_bytes rfl _ _ rfl B _ l rfl HO1.out _ (.slice (some ⟨w.heap.size + 1, 0, none⟩) 1 1) [1] rfl (Rd.one' (by simp) 1 rfl) hz1 hl0 ?_))
  intro v2 w2 hv2 hg2
  have HB2 := Lib.hid (below_own HB1.out HO1.out hz1 hg2)
  have hk2 := k8_grown HO1.out hg2
  have HK2 := Lib.hid (HK1.out.trans hk2)
  have HX2 := Lib.hid (HX1.out.k8 hk2)
  have HO2 := Lib.hid hv2
  have hz2 : B ≤ w2.heap.size := Nat.le_trans hB HB2.out.size
  have k0 := HX2.out.c0
  clear hg2 hv2 HB1 HK1 HX1 HO1 hk2
  go_wp2_with fail
  go_ret
  exact ⟨_, rfl, HO2.out, HB2.out, HK2.out⟩

set_option maxHeartbeats 2000000 in
set_option maxRecDepth 100000 in
theorem cpt2_0  : PutOK (.mk 2 0 eS [] []) := by
  intro S v bv B l w hS hB h hown hlen
  have he : encT (.mk 2 0 eS [] []) = [2, 0] := by
    rw [encT_eq]; unfold headE; simp [VT.kind, VT.num, VT.text, VT.items, VT.names, encL_nil]
  rw [he] at hlen ⊢
  obtain ⟨A, c, A', c', rfl, -, hri, hrs, hl1, -, hN, hA⟩ := h.shape
  simp only [VT.kind, VT.num, VT.text, VT.items, VT.names, List.length_nil] at *
  have HX := Lib.hid (Box.new (w := w) (.int .i64 2) (.int .i64 0) (.string eS) (.slice A 0 c) (.slice A' 0 c'))
  have hb0 := below_box (w := w) (.cells #[.int .i64 2, .int .i64 0, .string eS, .slice A 0 c, .slice A' 0 c'] 25)
  have HO := Lib.hid (OwnB.below hown hb0)
  have hb1 := grow_trans hb0 (below_box (w := w.alloc (.cells #[.int .i64 2, .int .i64 0, .string eS, .slice A 0 c, .slice A' 0 c'] 25)) (.cells #[.int .u8 2] 5))
  have HB1 := Lib.hid (hb1.mono hB)
  have HO1 := Lib.hid (OwnB.below HO.out (below_box (w := w.alloc (.cells #[.int .i64 2, .int .i64 0, .string eS, .slice A 0 c, .slice A' 0 c'] 25)) (.cells #[.int .u8 2] 5)))
  have HK1 := Lib.hid (k8_below hb1)
  have HX1 := Lib.hid (HX.out.call (below_box (.cells #[.int .u8 2] 5)))
  have HV0 := Lib.hid (h.keep (fun b hb => (hb0.mono hB).block b (hS b hb)))
  have hz1 := Nat.le_trans hB hb1.size
  have HLEN := Lib.hid hlen
  have k0 := HX.out.c0
  have hl0 : l.length + 1 ≤ 140737488355328 := by simp only [List.length_cons, List.length_append, List.length_nil] at hlen; omega
  clear hb0 hb1 hown hlen HO HX he h
  go_enter Try.func68, Try.ntmps68
  go_wp2_with (at_builtin; go_must (refine wpList_append_bytes rfl _ _ rfl B _ l rfl HO1.out _ (.slice (some ⟨w.heap.size + 1, 0, none⟩) 1 1) [2] rfl (Rd.one' (by simp) 2 rfl) hz1 hl0 ?_))
  intro v2 w2 hv2 hg2
  have HB2 := Lib.hid (below_own HB1.out HO1.out hz1 hg2)
  have hk2 := k8_grown HO1.out hg2
  have HK2 := Lib.hid (HK1.out.trans hk2)
  have HX2 := Lib.hid (HX1.out.k8 hk2)
  have HO2 := Lib.hid hv2
  have hz2 : B ≤ w2.heap.size := Nat.le_trans hB HB2.out.size
  have k0 := HX2.out.c0
  clear hg2 hv2 HB1 HK1 HX1 HO1 hk2
  have k1 := HX2.out.c1
  have HOa := Lib.hid (OwnB.below HO2.out (below_box (.cells #[.int .u8 0] 5)))
  have HBa := Lib.hid (HB2.out.trans ((below_box (.cells #[.int .u8 0] 5)).mono hz2))
  have HKa := Lib.hid (HK2.out.trans (k8_below (below_box (.cells #[.int .u8 0] 5))))
  have hza := HBa.out.size
  go_wp2_with (at_builtin; go_must (refine wpList_append_bytes rfl _ _ rfl B _ (l ++ [2]) rfl HOa.out _ (.slice (some ⟨w2.heap.size, 0, none⟩) 1 1) [0] rfl (Rd.one' rfl 0 rfl) (Nat.le_trans hB hza) (by have h := HLEN.out; simp only [List.length_cons, List.length_append, List.length_nil] at h ⊢; omega) ?_))
  intro v3 w3 hv3 hg3
  have HB3 := Lib.hid (below_own HBa.out HOa.out (Nat.le_trans hB hza) hg3)
  have HK3 := Lib.hid (HKa.out.trans (k8_grown HOa.out hg3))
  have HO3 : Hid (OwnB w3 B v3 (l ++ [2, 0])) := Lib.hid (by simpa using hv3)
  clear hv3 hg3
  go_wp2_with fail
  go_ret
  exact ⟨_, rfl, HO3.out, HB3.out, HK3.out⟩

set_option maxHeartbeats 2000000 in
set_option maxRecDepth 100000 in
theorem cpt2_1  : PutOK (.mk 2 1 eS [] []) := by
  intro S v bv B l w hS hB h hown hlen
  have he : encT (.mk 2 1 eS [] []) = [2, 1] := by
    rw [encT_eq]; unfold headE; simp [VT.kind, VT.num, VT.text, VT.items, VT.names, encL_nil]
  rw [he] at hlen ⊢
  obtain ⟨A, c, A', c', rfl, -, hri, hrs, hl1, -, hN, hA⟩ := h.shape
  simp only [VT.kind, VT.num, VT.text, VT.items, VT.names, List.length_nil] at *
  have HX := Lib.hid (Box.new (w := w) (.int .i64 2) (.int .i64 1) (.string eS) (.slice A 0 c) (.slice A' 0 c'))
  have hb0 := below_box (w := w) (.cells #[.int .i64 2, .int .i64 1, .string eS, .slice A 0 c, .slice A' 0 c'] 25)
  have HO := Lib.hid (OwnB.below hown hb0)
  have hb1 := grow_trans hb0 (below_box (w := w.alloc (.cells #[.int .i64 2, .int .i64 1, .string eS, .slice A 0 c, .slice A' 0 c'] 25)) (.cells #[.int .u8 2] 5))
  have HB1 := Lib.hid (hb1.mono hB)
  have HO1 := Lib.hid (OwnB.below HO.out (below_box (w := w.alloc (.cells #[.int .i64 2, .int .i64 1, .string eS, .slice A 0 c, .slice A' 0 c'] 25)) (.cells #[.int .u8 2] 5)))
  have HK1 := Lib.hid (k8_below hb1)
  have HX1 := Lib.hid (HX.out.call (below_box (.cells #[.int .u8 2] 5)))
  have HV0 := Lib.hid (h.keep (fun b hb => (hb0.mono hB).block b (hS b hb)))
  have hz1 := Nat.le_trans hB hb1.size
  have HLEN := Lib.hid hlen
  have k0 := HX.out.c0
  have hl0 : l.length + 1 ≤ 140737488355328 := by simp only [List.length_cons, List.length_append, List.length_nil] at hlen; omega
  clear hb0 hb1 hown hlen HO HX he h
  go_enter Try.func68, Try.ntmps68
  go_wp2_with (at_builtin; go_must (refine wpList_append_bytes rfl _ _ rfl B _ l rfl HO1.out _ (.slice (some ⟨w.heap.size + 1, 0, none⟩) 1 1) [2] rfl (Rd.one' (by simp) 2 rfl) hz1 hl0 ?_))
  intro v2 w2 hv2 hg2
  have HB2 := Lib.hid (below_own HB1.out HO1.out hz1 hg2)
  have hk2 := k8_grown HO1.out hg2
  have HK2 := Lib.hid (HK1.out.trans hk2)
  have HX2 := Lib.hid (HX1.out.k8 hk2)
  have HO2 := Lib.hid hv2
  have hz2 : B ≤ w2.heap.size := Nat.le_trans hB HB2.out.size
  have k0 := HX2.out.c0
  clear hg2 hv2 HB1 HK1 HX1 HO1 hk2
  have k1 := HX2.out.c1
  have HOa := Lib.hid (OwnB.below HO2.out (below_box (.cells #[.int .u8 1] 5)))
  have HBa := Lib.hid (HB2.out.trans ((below_box (.cells #[.int .u8 1] 5)).mono hz2))
  have HKa := Lib.hid (HK2.out.trans (k8_below (below_box (.cells #[.int .u8 1] 5))))
  have hza := HBa.out.size
  go_wp2_with (at_builtin; go_must (refine wpList_append_bytes rfl _ _ rfl B _ (l ++ [2]) rfl HOa.out _ (.slice (some ⟨w2.heap.size, 0, none⟩) 1 1) [1] rfl (Rd.one' rfl 1 rfl) (Nat.le_trans hB hza) (by have h := HLEN.out; simp only [List.length_cons, List.length_append, List.length_nil] at h ⊢; omega) ?_))
  intro v3 w3 hv3 hg3
  have HB3 := Lib.hid (below_own HBa.out HOa.out (Nat.le_trans hB hza) hg3)
  have HK3 := Lib.hid (HKa.out.trans (k8_grown HOa.out hg3))
  have HO3 : Hid (OwnB w3 B v3 (l ++ [2, 1])) := Lib.hid (by simpa using hv3)
  clear hv3 hg3
  go_wp2_with fail
  go_ret
  exact ⟨_, rfl, HO3.out, HB3.out, HK3.out⟩

set_option maxHeartbeats 2000000 in
set_option maxRecDepth 100000 in
theorem cpt3 (i : Int) : PutOK (.mk 3 i eS [] []) := by
  intro S v bv B l w hS hB h hown hlen
  have he : encT (.mk 3 i eS [] []) = 3 :: grp (zig i) := by
    rw [encT_eq]; unfold headE; simp [VT.kind, VT.num, VT.text, VT.items, VT.names, encL_nil]
  rw [he] at hlen ⊢
  obtain ⟨A, c, A', c', rfl, -, hri, hrs, hl1, -, hN, hA⟩ := h.shape
  simp only [VT.kind, VT.num, VT.text, VT.items, VT.names, List.length_nil] at *
  have HX := Lib.hid (Box.new (w := w) (.int .i64 3) (.int .i64 i) (.string eS) (.slice A 0 c) (.slice A' 0 c'))
  have hb0 := below_box (w := w) (.cells #[.int .i64 3, .int .i64 i, .string eS, .slice A 0 c, .slice A' 0 c'] 25)
  have HO := Lib.hid (OwnB.below hown hb0)
  have hb1 := grow_trans hb0 (below_box (w := w.alloc (.cells #[.int .i64 3, .int .i64 i, .string eS, .slice A 0 c, .slice A' 0 c'] 25)) (.cells #[.int .u8 3] 5))
  have HB1 := Lib.hid (hb1.mono hB)
  have HO1 := Lib.hid (OwnB.below HO.out (below_box (w := w.alloc (.cells #[.int .i64 3, .int .i64 i, .string eS, .slice A 0 c, .slice A' 0 c'] 25)) (.cells #[.int .u8 3] 5)))
  have HK1 := Lib.hid (k8_below hb1)
  have HX1 := Lib.hid (HX.out.call (below_box (.cells #[.int .u8 3] 5)))
  have HV0 := Lib.hid (h.keep (fun b hb => (hb0.mono hB).block b (hS b hb)))
  have hz1 := Nat.le_trans hB hb1.size
  have HLEN := Lib.hid hlen
  have k0 := HX.out.c0
  have hl0 : l.length + 1 ≤ 140737488355328 := by simp only [List.length_cons, List.length_append, List.length_nil] at hlen; omega
  clear hb0 hb1 hown hlen HO HX he h
  have HRI := Lib.hid hri
  go_enter Try.func68, Try.ntmps68
  go_wp2_with (at_builtin; go_must (refine wpList_append_bytes rfl _ _ rfl B _ l rfl HO1.out _ (.slice (some ⟨w.heap.size + 1, 0, none⟩) 1 1) [3] rfl (Rd.one' (by simp) 3 rfl) hz1 hl0 ?_))
  intro v2 w2 hv2 hg2
  have HB2 := Lib.hid (below_own HB1.out HO1.out hz1 hg2)
  have hk2 := k8_grown HO1.out hg2
  have HK2 := Lib.hid (HK1.out.trans hk2)
  have HX2 := Lib.hid (HX1.out.k8 hk2)
  have HO2 := Lib.hid hv2
  have hz2 : B ≤ w2.heap.size := Nat.le_trans hB HB2.out.size
  have k0 := HX2.out.c0
  clear hg2 hv2 HB1 HK1 HX1 HO1 hk2
  have k := HX2.out.c1
  go_wp2_with fail
  refine (int_any i _ HRI.out.1 HRI.out.2).mono ?_
  rintro e w3 ⟨x, rfl, hx, hb⟩
  have HR := Lib.hid hx.rd
  have HOa := Lib.hid (OwnB.below HO2.out hb)
  have HBa := Lib.hid (HB2.out.trans (hb.mono hz2))
  have HKa := Lib.hid (HK2.out.trans (k8_below hb))
  have hza := Nat.le_trans hB HBa.out.size
  clear hx hb k k0
  go_wp2_with (at_builtin; go_must (refine wpList_append_bytes rfl _ _ rfl B _ (l ++ [3]) rfl HOa.out w3.heap.size x (grp (zig i)) rfl HR.out hza (by have h := HLEN.out; simp only [List.length_cons, List.length_append, List.length_nil] at h ⊢; omega) ?_))
  intro v4 w4 hv4 hg4
  have HB4 := Lib.hid (below_own HBa.out HOa.out hza hg4)
  have HK4 := Lib.hid (HKa.out.trans (k8_grown HOa.out hg4))
  have HO4 : Hid (OwnB w4 B v4 (l ++ 3 :: grp (zig i))) := Lib.hid (by simpa using hv4)
  clear hv4 hg4
  go_wp2_with fail
  go_ret
  exact ⟨_, rfl, HO4.out, HB4.out, HK4.out⟩

set_option maxHeartbeats 2000000 in
set_option maxRecDepth 100000 in
theorem cpt4 (s : ByteArray) : PutOK (.mk 4 0 s [] []) := by
  intro S v bv B l w hS hB h hown hlen
  have he : encT (.mk 4 0 s [] []) = 4 :: txt s := by
    rw [encT_eq]; unfold headE; simp [VT.kind, VT.num, VT.text, VT.items, VT.names, encL_nil]
  rw [he] at hlen ⊢
  obtain ⟨A, c, A', c', rfl, -, hri, hrs, hl1, -, hN, hA⟩ := h.shape
  simp only [VT.kind, VT.num, VT.text, VT.items, VT.names, List.length_nil] at *
  have HX := Lib.hid (Box.new (w := w) (.int .i64 4) (.int .i64 0) (.string s) (.slice A 0 c) (.slice A' 0 c'))
  have hb0 := below_box (w := w) (.cells #[.int .i64 4, .int .i64 0, .string s, .slice A 0 c, .slice A' 0 c'] 25)
  have HO := Lib.hid (OwnB.below hown hb0)
  have hb1 := grow_trans hb0 (below_box (w := w.alloc (.cells #[.int .i64 4, .int .i64 0, .string s, .slice A 0 c, .slice A' 0 c'] 25)) (.cells #[.int .u8 4] 5))
  have HB1 := Lib.hid (hb1.mono hB)
  have HO1 := Lib.hid (OwnB.below HO.out (below_box (w := w.alloc (.cells #[.int .i64 4, .int .i64 0, .string s, .slice A 0 c, .slice A' 0 c'] 25)) (.cells #[.int .u8 4] 5)))
  have HK1 := Lib.hid (k8_below hb1)
  have HX1 := Lib.hid (HX.out.call (below_box (.cells #[.int .u8 4] 5)))
  have HV0 := Lib.hid (h.keep (fun b hb => (hb0.mono hB).block b (hS b hb)))
  have hz1 := Nat.le_trans hB hb1.size
  have HLEN := Lib.hid hlen
  have k0 := HX.out.c0
  have hl0 : l.length + 1 ≤ 140737488355328 := by simp only [List.length_cons, List.length_append, List.length_nil] at hlen; omega
  clear hb0 hb1 hown hlen HO HX he h
  have HRS := Lib.hid hrs
  go_enter Try.func68, Try.ntmps68
  go_wp2_with (at_builtin; go_must (refine wpList_append_bytes rfl _ _ rfl B _ l rfl HO1.out _ (.slice (some ⟨w.heap.size + 1, 0, none⟩) 1 1) [4] rfl (Rd.one' (by simp) 4 rfl) hz1 hl0 ?_))
  intro v2 w2 hv2 hg2
  have HB2 := Lib.hid (below_own HB1.out HO1.out hz1 hg2)
  have hk2 := k8_grown HO1.out hg2
  have HK2 := Lib.hid (HK1.out.trans hk2)
  have HX2 := Lib.hid (HX1.out.k8 hk2)
  have HO2 := Lib.hid hv2
  have hz2 : B ≤ w2.heap.size := Nat.le_trans hB HB2.out.size
  have k0 := HX2.out.c0
  clear hg2 hv2 HB1 HK1 HX1 HO1 hk2
  have k := HX2.out.c2
  go_wp2_with fail
  refine (text_any s _ HRS.out).mono ?_
  rintro e w3 ⟨x, rfl, hx, hb⟩
  have HR := Lib.hid hx.rd
  have HOa := Lib.hid (OwnB.below HO2.out hb)
  have HBa := Lib.hid (HB2.out.trans (hb.mono hz2))
  have HKa := Lib.hid (HK2.out.trans (k8_below hb))
  have hza := Nat.le_trans hB HBa.out.size
  clear hx hb k k0
  go_wp2_with (at_builtin; go_must (refine wpList_append_bytes rfl _ _ rfl B _ (l ++ [4]) rfl HOa.out w3.heap.size x (txt s) rfl HR.out hza (by have h := HLEN.out; simp only [List.length_cons, List.length_append, List.length_nil] at h ⊢; omega) ?_))
  intro v4 w4 hv4 hg4
  have HB4 := Lib.hid (below_own HBa.out HOa.out hza hg4)
  have HK4 := Lib.hid (HKa.out.trans (k8_grown HOa.out hg4))
  have HO4 : Hid (OwnB w4 B v4 (l ++ 4 :: txt s)) := Lib.hid (by simpa using hv4)
  clear hv4 hg4
  go_wp2_with fail
  go_ret
  exact ⟨_, rfl, HO4.out, HB4.out, HK4.out⟩

set_option maxHeartbeats 2000000 in
set_option maxRecDepth 100000 in
theorem cpt5 (s : ByteArray) : PutOK (.mk 5 0 s [] []) := by
  intro S v bv B l w hS hB h hown hlen
  have he : encT (.mk 5 0 s [] []) = 5 :: txt s := by
    rw [encT_eq]; unfold headE; simp [VT.kind, VT.num, VT.text, VT.items, VT.names, encL_nil]
  rw [he] at hlen ⊢
  obtain ⟨A, c, A', c', rfl, -, hri, hrs, hl1, -, hN, hA⟩ := h.shape
  simp only [VT.kind, VT.num, VT.text, VT.items, VT.names, List.length_nil] at *
  have HX := Lib.hid (Box.new (w := w) (.int .i64 5) (.int .i64 0) (.string s) (.slice A 0 c) (.slice A' 0 c'))
  have hb0 := below_box (w := w) (.cells #[.int .i64 5, .int .i64 0, .string s, .slice A 0 c, .slice A' 0 c'] 25)
  have HO := Lib.hid (OwnB.below hown hb0)
  have hb1 := grow_trans hb0 (below_box (w := w.alloc (.cells #[.int .i64 5, .int .i64 0, .string s, .slice A 0 c, .slice A' 0 c'] 25)) (.cells #[.int .u8 5] 5))
  have HB1 := Lib.hid (hb1.mono hB)
  have HO1 := Lib.hid (OwnB.below HO.out (below_box (w := w.alloc (.cells #[.int .i64 5, .int .i64 0, .string s, .slice A 0 c, .slice A' 0 c'] 25)) (.cells #[.int .u8 5] 5)))
  have HK1 := Lib.hid (k8_below hb1)
  have HX1 := Lib.hid (HX.out.call (below_box (.cells #[.int .u8 5] 5)))
  have HV0 := Lib.hid (h.keep (fun b hb => (hb0.mono hB).block b (hS b hb)))
  have hz1 := Nat.le_trans hB hb1.size
  have HLEN := Lib.hid hlen
  have k0 := HX.out.c0
  have hl0 : l.length + 1 ≤ 140737488355328 := by simp only [List.length_cons, List.length_append, List.length_nil] at hlen; omega
  clear hb0 hb1 hown hlen HO HX he h
  have HRS := Lib.hid hrs
  go_enter Try.func68, Try.ntmps68
  go_wp2_with (at_builtin; go_must (refine wpList_append_bytes rfl _ _ rfl B _ l rfl HO1.out _ (.slice (some ⟨w.heap.size + 1, 0, none⟩) 1 1) [5] rfl (Rd.one' (by simp) 5 rfl) hz1 hl0 ?_))
  intro v2 w2 hv2 hg2
  have HB2 := Lib.hid (below_own HB1.out HO1.out hz1 hg2)
  have hk2 := k8_grown HO1.out hg2
  have HK2 := Lib.hid (HK1.out.trans hk2)
  have HX2 := Lib.hid (HX1.out.k8 hk2)
  have HO2 := Lib.hid hv2
  have hz2 : B ≤ w2.heap.size := Nat.le_trans hB HB2.out.size
  have k0 := HX2.out.c0
  clear hg2 hv2 HB1 HK1 HX1 HO1 hk2
  have k := HX2.out.c2
  go_wp2_with fail
  refine (text_any s _ HRS.out).mono ?_
  rintro e w3 ⟨x, rfl, hx, hb⟩
  have HR := Lib.hid hx.rd
  have HOa := Lib.hid (OwnB.below HO2.out hb)
  have HBa := Lib.hid (HB2.out.trans (hb.mono hz2))
  have HKa := Lib.hid (HK2.out.trans (k8_below hb))
  have hza := Nat.le_trans hB HBa.out.size
  clear hx hb k k0
  go_wp2_with (at_builtin; go_must (refine wpList_append_bytes rfl _ _ rfl B _ (l ++ [5]) rfl HOa.out w3.heap.size x (txt s) rfl HR.out hza (by have h := HLEN.out; simp only [List.length_cons, List.length_append, List.length_nil] at h ⊢; omega) ?_))
  intro v4 w4 hv4 hg4
  have HB4 := Lib.hid (below_own HBa.out HOa.out hza hg4)
  have HK4 := Lib.hid (HKa.out.trans (k8_grown HOa.out hg4))
  have HO4 : Hid (OwnB w4 B v4 (l ++ 5 :: txt s)) := Lib.hid (by simpa using hv4)
  clear hv4 hg4
  go_wp2_with fail
  go_ret
  exact ⟨_, rfl, HO4.out, HB4.out, HK4.out⟩

set_option maxHeartbeats 2000000 in
set_option maxRecDepth 100000 in
theorem cpt6 (its : List VT) (ih : ∀ x ∈ its, PutOK x) : PutOK (.mk 6 0 eS its []) := by
  intro S v bv B l w hS hB h hown hlen
  have he : encT (.mk 6 0 eS its []) = 6 :: (grp its.length ++ encL false [] its) := by
    rw [encT_eq]; unfold headE; simp [VT.kind, VT.num, VT.text, VT.items, VT.names, encL_nil]
  rw [he] at hlen ⊢
  obtain ⟨A, c, A', c', rfl, -, hri, hrs, hl1, -, hN, hA⟩ := h.shape
  simp only [VT.kind, VT.num, VT.text, VT.items, VT.names, List.length_nil] at *
  have HX := Lib.hid (Box.new (w := w) (.int .i64 6) (.int .i64 0) (.string eS) (.slice A its.length c) (.slice A' 0 c'))
  have hb0 := below_box (w := w) (.cells #[.int .i64 6, .int .i64 0, .string eS, .slice A its.length c, .slice A' 0 c'] 25)
  have HO := Lib.hid (OwnB.below hown hb0)
  have hb1 := grow_trans hb0 (below_box (w := w.alloc (.cells #[.int .i64 6, .int .i64 0, .string eS, .slice A its.length c, .slice A' 0 c'] 25)) (.cells #[.int .u8 6] 5))
  have HB1 := Lib.hid (hb1.mono hB)
  have HO1 := Lib.hid (OwnB.below HO.out (below_box (w := w.alloc (.cells #[.int .i64 6, .int .i64 0, .string eS, .slice A its.length c, .slice A' 0 c'] 25)) (.cells #[.int .u8 6] 5)))
  have HK1 := Lib.hid (k8_below hb1)
  have HX1 := Lib.hid (HX.out.call (below_box (.cells #[.int .u8 6] 5)))
  have HV0 := Lib.hid (h.keep (fun b hb => (hb0.mono hB).block b (hS b hb)))
  have hz1 := Nat.le_trans hB hb1.size
  have HLEN := Lib.hid hlen
  have k0 := HX.out.c0
  have hl0 : l.length + 1 ≤ 140737488355328 := by simp only [List.length_cons, List.length_append, List.length_nil] at hlen; omega
  clear hb0 hb1 hown hlen HO HX he h
  have HIH := Lib.hid ih
  clear ih hN hA
  go_enter Try.func68, Try.ntmps68
  go_wp2_with (at_builtin; go_must (refine wpList_append_bytes rfl _ _ rfl B _ l rfl HO1.out _ (.slice (some ⟨w.heap.size + 1, 0, none⟩) 1 1) [6] rfl (Rd.one' (by simp) 6 rfl) hz1 hl0 ?_))
  intro v2 w2 hv2 hg2
  have HB2 := Lib.hid (below_own HB1.out HO1.out hz1 hg2)
  have hk2 := k8_grown HO1.out hg2
  have HK2 := Lib.hid (HK1.out.trans hk2)
  have HX2 := Lib.hid (HX1.out.k8 hk2)
  have HO2 := Lib.hid hv2
  have hz2 : B ≤ w2.heap.size := Nat.le_trans hB HB2.out.size
  have k0 := HX2.out.c0
  clear hg2 hv2 HB1 HK1 HX1 HO1 hk2
  have k1 := HX2.out.c1
  have k2 := HX2.out.c2
  have k3 := HX2.out.c3
  have k4 := HX2.out.c4
  have HV2 : Hid (LV w2 S _ _) := Lib.hid (HV0.out.keep fun b hb => by
    have h1 := (HB2.out.block b (hS b hb)).trans (((below_box (w := w) (.cells #[.int .i64 6, .int .i64 0, .string eS, .slice A its.length c, .slice A' 0 c'] 25)).mono hB).block b (hS b hb)).symm
    exact h1)
  go_wp2_with fail
  refine (putItems6 0 eS its [] HIH.out S _ _ B (l ++ [6]) _ hS hz2 HV2.out HO2.out (by have h := HLEN.out; simp only [List.length_cons, List.length_append, List.length_nil] at h ⊢; omega)).mono ?_
  rintro e w3 ⟨x, rfl, hx, hb, hk⟩
  have HO3 : Hid (OwnB w3 B x (l ++ 6 :: (grp its.length ++ encL false [] its))) := Lib.hid (by simpa using hx)
  have HB3 := Lib.hid (HB2.out.trans hb)
  have HK3 := Lib.hid (HK2.out.trans hk)
  clear hx hb hk
  go_wp2_with fail
  go_ret
  exact ⟨_, rfl, HO3.out, HB3.out, HK3.out⟩

set_option maxHeartbeats 2000000 in
set_option maxRecDepth 100000 in
theorem cpt7 (its : List VT) (ns : List ByteArray) (hn : ns.length = its.length) (ih : ∀ x ∈ its, PutOK x) : PutOK (.mk 7 0 eS its ns) := by
  intro S v bv B l w hS hB h hown hlen
  have he : encT (.mk 7 0 eS its ns) = 7 :: (grp its.length ++ encL true ns its) := by
    rw [encT_eq]; unfold headE; simp [VT.kind, VT.num, VT.text, VT.items, VT.names, encL_nil]
  rw [he] at hlen ⊢
  obtain ⟨A, c, A', c', rfl, -, hri, hrs, hl1, -, hN, hA⟩ := h.shape
  simp only [VT.kind, VT.num, VT.text, VT.items, VT.names, List.length_nil] at *
  have HX := Lib.hid (Box.new (w := w) (.int .i64 7) (.int .i64 0) (.string eS) (.slice A its.length c) (.slice A' ns.length c'))
  have hb0 := below_box (w := w) (.cells #[.int .i64 7, .int .i64 0, .string eS, .slice A its.length c, .slice A' ns.length c'] 25)
  have HO := Lib.hid (OwnB.below hown hb0)
  have hb1 := grow_trans hb0 (below_box (w := w.alloc (.cells #[.int .i64 7, .int .i64 0, .string eS, .slice A its.length c, .slice A' ns.length c'] 25)) (.cells #[.int .u8 7] 5))
  have HB1 := Lib.hid (hb1.mono hB)
  have HO1 := Lib.hid (OwnB.below HO.out (below_box (w := w.alloc (.cells #[.int .i64 7, .int .i64 0, .string eS, .slice A its.length c, .slice A' ns.length c'] 25)) (.cells #[.int .u8 7] 5)))
  have HK1 := Lib.hid (k8_below hb1)
  have HX1 := Lib.hid (HX.out.call (below_box (.cells #[.int .u8 7] 5)))
  have HV0 := Lib.hid (h.keep (fun b hb => (hb0.mono hB).block b (hS b hb)))
  have hz1 := Nat.le_trans hB hb1.size
  have HLEN := Lib.hid hlen
  have k0 := HX.out.c0
  have hl0 : l.length + 1 ≤ 140737488355328 := by simp only [List.length_cons, List.length_append, List.length_nil] at hlen; omega
  clear hb0 hb1 hown hlen HO HX he h
  have HN7 := Lib.hid hn
  clear hn
  have HIH := Lib.hid ih
  clear ih hN hA
  go_enter Try.func68, Try.ntmps68
  go_wp2_with (at_builtin; go_must (refine wpList_append_bytes rfl _ _ rfl B _ l rfl HO1.out _ (.slice (some ⟨w.heap.size + 1, 0, none⟩) 1 1) [7] rfl (Rd.one' (by simp) 7 rfl) hz1 hl0 ?_))
  intro v2 w2 hv2 hg2
  have HB2 := Lib.hid (below_own HB1.out HO1.out hz1 hg2)
  have hk2 := k8_grown HO1.out hg2
  have HK2 := Lib.hid (HK1.out.trans hk2)
  have HX2 := Lib.hid (HX1.out.k8 hk2)
  have HO2 := Lib.hid hv2
  have hz2 : B ≤ w2.heap.size := Nat.le_trans hB HB2.out.size
  have k0 := HX2.out.c0
  clear hg2 hv2 HB1 HK1 HX1 HO1 hk2
  have k1 := HX2.out.c1
  have k2 := HX2.out.c2
  have k3 := HX2.out.c3
  have k4 := HX2.out.c4
  have HV2 : Hid (LV w2 S _ _) := Lib.hid (HV0.out.keep fun b hb => by
    have h1 := (HB2.out.block b (hS b hb)).trans (((below_box (w := w) (.cells #[.int .i64 7, .int .i64 0, .string eS, .slice A its.length c, .slice A' ns.length c'] 25)).mono hB).block b (hS b hb)).symm
    exact h1)
  go_wp2_with fail
  refine (putItems7 0 eS its ns HN7.out HIH.out S _ _ B (l ++ [7]) _ hS hz2 HV2.out HO2.out (by have h := HLEN.out; simp only [List.length_cons, List.length_append, List.length_nil] at h ⊢; omega)).mono ?_
  rintro e w3 ⟨x, rfl, hx, hb, hk⟩
  have HO3 : Hid (OwnB w3 B x (l ++ 7 :: (grp its.length ++ encL true ns its))) := Lib.hid (by simpa using hx)
  have HB3 := Lib.hid (HB2.out.trans hb)
  have HK3 := Lib.hid (HK2.out.trans hk)
  clear hx hb hk
  go_wp2_with fail
  go_ret
  exact ⟨_, rfl, HO3.out, HB3.out, HK3.out⟩

theorem put_ok : ∀ (n : Nat) (t : VT), depthT t ≤ n → mayT t = true → PutOK t
  | 0, t, hd, _ => by cases t; rw [depthT_mk] at hd; omega
  | n + 1, t, hd, hm => by
    rcases shapes hm with rfl | ⟨i, hi, rfl⟩ | ⟨i, rfl⟩ | ⟨k, s, hk, rfl⟩ | ⟨l, hl, rfl⟩ | ⟨l, ns, hl, hn, hdn, rfl⟩
    · exact cpt1
    · rcases hi with rfl | rfl
      · exact cpt2_0
      · exact cpt2_1
    · exact cpt3 i
    · rcases hk with rfl | rfl
      · exact cpt4 s
      · exact cpt5 s
    · rw [depthT_mk] at hd
      exact cpt6 l fun x hx => put_ok n x (by have := depthL_le hx; omega) (mayL_mem hl hx)
    · rw [depthT_mk] at hd
      exact cpt7 l ns hn fun x hx => put_ok n x (by have := depthL_le hx; omega) (mayL_mem hl hx)
end Go.Proofs.Ytipiplnhbecjeaa
