/- Items put behind names. -/
import Derived.Test.YtpcdngpppjdgcaaGreatKCodM
import Derived.Test.YtpcdngpppjdgcaaGreatKCodX
import Derived.Test.YtpcdngpppjdgcaaGreatKRegR
import Derived.Test.YtpcdngpppjdgcaaGreatKRefD2
import Derived.Test.YtpcdngpppjdgcaaGreatKValB
import Derived.Test.YtpcdngpppjdgcaaGreatKMath
import Derived.Deep.Slices
import Derived.SliceStrings
import Derived.SizedLaws
import Derived.Lib.SmallJoins
namespace Go.Proofs.YtpcdngpppjdgcaaGreat
open Lib (hid)
set_option linter.unusedVariables false
set_option linter.unusedSimpArgs false
set_option maxRecDepth 100000
open Go.RowKit

set_option maxHeartbeats 4000000 in
set_option maxRecDepth 100000 in
theorem putItems7 (num : Int) (txs : ByteArray) (its : List VT) (nms : List ByteArray) (hnl : nms.length = its.length) (ih : ∀ x ∈ its, PutOK x) (S : Nat → Prop) (v bv : Value) (B : Nat) (l : List UInt8) (w : World) (hS : ∀ x, S x → x < B) (hB : B ≤ w.heap.size) (h : LV w S (.mk 7 num txs its nms) v) (hown : OwnB w B bv l)
  (hlen : l.length + (grp its.length ++ encL true nms its).length ≤ 140737488355328) :
  Calls Tryz.prog 167 #[bv, v] w (PutsR B (l ++ (grp its.length ++ encL true nms its)) w) := by
 obtain ⟨A, c, A', c', rfl, -, -, -, hl1, hl2, hN, hA⟩ := h.shape
 simp only [VT.kind, VT.num, VT.text, VT.items, VT.names] at *
 have HX := hid (Box.new (w := w) (.int .i64 7) (.int .i64 num) (.string txs) (.slice A its.length c) (.slice A' nms.length c'))
 have HB0 := hid (below_box (w := w) (.cells #[.int .i64 7, .int .i64 num, .string txs, .slice A its.length c, .slice A' nms.length c'] 25))
 have HO := hid (OwnB.below hown HB0.out)
 have HA := hid hA
 have HLEN := hid hlen
 have HNL := hid hnl
 have HN := hid hN
 obtain ⟨full, hfull⟩ : ∃ full, full = grp its.length ++ encL true nms its := ⟨_, rfl⟩
 have HF := hid hfull
 rw [← hfull] at HLEN ⊢
 clear h hA hown hlen hfull hnl hN
 go_enter Tryz.func167, Tryz.ntmps167
 have k3 := HX.out.c3
 go_wp2_with fail
 refine (count_any its.length _ (by omega)).mono ?_
 rintro e w1 (⟨_, _, x, rfl, hx, hb⟩ | ⟨h, _⟩)
 rotate_left
 ·omega
 rw [Int.toNat_natCast] at hx
 have HR := hid hx.rd
 have hb1 := toStart HB0.out hb
 have HB1 := hid (hb1.mono hB)
 have HK1 := hid (k8_below hb1)
 have HO1 := hid (HO.out.below hb)
 have HX1 := hid (HX.out.call hb)
 have hz1 := Nat.le_trans hB hb1.size
 have hg := grp_length its.length
 have hgl : l.length + (grp its.length).length ≤ 140737488355328 := by have h1 := HLEN.out; rw [HF.out, List.length_append] at h1; omega
 clear hb hb1 hx k3 HB0 HO HX
 go_wp2_with (at_builtin; go_must (refine wpList_append_bytes rfl _ _ rfl B _ l rfl HO1.out w1.heap.size x (grp its.length) rfl HR.out hz1 hgl ?_))
 intro v2 w2 hv2 hg2
 have HB2 := hid (below_own HB1.out HO1.out hz1 hg2)
 have HK2 := hid (HK1.out.trans (k8_grown HO1.out hg2))
 have HX2 := hid (HX1.out.k8 (k8_grown HO1.out hg2))
 have HO2 := hid hv2
 have k3 := HX2.out.c3
 clear hg2 hv2 HB1 HK1 HX1 HO1 HR
 go_wp2_with fail
 go_loopw [0, 22] (fun b i wr => ∃ (j : Nat) (X : List UInt8), i = .int .i64 j ∧ j ≤ its.length ∧ Hid (OwnB wr B b (l ++ X)) ∧ Hid (X ++ encL true (nms.drop j) (its.drop j) = full) ∧ Hid (Below B w wr) ∧ Hid (K8 w wr) ∧ Hid (Box wr w.heap.size (.int .i64 7) (.int .i64 num) (.string txs) (.slice A its.length c) (.slice A' nms.length c'))) (fun _ i _ => its.length - (intOf i).toNat)
 case atStart => exact ⟨0, grp its.length, rfl, Nat.zero_le _, HO2, HF.out.symm, HB2, HK2, HX2⟩
 case round =>
  obtain ⟨j, X, rfl, hj, HO, HE, HB, HK, HX⟩ := hrel
  clear HX2 HK2 HB2 HO2 k3
  by_cases hlt : j < its.length
  ·obtain ⟨p, o, A2, e2, A3, e3, rfl, h0, h1, h2, h3, h4, hx⟩ := item_atB hS HA.out HB.out j hlt
   have k0 : wr.cell? ⟨w.heap.size, 0, none⟩ = some (.int .i64 7) := HX.out.c0
   obtain ⟨p', o', rfl, hpB, t1, hts⟩ := text_atB hS HN.out HB.out j (by rw [HNL.out]; exact hlt)
   have hpl : p' < wr.heap.size := Nat.lt_of_lt_of_le (Nat.lt_of_lt_of_le hpB (Nat.le_trans hB HB.out.size)) (Nat.le_refl _)
   have k4 : wr.cell? ⟨w.heap.size, 4, none⟩ = some (.slice (some ⟨p', o', none⟩) nms.length c') := HX.out.c4
   have hjn : j < nms.length := by rw [HNL.out]; exact hlt
   obtain ⟨sn, hsn⟩ : ∃ s, s = nms[j] := ⟨_, rfl⟩
   rw [← hsn] at t1 hts
   have HSN := hid hsn
   have HTS := hid hts
   have hwl : w.heap.size < wr.heap.size := HX.out.lt
   have HV := hid hx
   clear hx hts hsn
   have hbx := below_box (w := wr) (.cells #[.int .i64 its[j].kind, .int .i64 its[j].num, .string its[j].text, .slice A2 its[j].items.length e2, .slice A3 its[j].names.length e3] 25)
   have hBz : B ≤ wr.heap.size := Nat.le_trans hB HB.out.size
   have HBX := hid (Box.new (w := wr) (.int .i64 its[j].kind) (.int .i64 its[j].num) (.string its[j].text) (.slice A2 its[j].items.length e2) (.slice A3 its[j].names.length e3))
   have HE2 : Hid (X ++ (txt sn ++ (encT its[j] ++ encL true (nms.drop (j + 1)) (its.drop (j + 1)))) = full) := hid (by
    have h1 := HE.out
    rw [encL_step true hlt (fun _ => hjn)] at h1
    have h2 : nms.getD j eS = sn := by rw [HSN.out]; simp [hjn]
    rw [h2] at h1
    simpa using h1)
   have HLE1 : Hid ((l ++ X).length + (txt sn).length ≤ 140737488355328) := hid (by
    have h1 := HLEN.out
    rw [← HE2.out] at h1
    simp only [List.length_append] at h1 ⊢; omega)
   have HLE : Hid ((l ++ (X ++ txt sn)).length + (encT its[j]).length ≤ 140737488355328) := hid (by
    have h1 := HLEN.out
    rw [← HE2.out] at h1
    simp only [List.length_append] at h1 ⊢; omega)
   have HOx := hid (OwnB.below HO.out hbx)
   have HBx := hid (HB.out.trans (hbx.mono hBz))
   have HKx := hid (HK.out.trans (k8_below hbx))
   have HXx := hid (HX.out.call hbx)
   have HVx : Hid (LV (wr.alloc (.cells #[.int .i64 its[j].kind, .int .i64 its[j].num, .string its[j].text, .slice A2 its[j].items.length e2, .slice A3 its[j].names.length e3] 25)) S its[j] _) := hid (HV.out.keep fun b hb => (hbx.mono hBz).block b (hS b hb))
   have hz3 : wr.heap.size < (wr.alloc (.cells #[.int .i64 its[j].kind, .int .i64 its[j].num, .string its[j].text, .slice A2 its[j].items.length e2, .slice A3 its[j].names.length e3] 25)).heap.size := by simp
   go_wp2_with fail
   generalize hW : wr.alloc (.cells #[.int .i64 its[j].kind, .int .i64 its[j].num, .string its[j].text, .slice A2 its[j].items.length e2, .slice A3 its[j].names.length e3] 25) = W at *
   clear hbx h0 h1 h2 h3 h4 k0 k4 t1 HO HB HK HX HV hW
   refine (text_any sn _ HTS.out).mono ?_
   rintro e w4 ⟨x4, rfl, hx4, hb4⟩
   have HR4 := hid hx4.rd
   have HO4 := hid (OwnB.below HOx.out hb4)
   have HB4 := hid (HBx.out.trans (hb4.mono (by have := HBx.out.size; omega)))
   have HK4 := hid (HKx.out.trans (k8_below hb4))
   have HX4 := hid (HXx.out.call hb4)
   have HBX4 := hid (HBX.out.call hb4)
   have HV4 : Hid (LV w4 S its[j] _) := hid (HVx.out.keep fun b hb => (hb4.mono (by have := HBx.out.size; omega : B ≤ W.heap.size)).block b (hS b hb))
   have hz4 : B ≤ w4.heap.size := Nat.le_trans hB HB4.out.size
   clear hx4 hb4 HOx HBx HKx HXx HBX HVx
   go_wp2_with (at_builtin; go_must (refine wpList_append_bytes rfl _ _ rfl B _ (l ++ X) rfl HO4.out w4.heap.size x4 (txt sn) rfl HR4.out hz4 HLE1.out ?_))
   intro v5 w5 hv5 hg5
   have HB5 := hid (below_own HB4.out HO4.out hz4 hg5)
   have hk5 := k8_grown HO4.out hg5
   have hb5 := below_own (Below.refl B w4) HO4.out hz4 hg5
   have HK5 := hid (HK4.out.trans hk5)
   have HX5 := hid (HX4.out.k8 hk5)
   have HBX5 := hid (HBX4.out.k8 hk5)
   have HO5 : Hid (OwnB w5 B v5 (l ++ (X ++ txt sn))) := hid hv5
   have HV5 : Hid (LV w5 S its[j] _) := hid (HV4.out.keep fun b hb => hb5.block b (hS b hb))
   have q0 := HBX5.out.c0
   have q1 := HBX5.out.c1
   have q2 := HBX5.out.c2
   have q3 := HBX5.out.c3
   have q4 := HBX5.out.c4
   clear hv5 hg5 hk5 hb5 HB4 HK4 HX4 HBX4 HO4 HR4 HV4
   go_wp2_with fail
   have HC := hid (ih its[j] (List.getElem_mem hlt) S _ _ B (l ++ (X ++ txt sn)) _ hS (Nat.le_trans hB HB5.out.size) HV5.out HO5.out HLE.out)
   clear q0 q1 q2 q3 q4
   refine HC.out.mono ?_
   rintro e w3 ⟨v3, rfl, hv3, hb3, hk3⟩
   have HO3 : Hid (OwnB w3 B v3 (l ++ (X ++ txt sn ++ encT its[j]))) := hid (by rw [List.append_assoc] at hv3; exact hv3)
   have HB3 := hid (HB5.out.trans hb3)
   have HK3 := hid (HK5.out.trans hk3)
   have HX3 := hid (HX5.out.k8 hk3)
   have HE3 : Hid (X ++ txt sn ++ encT its[j] ++ encL true (nms.drop (j + 1)) (its.drop (j + 1)) = full) := hid (by rw [← HE2.out]; simp)
   clear hv3 hb3 hk3 HC HE HE2
   go_wp2_with fail
   go_roundw
   case rel => exact ⟨j + 1, X ++ txt sn ++ encT its[j], by go_num, by omega, HO3, HE3, HB3, HK3, HX3⟩
   case measure => simp [intOf]; omega
  ·obtain rfl : j = its.length := by omega
   go_wp2_with fail
   go_ret
   exact ⟨_, rfl, by have h1 := HE.out; rw [List.drop_of_length_le (Nat.le_refl _), encL_nil, List.append_nil] at h1; rw [← h1]; exact HO.out, HB.out, HK.out⟩
set_option maxHeartbeats 2000000 in
set_option maxRecDepth 100000 in
theorem cpt1  : PutOK (.mk 1 0 eS [] []) := by
 intro S v bv B l w hS hB h hown hlen
 have he : encT (.mk 1 0 eS [] []) = [1] := by
  rw [encT_eq]; unfold headE; simp [VT.kind, VT.num, VT.text, VT.items, VT.names, encL_nil]
 rw [he] at hlen ⊢
 obtain ⟨A, c, A', c', rfl, -, hri, hrs, hl1, -, hN, hA⟩ := h.shape
 simp only [VT.kind, VT.num, VT.text, VT.items, VT.names, List.length_nil] at *
 have HX := hid (Box.new (w := w) (.int .i64 1) (.int .i64 0) (.string eS) (.slice A 0 c) (.slice A' 0 c'))
 have hb0 := below_box (w := w) (.cells #[.int .i64 1, .int .i64 0, .string eS, .slice A 0 c, .slice A' 0 c'] 25)
 have HO := hid (OwnB.below hown hb0)
 have hb1 := grow_trans hb0 (below_box (w := w.alloc (.cells #[.int .i64 1, .int .i64 0, .string eS, .slice A 0 c, .slice A' 0 c'] 25)) (.cells #[.int .u8 1] 5))
 have HB1 := hid (hb1.mono hB)
 have HO1 := hid (OwnB.below HO.out (below_box (w := w.alloc (.cells #[.int .i64 1, .int .i64 0, .string eS, .slice A 0 c, .slice A' 0 c'] 25)) (.cells #[.int .u8 1] 5)))
 have HK1 := hid (k8_below hb1)
 have HX1 := hid (HX.out.call (below_box (.cells #[.int .u8 1] 5)))
 have HV0 := hid (h.keep (fun b hb => (hb0.mono hB).block b (hS b hb)))
 have hz1 := Nat.le_trans hB hb1.size
 have HLEN := hid hlen
 have k0 := HX.out.c0
 have hl0 : l.length + 1 ≤ 140737488355328 := by simp only [List.length_cons, List.length_append, List.length_nil] at hlen; omega
 clear hb0 hb1 hown hlen HO HX he h
 go_enter Tryz.func132, Tryz.ntmps132
 go_wp2_with (at_builtin; go_must (refine wpList_append_bytes rfl _ _ rfl B _ l rfl HO1.out _ (.slice (some ⟨w.heap.size + 1, 0, none⟩) 1 1) [1] rfl (Rd.one' (by simp) 1 rfl) hz1 hl0 ?_))
 intro v2 w2 hv2 hg2
 have HB2 := hid (below_own HB1.out HO1.out hz1 hg2)
 have hk2 := k8_grown HO1.out hg2
 have HK2 := hid (HK1.out.trans hk2)
 have HX2 := hid (HX1.out.k8 hk2)
 have HO2 := hid hv2
 have hz2 : B ≤ w2.heap.size := Nat.le_trans hB HB2.out.size
 have k0 := HX2.out.c0
 clear hg2 hv2 HB1 HK1 HX1 HO1 hk2
 go_wp2_with fail
 go_ret
 exact ⟨_, rfl, HO2.out, HB2.out, HK2.out⟩

set_option maxHeartbeats 2000000 in
set_option maxRecDepth 100000 in
theorem cpt2_0  : PutOK (.mk 2 0 eS [] []) := by
 intro S v bv B l w hS hB h hown hlen
 have he : encT (.mk 2 0 eS [] []) = [2, 0] := by
  rw [encT_eq]; unfold headE; simp [VT.kind, VT.num, VT.text, VT.items, VT.names, encL_nil]
 rw [he] at hlen ⊢
 obtain ⟨A, c, A', c', rfl, -, hri, hrs, hl1, -, hN, hA⟩ := h.shape
 simp only [VT.kind, VT.num, VT.text, VT.items, VT.names, List.length_nil] at *
 have HX := hid (Box.new (w := w) (.int .i64 2) (.int .i64 0) (.string eS) (.slice A 0 c) (.slice A' 0 c'))
 have hb0 := below_box (w := w) (.cells #[.int .i64 2, .int .i64 0, .string eS, .slice A 0 c, .slice A' 0 c'] 25)
 have HO := hid (OwnB.below hown hb0)
 have hb1 := grow_trans hb0 (below_box (w := w.alloc (.cells #[.int .i64 2, .int .i64 0, .string eS, .slice A 0 c, .slice A' 0 c'] 25)) (.cells #[.int .u8 2] 5))
 have HB1 := hid (hb1.mono hB)
 have HO1 := hid (OwnB.below HO.out (below_box (w := w.alloc (.cells #[.int .i64 2, .int .i64 0, .string eS, .slice A 0 c, .slice A' 0 c'] 25)) (.cells #[.int .u8 2] 5)))
 have HK1 := hid (k8_below hb1)
 have HX1 := hid (HX.out.call (below_box (.cells #[.int .u8 2] 5)))
 have HV0 := hid (h.keep (fun b hb => (hb0.mono hB).block b (hS b hb)))
 have hz1 := Nat.le_trans hB hb1.size
 have HLEN := hid hlen
 have k0 := HX.out.c0
 have hl0 : l.length + 1 ≤ 140737488355328 := by simp only [List.length_cons, List.length_append, List.length_nil] at hlen; omega
 clear hb0 hb1 hown hlen HO HX he h
 go_enter Tryz.func132, Tryz.ntmps132
 go_wp2_with (at_builtin; go_must (refine wpList_append_bytes rfl _ _ rfl B _ l rfl HO1.out _ (.slice (some ⟨w.heap.size + 1, 0, none⟩) 1 1) [2] rfl (Rd.one' (by simp) 2 rfl) hz1 hl0 ?_))
 intro v2 w2 hv2 hg2
 have HB2 := hid (below_own HB1.out HO1.out hz1 hg2)
 have hk2 := k8_grown HO1.out hg2
 have HK2 := hid (HK1.out.trans hk2)
 have HX2 := hid (HX1.out.k8 hk2)
 have HO2 := hid hv2
 have hz2 : B ≤ w2.heap.size := Nat.le_trans hB HB2.out.size
 have k0 := HX2.out.c0
 clear hg2 hv2 HB1 HK1 HX1 HO1 hk2
 have k1 := HX2.out.c1
 have HOa := hid (OwnB.below HO2.out (below_box (.cells #[.int .u8 0] 5)))
 have HBa := hid (HB2.out.trans ((below_box (.cells #[.int .u8 0] 5)).mono hz2))
 have HKa := hid (HK2.out.trans (k8_below (below_box (.cells #[.int .u8 0] 5))))
 have hza := HBa.out.size
 go_wp2_with (at_builtin; go_must (refine wpList_append_bytes rfl _ _ rfl B _ (l ++ [2]) rfl HOa.out _ (.slice (some ⟨w2.heap.size, 0, none⟩) 1 1) [0] rfl (Rd.one' rfl 0 rfl) (Nat.le_trans hB hza) (by have h := HLEN.out; simp only [List.length_cons, List.length_append, List.length_nil] at h ⊢; omega) ?_))
 intro v3 w3 hv3 hg3
 have HB3 := hid (below_own HBa.out HOa.out (Nat.le_trans hB hza) hg3)
 have HK3 := hid (HKa.out.trans (k8_grown HOa.out hg3))
 have HO3 : Hid (OwnB w3 B v3 (l ++ [2, 0])) := hid (by simpa using hv3)
 clear hv3 hg3
 go_wp2_with fail
 go_ret
 exact ⟨_, rfl, HO3.out, HB3.out, HK3.out⟩

set_option maxHeartbeats 2000000 in
set_option maxRecDepth 100000 in
theorem cpt2_1  : PutOK (.mk 2 1 eS [] []) := by
 intro S v bv B l w hS hB h hown hlen
 have he : encT (.mk 2 1 eS [] []) = [2, 1] := by
  rw [encT_eq]; unfold headE; simp [VT.kind, VT.num, VT.text, VT.items, VT.names, encL_nil]
 rw [he] at hlen ⊢
 obtain ⟨A, c, A', c', rfl, -, hri, hrs, hl1, -, hN, hA⟩ := h.shape
 simp only [VT.kind, VT.num, VT.text, VT.items, VT.names, List.length_nil] at *
 have HX := hid (Box.new (w := w) (.int .i64 2) (.int .i64 1) (.string eS) (.slice A 0 c) (.slice A' 0 c'))
 have hb0 := below_box (w := w) (.cells #[.int .i64 2, .int .i64 1, .string eS, .slice A 0 c, .slice A' 0 c'] 25)
 have HO := hid (OwnB.below hown hb0)
 have hb1 := grow_trans hb0 (below_box (w := w.alloc (.cells #[.int .i64 2, .int .i64 1, .string eS, .slice A 0 c, .slice A' 0 c'] 25)) (.cells #[.int .u8 2] 5))
 have HB1 := hid (hb1.mono hB)
 have HO1 := hid (OwnB.below HO.out (below_box (w := w.alloc (.cells #[.int .i64 2, .int .i64 1, .string eS, .slice A 0 c, .slice A' 0 c'] 25)) (.cells #[.int .u8 2] 5)))
 have HK1 := hid (k8_below hb1)
 have HX1 := hid (HX.out.call (below_box (.cells #[.int .u8 2] 5)))
 have HV0 := hid (h.keep (fun b hb => (hb0.mono hB).block b (hS b hb)))
 have hz1 := Nat.le_trans hB hb1.size
 have HLEN := hid hlen
 have k0 := HX.out.c0
 have hl0 : l.length + 1 ≤ 140737488355328 := by simp only [List.length_cons, List.length_append, List.length_nil] at hlen; omega
 clear hb0 hb1 hown hlen HO HX he h
 go_enter Tryz.func132, Tryz.ntmps132
 go_wp2_with (at_builtin; go_must (refine wpList_append_bytes rfl _ _ rfl B _ l rfl HO1.out _ (.slice (some ⟨w.heap.size + 1, 0, none⟩) 1 1) [2] rfl (Rd.one' (by simp) 2 rfl) hz1 hl0 ?_))
 intro v2 w2 hv2 hg2
 have HB2 := hid (below_own HB1.out HO1.out hz1 hg2)
 have hk2 := k8_grown HO1.out hg2
 have HK2 := hid (HK1.out.trans hk2)
 have HX2 := hid (HX1.out.k8 hk2)
 have HO2 := hid hv2
 have hz2 : B ≤ w2.heap.size := Nat.le_trans hB HB2.out.size
 have k0 := HX2.out.c0
 clear hg2 hv2 HB1 HK1 HX1 HO1 hk2
 have k1 := HX2.out.c1
 have HOa := hid (OwnB.below HO2.out (below_box (.cells #[.int .u8 1] 5)))
 have HBa := hid (HB2.out.trans ((below_box (.cells #[.int .u8 1] 5)).mono hz2))
 have HKa := hid (HK2.out.trans (k8_below (below_box (.cells #[.int .u8 1] 5))))
 have hza := HBa.out.size
 go_wp2_with (at_builtin; go_must (refine wpList_append_bytes rfl _ _ rfl B _ (l ++ [2]) rfl HOa.out _ (.slice (some ⟨w2.heap.size, 0, none⟩) 1 1) [1] rfl (Rd.one' rfl 1 rfl) (Nat.le_trans hB hza) (by have h := HLEN.out; simp only [List.length_cons, List.length_append, List.length_nil] at h ⊢; omega) ?_))
 intro v3 w3 hv3 hg3
 have HB3 := hid (below_own HBa.out HOa.out (Nat.le_trans hB hza) hg3)
 have HK3 := hid (HKa.out.trans (k8_grown HOa.out hg3))
 have HO3 : Hid (OwnB w3 B v3 (l ++ [2, 1])) := hid (by simpa using hv3)
 clear hv3 hg3
 go_wp2_with fail
 go_ret
 exact ⟨_, rfl, HO3.out, HB3.out, HK3.out⟩

set_option maxHeartbeats 2000000 in
set_option maxRecDepth 100000 in
theorem cpt3 (i : Int) : PutOK (.mk 3 i eS [] []) := by
 intro S v bv B l w hS hB h hown hlen
 have he : encT (.mk 3 i eS [] []) = 3 :: grp (zig i) := by
  rw [encT_eq]; unfold headE; simp [VT.kind, VT.num, VT.text, VT.items, VT.names, encL_nil]
 rw [he] at hlen ⊢
 obtain ⟨A, c, A', c', rfl, -, hri, hrs, hl1, -, hN, hA⟩ := h.shape
 simp only [VT.kind, VT.num, VT.text, VT.items, VT.names, List.length_nil] at *
 have HX := hid (Box.new (w := w) (.int .i64 3) (.int .i64 i) (.string eS) (.slice A 0 c) (.slice A' 0 c'))
 have hb0 := below_box (w := w) (.cells #[.int .i64 3, .int .i64 i, .string eS, .slice A 0 c, .slice A' 0 c'] 25)
 have HO := hid (OwnB.below hown hb0)
 have hb1 := grow_trans hb0 (below_box (w := w.alloc (.cells #[.int .i64 3, .int .i64 i, .string eS, .slice A 0 c, .slice A' 0 c'] 25)) (.cells #[.int .u8 3] 5))
 have HB1 := hid (hb1.mono hB)
 have HO1 := hid (OwnB.below HO.out (below_box (w := w.alloc (.cells #[.int .i64 3, .int .i64 i, .string eS, .slice A 0 c, .slice A' 0 c'] 25)) (.cells #[.int .u8 3] 5)))
 have HK1 := hid (k8_below hb1)
 have HX1 := hid (HX.out.call (below_box (.cells #[.int .u8 3] 5)))
 have HV0 := hid (h.keep (fun b hb => (hb0.mono hB).block b (hS b hb)))
 have hz1 := Nat.le_trans hB hb1.size
 have HLEN := hid hlen
 have k0 := HX.out.c0
 have hl0 : l.length + 1 ≤ 140737488355328 := by simp only [List.length_cons, List.length_append, List.length_nil] at hlen; omega
 clear hb0 hb1 hown hlen HO HX he h
 have HRI := hid hri
 go_enter Tryz.func132, Tryz.ntmps132
 go_wp2_with (at_builtin; go_must (refine wpList_append_bytes rfl _ _ rfl B _ l rfl HO1.out _ (.slice (some ⟨w.heap.size + 1, 0, none⟩) 1 1) [3] rfl (Rd.one' (by simp) 3 rfl) hz1 hl0 ?_))
 intro v2 w2 hv2 hg2
 have HB2 := hid (below_own HB1.out HO1.out hz1 hg2)
 have hk2 := k8_grown HO1.out hg2
 have HK2 := hid (HK1.out.trans hk2)
 have HX2 := hid (HX1.out.k8 hk2)
 have HO2 := hid hv2
 have hz2 : B ≤ w2.heap.size := Nat.le_trans hB HB2.out.size
 have k0 := HX2.out.c0
 clear hg2 hv2 HB1 HK1 HX1 HO1 hk2
 have k := HX2.out.c1
 go_wp2_with fail
 refine (int_any i _ HRI.out.1 HRI.out.2).mono ?_
 rintro e w3 ⟨x, rfl, hx, hb⟩
 have HR := hid hx.rd
 have HOa := hid (OwnB.below HO2.out hb)
 have HBa := hid (HB2.out.trans (hb.mono hz2))
 have HKa := hid (HK2.out.trans (k8_below hb))
 have hza := Nat.le_trans hB HBa.out.size
 clear hx hb k k0
 go_wp2_with (at_builtin; go_must (refine wpList_append_bytes rfl _ _ rfl B _ (l ++ [3]) rfl HOa.out w3.heap.size x (grp (zig i)) rfl HR.out hza (by have h := HLEN.out; simp only [List.length_cons, List.length_append, List.length_nil] at h ⊢; omega) ?_))
 intro v4 w4 hv4 hg4
 have HB4 := hid (below_own HBa.out HOa.out hza hg4)
 have HK4 := hid (HKa.out.trans (k8_grown HOa.out hg4))
 have HO4 : Hid (OwnB w4 B v4 (l ++ 3 :: grp (zig i))) := hid (by simpa using hv4)
 clear hv4 hg4
 go_wp2_with fail
 go_ret
 exact ⟨_, rfl, HO4.out, HB4.out, HK4.out⟩

set_option maxHeartbeats 2000000 in
set_option maxRecDepth 100000 in
theorem cpt4 (s : ByteArray) : PutOK (.mk 4 0 s [] []) := by
 intro S v bv B l w hS hB h hown hlen
 have he : encT (.mk 4 0 s [] []) = 4 :: txt s := by
  rw [encT_eq]; unfold headE; simp [VT.kind, VT.num, VT.text, VT.items, VT.names, encL_nil]
 rw [he] at hlen ⊢
 obtain ⟨A, c, A', c', rfl, -, hri, hrs, hl1, -, hN, hA⟩ := h.shape
 simp only [VT.kind, VT.num, VT.text, VT.items, VT.names, List.length_nil] at *
 have HX := hid (Box.new (w := w) (.int .i64 4) (.int .i64 0) (.string s) (.slice A 0 c) (.slice A' 0 c'))
 have hb0 := below_box (w := w) (.cells #[.int .i64 4, .int .i64 0, .string s, .slice A 0 c, .slice A' 0 c'] 25)
 have HO := hid (OwnB.below hown hb0)
 have hb1 := grow_trans hb0 (below_box (w := w.alloc (.cells #[.int .i64 4, .int .i64 0, .string s, .slice A 0 c, .slice A' 0 c'] 25)) (.cells #[.int .u8 4] 5))
 have HB1 := hid (hb1.mono hB)
 have HO1 := hid (OwnB.below HO.out (below_box (w := w.alloc (.cells #[.int .i64 4, .int .i64 0, .string s, .slice A 0 c, .slice A' 0 c'] 25)) (.cells #[.int .u8 4] 5)))
 have HK1 := hid (k8_below hb1)
 have HX1 := hid (HX.out.call (below_box (.cells #[.int .u8 4] 5)))
 have HV0 := hid (h.keep (fun b hb => (hb0.mono hB).block b (hS b hb)))
 have hz1 := Nat.le_trans hB hb1.size
 have HLEN := hid hlen
 have k0 := HX.out.c0
 have hl0 : l.length + 1 ≤ 140737488355328 := by simp only [List.length_cons, List.length_append, List.length_nil] at hlen; omega
 clear hb0 hb1 hown hlen HO HX he h
 have HRS := hid hrs
 go_enter Tryz.func132, Tryz.ntmps132
 go_wp2_with (at_builtin; go_must (refine wpList_append_bytes rfl _ _ rfl B _ l rfl HO1.out _ (.slice (some ⟨w.heap.size + 1, 0, none⟩) 1 1) [4] rfl (Rd.one' (by simp) 4 rfl) hz1 hl0 ?_))
 intro v2 w2 hv2 hg2
 have HB2 := hid (below_own HB1.out HO1.out hz1 hg2)
 have hk2 := k8_grown HO1.out hg2
 have HK2 := hid (HK1.out.trans hk2)
 have HX2 := hid (HX1.out.k8 hk2)
 have HO2 := hid hv2
 have hz2 : B ≤ w2.heap.size := Nat.le_trans hB HB2.out.size
 have k0 := HX2.out.c0
 clear hg2 hv2 HB1 HK1 HX1 HO1 hk2
 have k := HX2.out.c2
 go_wp2_with fail
 refine (text_any s _ HRS.out).mono ?_
 rintro e w3 ⟨x, rfl, hx, hb⟩
 have HR := hid hx.rd
 have HOa := hid (OwnB.below HO2.out hb)
 have HBa := hid (HB2.out.trans (hb.mono hz2))
 have HKa := hid (HK2.out.trans (k8_below hb))
 have hza := Nat.le_trans hB HBa.out.size
 clear hx hb k k0
 go_wp2_with (at_builtin; go_must (refine wpList_append_bytes rfl _ _ rfl B _ (l ++ [4]) rfl HOa.out w3.heap.size x (txt s) rfl HR.out hza (by have h := HLEN.out; simp only [List.length_cons, List.length_append, List.length_nil] at h ⊢; omega) ?_))
 intro v4 w4 hv4 hg4
 have HB4 := hid (below_own HBa.out HOa.out hza hg4)
 have HK4 := hid (HKa.out.trans (k8_grown HOa.out hg4))
 have HO4 : Hid (OwnB w4 B v4 (l ++ 4 :: txt s)) := hid (by simpa using hv4)
 clear hv4 hg4
 go_wp2_with fail
 go_ret
 exact ⟨_, rfl, HO4.out, HB4.out, HK4.out⟩

set_option maxHeartbeats 2000000 in
set_option maxRecDepth 100000 in
theorem cpt5 (s : ByteArray) : PutOK (.mk 5 0 s [] []) := by
 intro S v bv B l w hS hB h hown hlen
 have he : encT (.mk 5 0 s [] []) = 5 :: txt s := by
  rw [encT_eq]; unfold headE; simp [VT.kind, VT.num, VT.text, VT.items, VT.names, encL_nil]
 rw [he] at hlen ⊢
 obtain ⟨A, c, A', c', rfl, -, hri, hrs, hl1, -, hN, hA⟩ := h.shape
 simp only [VT.kind, VT.num, VT.text, VT.items, VT.names, List.length_nil] at *
 have HX := hid (Box.new (w := w) (.int .i64 5) (.int .i64 0) (.string s) (.slice A 0 c) (.slice A' 0 c'))
 have hb0 := below_box (w := w) (.cells #[.int .i64 5, .int .i64 0, .string s, .slice A 0 c, .slice A' 0 c'] 25)
 have HO := hid (OwnB.below hown hb0)
 have hb1 := grow_trans hb0 (below_box (w := w.alloc (.cells #[.int .i64 5, .int .i64 0, .string s, .slice A 0 c, .slice A' 0 c'] 25)) (.cells #[.int .u8 5] 5))
 have HB1 := hid (hb1.mono hB)
 have HO1 := hid (OwnB.below HO.out (below_box (w := w.alloc (.cells #[.int .i64 5, .int .i64 0, .string s, .slice A 0 c, .slice A' 0 c'] 25)) (.cells #[.int .u8 5] 5)))
 have HK1 := hid (k8_below hb1)
 have HX1 := hid (HX.out.call (below_box (.cells #[.int .u8 5] 5)))
 have HV0 := hid (h.keep (fun b hb => (hb0.mono hB).block b (hS b hb)))
 have hz1 := Nat.le_trans hB hb1.size
 have HLEN := hid hlen
 have k0 := HX.out.c0
 have hl0 : l.length + 1 ≤ 140737488355328 := by simp only [List.length_cons, List.length_append, List.length_nil] at hlen; omega
 clear hb0 hb1 hown hlen HO HX he h
 have HRS := hid hrs
 go_enter Tryz.func132, Tryz.ntmps132
 go_wp2_with (at_builtin; go_must (refine wpList_append_bytes rfl _ _ rfl B _ l rfl HO1.out _ (.slice (some ⟨w.heap.size + 1, 0, none⟩) 1 1) [5] rfl (Rd.one' (by simp) 5 rfl) hz1 hl0 ?_))
 intro v2 w2 hv2 hg2
 have HB2 := hid (below_own HB1.out HO1.out hz1 hg2)
 have hk2 := k8_grown HO1.out hg2
 have HK2 := hid (HK1.out.trans hk2)
 have HX2 := hid (HX1.out.k8 hk2)
 have HO2 := hid hv2
 have hz2 : B ≤ w2.heap.size := Nat.le_trans hB HB2.out.size
 have k0 := HX2.out.c0
 clear hg2 hv2 HB1 HK1 HX1 HO1 hk2
 have k := HX2.out.c2
 go_wp2_with fail
 refine (text_any s _ HRS.out).mono ?_
 rintro e w3 ⟨x, rfl, hx, hb⟩
 have HR := hid hx.rd
 have HOa := hid (OwnB.below HO2.out hb)
 have HBa := hid (HB2.out.trans (hb.mono hz2))
 have HKa := hid (HK2.out.trans (k8_below hb))
 have hza := Nat.le_trans hB HBa.out.size
 clear hx hb k k0
 go_wp2_with (at_builtin; go_must (refine wpList_append_bytes rfl _ _ rfl B _ (l ++ [5]) rfl HOa.out w3.heap.size x (txt s) rfl HR.out hza (by have h := HLEN.out; simp only [List.length_cons, List.length_append, List.length_nil] at h ⊢; omega) ?_))
 intro v4 w4 hv4 hg4
 have HB4 := hid (below_own HBa.out HOa.out hza hg4)
 have HK4 := hid (HKa.out.trans (k8_grown HOa.out hg4))
 have HO4 : Hid (OwnB w4 B v4 (l ++ 5 :: txt s)) := hid (by simpa using hv4)
 clear hv4 hg4
 go_wp2_with fail
 go_ret
 exact ⟨_, rfl, HO4.out, HB4.out, HK4.out⟩

set_option maxHeartbeats 2000000 in
set_option maxRecDepth 100000 in
theorem cpt6 (its : List VT) (ih : ∀ x ∈ its, PutOK x) : PutOK (.mk 6 0 eS its []) := by
 intro S v bv B l w hS hB h hown hlen
 have he : encT (.mk 6 0 eS its []) = 6 :: (grp its.length ++ encL false [] its) := by
  rw [encT_eq]; unfold headE; simp [VT.kind, VT.num, VT.text, VT.items, VT.names, encL_nil]
 rw [he] at hlen ⊢
 obtain ⟨A, c, A', c', rfl, -, hri, hrs, hl1, -, hN, hA⟩ := h.shape
 simp only [VT.kind, VT.num, VT.text, VT.items, VT.names, List.length_nil] at *
 have HX := hid (Box.new (w := w) (.int .i64 6) (.int .i64 0) (.string eS) (.slice A its.length c) (.slice A' 0 c'))
 have hb0 := below_box (w := w) (.cells #[.int .i64 6, .int .i64 0, .string eS, .slice A its.length c, .slice A' 0 c'] 25)
 have HO := hid (OwnB.below hown hb0)
 have hb1 := grow_trans hb0 (below_box (w := w.alloc (.cells #[.int .i64 6, .int .i64 0, .string eS, .slice A its.length c, .slice A' 0 c'] 25)) (.cells #[.int .u8 6] 5))
 have HB1 := hid (hb1.mono hB)
 have HO1 := hid (OwnB.below HO.out (below_box (w := w.alloc (.cells #[.int .i64 6, .int .i64 0, .string eS, .slice A its.length c, .slice A' 0 c'] 25)) (.cells #[.int .u8 6] 5)))
 have HK1 := hid (k8_below hb1)
 have HX1 := hid (HX.out.call (below_box (.cells #[.int .u8 6] 5)))
 have HV0 := hid (h.keep (fun b hb => (hb0.mono hB).block b (hS b hb)))
 have hz1 := Nat.le_trans hB hb1.size
 have HLEN := hid hlen
 have k0 := HX.out.c0
 have hl0 : l.length + 1 ≤ 140737488355328 := by simp only [List.length_cons, List.length_append, List.length_nil] at hlen; omega
 clear hb0 hb1 hown hlen HO HX he h
 have HIH := hid ih
 clear ih hN hA
 go_enter Tryz.func132, Tryz.ntmps132
 go_wp2_with (at_builtin; go_must (refine wpList_append_bytes rfl _ _ rfl B _ l rfl HO1.out _ (.slice (some ⟨w.heap.size + 1, 0, none⟩) 1 1) [6] rfl (Rd.one' (by simp) 6 rfl) hz1 hl0 ?_))
 intro v2 w2 hv2 hg2
 have HB2 := hid (below_own HB1.out HO1.out hz1 hg2)
 have hk2 := k8_grown HO1.out hg2
 have HK2 := hid (HK1.out.trans hk2)
 have HX2 := hid (HX1.out.k8 hk2)
 have HO2 := hid hv2
 have hz2 : B ≤ w2.heap.size := Nat.le_trans hB HB2.out.size
 have k0 := HX2.out.c0
 clear hg2 hv2 HB1 HK1 HX1 HO1 hk2
 have k1 := HX2.out.c1
 have k2 := HX2.out.c2
 have k3 := HX2.out.c3
 have k4 := HX2.out.c4
 have HV2 : Hid (LV w2 S _ _) := hid (HV0.out.keep fun b hb => by
  have h1 := (HB2.out.block b (hS b hb)).trans (((below_box (w := w) (.cells #[.int .i64 6, .int .i64 0, .string eS, .slice A its.length c, .slice A' 0 c'] 25)).mono hB).block b (hS b hb)).symm
  exact h1)
 go_wp2_with fail
 refine (putItems6 0 eS its [] HIH.out S _ _ B (l ++ [6]) _ hS hz2 HV2.out HO2.out (by have h := HLEN.out; simp only [List.length_cons, List.length_append, List.length_nil] at h ⊢; omega)).mono ?_
 rintro e w3 ⟨x, rfl, hx, hb, hk⟩
 have HO3 : Hid (OwnB w3 B x (l ++ 6 :: (grp its.length ++ encL false [] its))) := hid (by simpa using hx)
 have HB3 := hid (HB2.out.trans hb)
 have HK3 := hid (HK2.out.trans hk)
 clear hx hb hk
 go_wp2_with fail
 go_ret
 exact ⟨_, rfl, HO3.out, HB3.out, HK3.out⟩

set_option maxHeartbeats 2000000 in
set_option maxRecDepth 100000 in
theorem cpt7 (its : List VT) (ns : List ByteArray) (hn : ns.length = its.length) (ih : ∀ x ∈ its, PutOK x) : PutOK (.mk 7 0 eS its ns) := by
 intro S v bv B l w hS hB h hown hlen
 have he : encT (.mk 7 0 eS its ns) = 7 :: (grp its.length ++ encL true ns its) := by
  rw [encT_eq]; unfold headE; simp [VT.kind, VT.num, VT.text, VT.items, VT.names, encL_nil]
 rw [he] at hlen ⊢
 obtain ⟨A, c, A', c', rfl, -, hri, hrs, hl1, -, hN, hA⟩ := h.shape
 simp only [VT.kind, VT.num, VT.text, VT.items, VT.names, List.length_nil] at *
 have HX := hid (Box.new (w := w) (.int .i64 7) (.int .i64 0) (.string eS) (.slice A its.length c) (.slice A' ns.length c'))
 have hb0 := below_box (w := w) (.cells #[.int .i64 7, .int .i64 0, .string eS, .slice A its.length c, .slice A' ns.length c'] 25)
 have HO := hid (OwnB.below hown hb0)
 have hb1 := grow_trans hb0 (below_box (w := w.alloc (.cells #[.int .i64 7, .int .i64 0, .string eS, .slice A its.length c, .slice A' ns.length c'] 25)) (.cells #[.int .u8 7] 5))
 have HB1 := hid (hb1.mono hB)
 have HO1 := hid (OwnB.below HO.out (below_box (w := w.alloc (.cells #[.int .i64 7, .int .i64 0, .string eS, .slice A its.length c, .slice A' ns.length c'] 25)) (.cells #[.int .u8 7] 5)))
 have HK1 := hid (k8_below hb1)
 have HX1 := hid (HX.out.call (below_box (.cells #[.int .u8 7] 5)))
 have HV0 := hid (h.keep (fun b hb => (hb0.mono hB).block b (hS b hb)))
 have hz1 := Nat.le_trans hB hb1.size
 have HLEN := hid hlen
 have k0 := HX.out.c0
 have hl0 : l.length + 1 ≤ 140737488355328 := by simp only [List.length_cons, List.length_append, List.length_nil] at hlen; omega
 clear hb0 hb1 hown hlen HO HX he h
 have HN7 := hid hn
 clear hn
 have HIH := hid ih
 clear ih hN hA
 go_enter Tryz.func132, Tryz.ntmps132
 go_wp2_with (at_builtin; go_must (refine wpList_append_bytes rfl _ _ rfl B _ l rfl HO1.out _ (.slice (some ⟨w.heap.size + 1, 0, none⟩) 1 1) [7] rfl (Rd.one' (by simp) 7 rfl) hz1 hl0 ?_))
 intro v2 w2 hv2 hg2
 have HB2 := hid (below_own HB1.out HO1.out hz1 hg2)
 have hk2 := k8_grown HO1.out hg2
 have HK2 := hid (HK1.out.trans hk2)
 have HX2 := hid (HX1.out.k8 hk2)
 have HO2 := hid hv2
 have hz2 : B ≤ w2.heap.size := Nat.le_trans hB HB2.out.size
 have k0 := HX2.out.c0
 clear hg2 hv2 HB1 HK1 HX1 HO1 hk2
 have k1 := HX2.out.c1
 have k2 := HX2.out.c2
 have k3 := HX2.out.c3
 have k4 := HX2.out.c4
 have HV2 : Hid (LV w2 S _ _) := hid (HV0.out.keep fun b hb => by
  have h1 := (HB2.out.block b (hS b hb)).trans (((below_box (w := w) (.cells #[.int .i64 7, .int .i64 0, .string eS, .slice A its.length c, .slice A' ns.length c'] 25)).mono hB).block b (hS b hb)).symm
  exact h1)
 go_wp2_with fail
 refine (putItems7 0 eS its ns HN7.out HIH.out S _ _ B (l ++ [7]) _ hS hz2 HV2.out HO2.out (by have h := HLEN.out; simp only [List.length_cons, List.length_append, List.length_nil] at h ⊢; omega)).mono ?_
 rintro e w3 ⟨x, rfl, hx, hb, hk⟩
 have HO3 : Hid (OwnB w3 B x (l ++ 7 :: (grp its.length ++ encL true ns its))) := hid (by simpa using hx)
 have HB3 := hid (HB2.out.trans hb)
 have HK3 := hid (HK2.out.trans hk)
 clear hx hb hk
 go_wp2_with fail
 go_ret
 exact ⟨_, rfl, HO3.out, HB3.out, HK3.out⟩

theorem put_ok : ∀ (n : Nat) (t : VT), depthT t ≤ n → mayT t = true → PutOK t
 | 0, t, hd, _ => by cases t; rw [depthT_mk] at hd; omega
 | n + 1, t, hd, hm => by
  rcases shapes hm with rfl | ⟨i, hi, rfl⟩ | ⟨i, rfl⟩ | ⟨k, s, hk, rfl⟩ | ⟨l, hl, rfl⟩ | ⟨l, ns, hl, hn, hdn, rfl⟩
  ·exact cpt1
  ·rcases hi with rfl | rfl
   ·exact cpt2_0
   ·exact cpt2_1
  ·exact cpt3 i
  ·rcases hk with rfl | rfl
   ·exact cpt4 s
   ·exact cpt5 s
  ·rw [depthT_mk] at hd
   exact cpt6 l fun x hx => put_ok n x (by have := depthL_le hx; omega) (mayL_mem hl hx)
  ·rw [depthT_mk] at hd
   exact cpt7 l ns hn fun x hx => put_ok n x (by have := depthL_le hx; omega) (mayL_mem hl hx)
def encO (t : VT) : List UInt8 := if checkT t = 0 then encT t else []
theorem encO_length {t : VT} (hz : sizeT t ≤ 9223372036854775807) : (encO t).length ≤ 4096 := by
 unfold encO
 split
 ·next h =>
  obtain ⟨h1, -, h3⟩ := (check_zero hz).1 h
  rw [enc_len t h1]; exact h3
 ·simp
set_option maxHeartbeats 4000000 in
set_option maxRecDepth 100000 in
theorem cencode_any (S : Nat → Prop) (t : VT) (v : Value) (w : World) (hS : ∀ b, S b → b < w.heap.size) (h : LV w S t v) (hd : depthT t ≤ 4611686018427387903) (hz : sizeT t ≤ 9223372036854775807) :
  Calls Tryz.prog 169 #[v] w fun e w' => ∃ v', e = .returned (.tuple #[v', .int .i64 (checkT t)]) ∧ OwnB w' w.heap.size v' (encO t) ∧ Below w.heap.size w w' := by
 obtain ⟨A, c, A', c', rfl, -⟩ := h.shape
 have HX := hid (Box.new (w := w) (.int .i64 t.kind) (.int .i64 t.num) (.string t.text) (.slice A t.items.length c) (.slice A' t.names.length c'))
 have hb0 := below_box (w := w) (.cells #[.int .i64 t.kind, .int .i64 t.num, .string t.text, .slice A t.items.length c, .slice A' t.names.length c'] 25)
 have HC := hid (check_any S t _ _ (fun b hb => Nat.lt_of_lt_of_le (hS b hb) hb0.size) (h.keep (w' := w.alloc (.cells #[.int .i64 t.kind, .int .i64 t.num, .string t.text, .slice A t.items.length c, .slice A' t.names.length c'] 25)) fun b hb => hb0.block b (hS b hb)) hd)
 have HB0 := hid hb0
 have HV := hid h
 clear h hb0
 go_enter Tryz.func169, Tryz.ntmps169
 go_wp2_with fail
 refine HC.out.mono ?_
 rintro e w1 ⟨rfl, hb⟩
 have hb1 := toStart HB0.out hb
 have hx := HX.out.call hb
 have hv := HV.out.keep (w' := w1) fun b hb => hb1.block b (hS b hb)
 have hz1 := hb1.size
 have HB1 := hid hb1
 have HX1 := hid hx
 have HV1 := hid hv
 clear hb hb1 hx hv HB0 HX HV HC
 obtain ⟨x, hx⟩ : ∃ x, x = checkT t := ⟨_, rfl⟩
 rw [← hx]
 have HE := hid hx
 clear hx
 by_cases h0 : x = 0
 ·subst h0
  have hch := (check_zero hz).1 HE.out.symm
  have v0 := HX1.out.c0
  have v1 := HX1.out.c1
  have v2 := HX1.out.c2
  have v3 := HX1.out.c3
  have v4 := HX1.out.c4
  have HP := hid (put_ok (depthT t) t (Nat.le_refl _) hch.1 S _ (.slice none 0 0) w.heap.size [] w1 hS hz1 HV1.out ⟨rfl, .inl ⟨rfl, rfl⟩⟩ (by have := enc_len t hch.1; have := hch.2.2; simp; omega))
  have HCH := hid hch
  clear hch
  go_wp2_with fail
  refine HP.out.mono ?_
  rintro e w2 ⟨v', rfl, hv', hb2, -⟩
  go_wp2_with fail
  go_ret2
  refine ⟨v', (by rw [← HE.out]; rfl), ?_, HB1.out.trans hb2⟩
  unfold encO
  rw [if_pos HE.out.symm]
  exact hv'
 ·have h1 : (x == 0) = false := beq_false_of_ne h0
  have h2 : (x != 0) = true := by simp [h0]
  go_wp2_with fail
  go_ret2
  refine ⟨_, (by rw [← HE.out]; rfl), ?_, HB1.out⟩
  unfold encO
  rw [if_neg (fun h => h0 (HE.out.trans h))]
  exact ⟨rfl, .inl ⟨rfl, rfl⟩⟩
set_option maxHeartbeats 4000000 in
set_option maxRecDepth 100000 in
theorem cputs_any (S : Nat → Prop) (t : VT) (v : Value) (bv : Value) (l : List UInt8) (w : World) (hS : ∀ b, S b → b < w.heap.size) (h : LV w S t v) (hd : depthT t ≤ 4611686018427387903) (hz : sizeT t ≤ 9223372036854775807) (hl : l.length ≤ 140737488351232) (hr : Rd w w.heap.size bv l) :
  Calls Tryz.prog 99 #[bv, v] w fun e w' => ∃ v', e = .returned v' ∧ OwnB w' w.heap.size v' (l ++ encO t) ∧ Below w.heap.size w w' := by
 obtain ⟨A, c, A', c', rfl, -⟩ := h.shape
 have HX := hid (Box.new (w := w) (.int .i64 t.kind) (.int .i64 t.num) (.string t.text) (.slice A t.items.length c) (.slice A' t.names.length c'))
 have hb0 := below_box (w := w) (.cells #[.int .i64 t.kind, .int .i64 t.num, .string t.text, .slice A t.items.length c, .slice A' t.names.length c'] 25)
 have HR := hid (hr.keep hb0)
 have HB0 := hid hb0
 have HV := hid h
 have hz0 := hb0.size
 clear h hb0 hr
 go_enter Tryz.func99, Tryz.ntmps99
 go_wp2_with (at_builtin; go_must (refine wpList_append_bytes rfl _ _ rfl w.heap.size (.slice none 0 0) [] rfl ⟨rfl, .inl ⟨rfl, rfl⟩⟩ w.heap.size bv l rfl HR.out hz0 (by simp; omega) ?_))
 intro v1 w1 hv1 hg1
 have hown0 : OwnB (w.alloc (.cells #[.int .i64 t.kind, .int .i64 t.num, .string t.text, .slice A t.items.length c, .slice A' t.names.length c'] 25)) w.heap.size (.slice none 0 0) [] := ⟨rfl, .inl ⟨rfl, rfl⟩⟩
 have hb1 := below_own HB0.out hown0 hz0 hg1
 have hx := HX.out.k8 (k8_grown hown0 hg1)
 have hz1 := hb1.size
 have hv := HV.out.keep (w' := w1) fun b hb => hb1.block b (hS b hb)
 have HO1 := hid hv1
 have HB1 := hid hb1
 have HX1 := hid hx
 have HC := hid (check_any S t _ w1 (fun b hb => Nat.lt_of_lt_of_le (hS b hb) hz1) hv hd)
 have v0 := hx.c0
 have v1' := hx.c1
 have v2 := hx.c2
 have v3 := hx.c3
 have v4 := hx.c4
 clear hown0 hb1 hx hv1 hg1 hv HX HB0 HR
 go_wp2_with fail
 refine HC.out.mono ?_
 rintro e w2 ⟨rfl, hb⟩
 have hb2 := HB1.out.trans (hb.mono hz1)
 have hx2 := HX1.out.call hb
 have hv2 := HV.out.keep (w' := w2) fun b hb => hb2.block b (hS b hb)
 have hz2 := hb2.size
 have HO2 := hid (HO1.out.below hb)
 have HB2 := hid hb2
 have HX2 := hid hx2
 have HV2 := hid hv2
 clear hb hb2 hx2 hv2 HB1 HX1 HV HC HO1 v0 v1' v2 v3 v4
 obtain ⟨x, hx⟩ : ∃ x, x = checkT t := ⟨_, rfl⟩
 rw [← hx]
 have HE := hid hx
 clear hx
 by_cases h0 : x = 0
 ·subst h0
  have hch := (check_zero hz).1 HE.out.symm
  have v0 := HX2.out.c0
  have v1' := HX2.out.c1
  have v2 := HX2.out.c2
  have v3 := HX2.out.c3
  have v4 := HX2.out.c4
  have HP := hid (put_ok (depthT t) t (Nat.le_refl _) hch.1 S _ v1 w.heap.size l w2 hS hz2 HV2.out HO2.out (by have := enc_len t hch.1; have := hch.2.2; omega))
  have HCH := hid hch
  clear hch
  go_wp2_with fail
  refine HP.out.mono ?_
  rintro e w3 ⟨v', rfl, hv', hb3, -⟩
  go_wp2_with fail
  go_ret
  refine ⟨v', rfl, ?_, HB2.out.trans hb3⟩
  unfold encO
  rw [if_pos HE.out.symm]
  exact hv'
 ·have h1 : (x == 0) = false := beq_false_of_ne h0
  have h2 : (x != 0) = true := by simp [h0]
  go_wp2_with fail
  go_ret
  refine ⟨_, rfl, ?_, HB2.out⟩
  unfold encO
  rw [if_neg (fun h => h0 (HE.out.trans h)), List.append_nil]
  exact HO2.out
instance k8_inh (w : World) : Inhabited (LaterR K8 w) := ⟨⟨w, Lib.OthersKept.refl _ _ _⟩⟩
theorem cell_k8 {w : World} {g i : Nat} {v : Value} {cs : Array Value} {t : TypeId} {fr : Nat × Nat} (hg : w.heap[g]? = some (.cells cs t fr)) (ht : t ≠ 5) (hc : cs[i]? = some v) : ∀ p : LaterR K8 w, p.u.cell? ⟨g, i, none⟩ = some v := fun p => by
 have h1 := p.h g _ hg (fun h => by cases h) (fun c fz h => by injection h with _ h; exact ht h)
 rw [Go.Joins.cell_of_block h1 i, hc]
def grpL (ns : List Nat) : List UInt8 := (ns.map grp).flatten
theorem grpL_take (ns : List Nat) (k : Nat) (h : k < ns.length) : grpL (ns.take (k + 1)) = grpL (ns.take k) ++ grp ns[k] := by
 unfold grpL
 rw [List.take_succ_eq_append_getElem h, List.map_append, List.flatten_append]
 simp
theorem grpL_len : ∀ ns : List Nat, (grpL ns).length ≤ 11 * ns.length
 | [] => by simp [grpL]
 | n :: r => by
  have h := grpL_len r
  have := (grp_length n).1
  unfold grpL at *
  rw [List.map_cons, List.flatten_cons, List.length_append, List.length_cons]
  omega
theorem grpL_len_take (ns : List Nat) (k : Nat) : (grpL (ns.take k)).length ≤ 11 * ns.length := by
 have h := grpL_len (ns.take k)
 have : (ns.take k).length ≤ ns.length := by rw [List.length_take]; omega
 omega
def NBox (w : World) (g : Nat) (ns : List Nat) : Prop := w.heap[g]? = some (.cells (ns.map fun n : Nat => Value.int .i64 (n : Int)).toArray 3 (0, 0))
theorem NBox.k8 {w w' : World} {g : Nat} {ns : List Nat} (h : NBox w g ns) (hk : K8 w w') : NBox w' g ns := hk g _ h (fun h => by cases h) (fun c fz h => by injection h with _ h; exact absurd h (by decide))
theorem NBox.cell {w : World} {g : Nat} {ns : List Nat} (h : NBox w g ns) (i : Nat) (hi : i < ns.length) : w.cell? ⟨g, i, none⟩ = some (.int .i64 (ns[i] : Int)) := by
 rw [Go.Joins.cell_of_block h i]
 simp [hi]
theorem NBox.new (w : World) (ns : List Nat) : NBox (w.alloc (.cells (ns.map fun n : Nat => Value.int .i64 (n : Int)).toArray 3)) w.heap.size ns := heap_alloc_new w _
set_option maxHeartbeats 4000000 in
theorem pputcounts_any (B g c : Nat) (ns : List Nat) (v : Value) (l : List UInt8) (w : World) (h : OwnB w B v l) (hB : B ≤ w.heap.size) (hg : NBox w g ns) (hn : ∀ n ∈ ns, n ≤ 4611686018427387904) (hl : l.length + 11 * ns.length ≤ 140737488350000) :
  Calls Tryz.prog 97 #[v, .slice (some ⟨g, 0, none⟩) ns.length c] w (PutsR B (l ++ grpL ns) w) := by
 have HH := hid h
 have hlen : ns.length ≤ 140737488350000 := by omega
 have HL := hid hl
 have HB := hid hB
 have HG := hid hg
 have HN := hid hn
 clear h hl hB hg hn
 go_enter Tryz.func97, Tryz.ntmps97
 go_wp2_with fail
 go_loopw [0, 11] (fun b i wr => ∃ k : Nat, i = .int .i64 k ∧ k ≤ ns.length ∧ Hid (OwnB wr B b (l ++ grpL (ns.take k))) ∧ Hid (Below B w wr) ∧ Hid (K8 w wr)) (fun _ i _ => ns.length - (intOf i).toNat)
 case atStart => exact ⟨0, rfl, by omega, hid (by simpa [grpL] using HH.out), hid (Below.refl _ _), hid (Lib.OthersKept.refl _ _ _)⟩
 case round =>
  obtain ⟨k, rfl, hk, HO, HW, HK⟩ := hrel
  by_cases hlt : k < ns.length
  ·have hcell := (HG.out.k8 HK.out).cell k hlt
   have hnk := HN.out ns[k] (List.getElem_mem hlt)
   have hgt := grpL_take ns k hlt
   have hgl := grpL_len_take ns k
   obtain ⟨n, hn⟩ : ∃ n, n = ns[k] := ⟨_, rfl⟩
   rw [← hn] at hcell hnk hgt
   obtain ⟨y, hy⟩ : ∃ y, y = grpL (ns.take k) := ⟨_, rfl⟩
   rw [← hy] at HO hgt hgl
   have HGT := hid hgt
   have HGL := hid hgl
   clear hn hy hgt hgl
   go_wp2_with fail
   refine (count_any (n : Int) _ (by omega)).mono ?_
   rintro e w1 hc
   obtain ⟨v1, rfl, hv1, hb1⟩ : ∃ v, e = .returned (.tuple #[v, .int .i64 0]) ∧ OwnB w1 wr.heap.size v (grp n) ∧ Below wr.heap.size wr w1 := by
    rcases hc with ⟨-, -, v, h1, h2, h3⟩ | ⟨h, -⟩
    ·exact ⟨v, h1, by simpa using h2, h3⟩
    ·omega
   have hz := HW.out.size
   have HV1 := hid hv1
   have HB1 := hid hb1
   have HO1 := hid (HO.out.below hb1)
   have HZ := hid (Nat.le_trans HB.out (Nat.le_trans hz hb1.size))
   have HK1 := hid (HK.out.trans (k8_below hb1))
   have HW1 := hid (HW.out.trans (hb1.mono (Nat.le_trans HB.out hz)))
   clear hc hv1 hb1 hz
   go_wp2_with (at_builtin; go_must (refine wpList_append_bytes rfl _ _ rfl B _ (l ++ y) rfl HO1.out w1.heap.size _ (grp n) rfl HV1.out.rd HZ.out (by have h1 := HL.out; have h2 := (grp_length n).1; have h3 := HGL.out; rw [List.length_append]; omega) ?_))
   intro v2 w2 hv2 hg2
   have HV2 := hid (show OwnB w2 B v2 (l ++ (y ++ grp n)) by first | exact hv2 | (rw [← List.append_assoc]; exact hv2))
   have HB2 := hid (below_own HW1.out HO1.out HZ.out hg2)
   have HK2 := hid (HK1.out.trans (k8_grown HO1.out hg2))
   clear hv2 hg2
   go_wp2_with fail
   go_roundw
   case rel => exact ⟨k + 1, by go_num, by omega, hid (by rw [HGT.out]; exact HV2.out), HB2, HK2⟩
   case measure => simp [intOf]; omega
  ·have hk2 : k = ns.length := by omega
   subst hk2
   rw [List.take_length] at HO
   clear HG HN
   go_wp2_with fail
   go_ret
   exact ⟨_, rfl, HO.out, HW.out, HK.out⟩
theorem pputone_any (B n : Nat) (v : Value) (l : List UInt8) (w : World) (h : OwnB w B v l) (hB : B ≤ w.heap.size) (hn : n ≤ 4611686018427387904) (hl : l.length ≤ 140737488300000) :
  Calls Tryz.prog 97 #[v, .slice (some ⟨w.heap.size, 0, none⟩) 1 1] (w.alloc (.cells #[.int .i64 (n : Int)] 3)) (PutsR B (l ++ grp n) w) := by
 have hb0 : Below w.heap.size w (w.alloc (.cells #[.int .i64 (n : Int)] 3)) := (Below.refl _ _).alloc (Nat.le_refl _) _
 have hp := pputcounts_any B w.heap.size 1 [n] v l (w.alloc (.cells #[.int .i64 (n : Int)] 3)) (h.below hb0) (Nat.le_trans hB hb0.size) (NBox.new w [n]) (by intro k hk; simp at hk; omega) (by simp; omega)
 refine hp.mono ?_
 rintro e w' ⟨v', rfl, h1, h2, h3⟩
 have e : grpL [n] = grp n := by unfold grpL; simp
 rw [e] at h1
 exact ⟨v', rfl, h1, (hb0.mono hB).trans h2, (k8_below hb0).trans h3⟩
def pathC (p : List ByteArray) : List UInt8 := grp p.length ++ (p.map txt).flatten
def NamesOK (p : List ByteArray) : Prop := p.length ≤ 1000 ∧ ∀ s ∈ p, s.size ≤ 1000
theorem txt_small {s : ByteArray} (h : s.size ≤ 1000) : (txt s).length ≤ 1011 := by
 unfold txt
 have h1 := (grp_length s.size).1
 simp [List.length_append]
 omega
theorem flat_small : ∀ {p : List ByteArray}, (∀ s ∈ p, s.size ≤ 1000) → ((p.map txt).flatten).length ≤ 1011 * p.length
 | [], _ => by simp
 | a :: r, h => by
  have h1 := txt_small (h a (by simp))
  have h2 := flat_small (p := r) fun s hs => h s (List.mem_cons_of_mem _ hs)
  simp only [List.map_cons, List.flatten_cons, List.length_append, List.length_cons]
  omega
set_option maxHeartbeats 8000000 in
theorem pputpath_any (S : Nat → Prop) (A : Option Addr) (c : Nat) (p : List ByteArray) (B : Nat) (v : Value) (l : List UInt8) (w : World) (hS : ∀ b, S b → b < B) (hp : StrsAt w S A p) (hok : NamesOK p) (h : OwnB w B v l) (hB : B ≤ w.heap.size) (hl : l.length ≤ 140737480000000) :
  Calls Tryz.prog 168 #[v, .slice A p.length c] w (PutsR B (l ++ pathC p) w) := by
 have HP := hid hp
 have HS := hid hS
 have HOK := hid hok
 have HL := hid hl
 have HB := hid hB
 have HC := hid (pputone_any B p.length v l w h hB (by have := hok.1; omega) (by omega))
 obtain ⟨Av, cv, rfl⟩ := h.slice
 obtain ⟨m, hm⟩ : ∃ m, m = l.length := ⟨_, rfl⟩
 rw [← hm] at HC ⊢
 have hpn := hok.1
 clear h hp hS hok hl hB hm
 go_enter Tryz.func168, Tryz.ntmps168
 go_wp2_with fail
 refine HC.out.mono ?_
 rintro e w1 ⟨v1, rfl, hv1, hb1, hk1⟩
 have h0 : Hid (OwnB w1 B v1 (l ++ grp p.length ++ ((p.take 0).map txt).flatten) ∧ Below B w w1 ∧ K8 w w1) := hid ⟨by simpa using hv1, hb1, hk1⟩
 clear hv1 hb1 hk1 HC
 go_wp2_with fail
 go_loopw [0, 14] (fun v0 i wr => ∃ k : Nat, i = .int .i64 k ∧ k ≤ p.length ∧ Hid (OwnB wr B v0 (l ++ grp p.length ++ ((p.take k).map txt).flatten) ∧ Below B w wr ∧ K8 w wr)) (fun _ i _ => p.length - (intOf i).toNat)
 case atStart => exact ⟨0, rfl, by omega, h0⟩
 case round =>
  rename_i v0 _
  obtain ⟨k, rfl, hk, HH⟩ := hrel
  by_cases hlt : k < p.length
  ·obtain ⟨b, off, rfl, hb, hc⟩ := HP.out (by omega)
   have hck := (World.cell?_of_block (a := ⟨b, off + k, none⟩) (HH.out.2.1.block b (HS.out b hb))).trans (hc k hlt).1
   have hsz := HOK.out.2 _ (List.getElem_mem hlt)
   have HT := hid (text_any p[k] wr (by omega))
   obtain ⟨s, hs⟩ : ∃ s, s = p[k] := ⟨_, rfl⟩
   rw [← hs] at hck HT hsz
   have HSX := hid hs
   have HTL := hid (txt_small hsz)
   obtain ⟨Av, cv, hvv⟩ := HH.out.1.slice
   have HAV := hid hvv
   have hfl := flat_small (p := p.take k) fun s hs => HOK.out.2 s (List.mem_of_mem_take hs)
   rw [List.length_take] at hfl
   have hcl : (l ++ grp p.length ++ ((p.take k).map txt).flatten).length ≤ 140737482000000 := by
    have h1 := (grp_length p.length).1
    have h2 := HL.out
    have h3 := HOK.out.1
    simp only [List.length_append]
    omega
   have HCL := hid hcl
   clear hc hsz hs hb hvv hfl hcl
   go_wp2_with fail
   refine HT.out.mono ?_
   rintro e w5 ⟨v5, rfl, hv5, hb5⟩
   have HV5 := hid hv5
   have HO5 := hid (HH.out.1.below hb5)
   have HB5 := hid hb5
   have hBs : B ≤ wr.heap.size := Nat.le_trans HB.out HH.out.2.1.size
   have HBS := hid hBs
   obtain ⟨A5, c5, rfl⟩ := hv5.slice
   obtain ⟨m5, hm5⟩ : ∃ m, m = (txt s).length := ⟨_, rfl⟩
   rw [← hm5] at HV5 ⊢
   clear hv5 hb5 HT hm5 hck hBs
   go_wp2_with (at_builtin; go_must (refine wpList_append_bytes rfl _ _ rfl B _ (l ++ grp p.length ++ ((p.take k).map txt).flatten) rfl HO5.out w5.heap.size _ (txt s) rfl HV5.out.rd (Nat.le_trans HBS.out HB5.out.size) (by have := HCL.out; have := HTL.out; omega) ?_))
   intro v6 w6 hv6 hg6
   have HX : Hid (OwnB w6 B v6 (l ++ grp p.length ++ ((p.take (k + 1)).map txt).flatten) ∧ Below B w w6 ∧ K8 w w6) := hid ⟨by
    rw [show l ++ grp p.length ++ ((p.take (k + 1)).map txt).flatten = l ++ (grp p.length ++ ((List.take k (List.map txt p)).flatten ++ txt s)) from by rw [List.take_add_one, List.getElem?_eq_getElem hlt, ← HSX.out]; simp [List.map_take]]
    exact hv6, below_own (HH.out.2.1.trans (HB5.out.mono HBS.out)) HO5.out (Nat.le_trans HBS.out HB5.out.size) hg6, (HH.out.2.2.trans (k8_below HB5.out)).trans (k8_grown HO5.out hg6)⟩
   clear hv6 hg6
   go_wp2_with fail
   go_roundw
   case rel => exact ⟨k + 1, by go_num, by omega, HX⟩
   case measure => simp [intOf]; omega
  ·obtain rfl : k = p.length := by omega
   go_wp2_with fail
   go_ret
   obtain ⟨h1, h2, h3⟩ := HH.out
   refine ⟨_, rfl, ?_, h2, h3⟩
   rw [List.take_length] at h1
   unfold pathC
   rw [← List.append_assoc]
   exact h1
theorem mayP_ok {p : List ByteArray} (h : mayP p = true) : NamesOK p := by
 obtain ⟨-, h8, h2⟩ := (mayP_iff p).1 h
 refine ⟨by omega, fun s hs => ?_⟩
 have := ((nameB_iff s).1 (h2 s hs)).2.1
 omega
theorem pathC_small {p : List ByteArray} (h : NamesOK p) : (pathC p).length ≤ 1012000 := by
 have h1 := (grp_length p.length).1
 have h2 := flat_small h.2
 have h3 := h.1
 unfold pathC
 rw [List.length_append]
 omega
theorem sdone_st (g : Nat) (st : Option (List UInt8)) (w : World) (h : SrcL w g st) : Calls Tryz.prog 43 #[.pointer (some ⟨g, 0, none⟩)] w fun e w' => e = .returned (.int .i64 (doneOf st)) ∧ w = w' := by
 rcases st with _ | l
 ·exact sdone_none g w h
 ·exact sdone_any g l w h
theorem bcells_app (a b : List UInt8) : bcells (a ++ b) = bcells a ++ bcells b := by unfold bcells; rw [List.map_append]
theorem wp_append_bytesR {w : World} {o : Oper} {a : Act} {K : Act → World → Prop} {Q : Exit → Act → World → Prop} (s x : Operand)
  (ho : o.op = .call { callee := .builtin .append, args := #[s, x], argTypes := #[35, 35] }) (B : Nat) (v : Value) (l : List UInt8) (hs : a.eval s = v) (hown : OwnB w B v l)
  (D : Nat) (vx : Value) (m : List UInt8) (hx : a.eval x = vx) (hrd : Rd w D vx m) (hp : 0 < m.length) (hB : B ≤ w.heap.size) (hl : l.length + m.length ≤ 140737488355328)
  (K' : ∀ v' w', OwnB w' B v' (l ++ m) → w.grownBy w' v.ownBlock → K (a.put o.dst v') w') : o.wp Tryz.prog a w K Q := by
 obtain ⟨i0, hi, hz0, hz1, hz2⟩ := info_parts Tryz.infoU8
 obtain ⟨A, cap, rfl, hcap, -, hc⟩ := hrd
 obtain ⟨b, off, rfl, -, hcell⟩ := hc hp
 refine wp_append_moved _ s x 35 ho B 5 i0 (.int .u8 0) 1 1 Tryz.underlying35 hi hz0 hz1 hz2 rfl (by decide) v l.length (bcells l) hs hown ⟨b, off, none⟩ m.length cap (bcells m) hx (by simp [bcells]) (fun j u hj => ?_) (fun u hu => ?_) (by unfold maxLen; omega) (by omega) hB fun v' w' h1 h2 _ => K' v' w' (by unfold OwnB; rw [List.length_append, bcells_app]; exact h1) h2
 ·have hj' := (List.getElem?_eq_some_iff.1 hj)
  obtain ⟨hlt, he⟩ := hj'
  have hlm : j < m.length := by simpa [bcells] using hlt
  have := hcell j hlm
  simp only [bcells, List.getElem_map] at he
  rw [← he]
  rw [show (Addr.add ⟨b, off, none⟩ j : Addr) = ⟨b, off + j, none⟩ from by cases j <;> simp [Addr.add]]
  exact this
 ·obtain ⟨y, -, rfl⟩ := List.mem_map.1 hu
  rfl
def rdK (st : Option (List UInt8)) : Nat → List ByteArray × Option (List UInt8)
 | 0 => ([], st)
 | k + 1 => ((rdK st k).1 ++ [⟨(rdText 32 (rdK st k).2).1.toArray⟩], (rdText 32 (rdK st k).2).2)
theorem rdK_len (st : Option (List UInt8)) : ∀ k, (rdK st k).1.length = k
 | 0 => rfl
 | k + 1 => by simp [rdK, rdK_len st k]
def rdPathO (st : Option (List UInt8)) : List ByteArray × Option (List UInt8) := rdK (rdCount 8 st).2 (rdCount 8 st).1
set_option maxHeartbeats 8000000 in
theorem readpath_any (g : Nat) (st : Option (List UInt8)) (w : World) (hs : SrcL w g st) :
  Calls Tryz.prog 176 #[.pointer (some ⟨g, 0, none⟩)] w fun e w' => ∃ A c, e = .returned (.slice A (rdPathO st).1.length c) ∧ w'.ownsRow w.heap.size 9 1 (.slice A (rdPathO st).1.length c) (rdPathO st).1.length ((rdPathO st).1.map Value.string) ∧ SrcL w' g (rdPathO st).2 ∧ Only w w' g := by
 obtain ⟨i0, hi, hz0, hz1, hz2⟩ := info_parts Tryz.infoStr
 have h8 : (rdCount 8 st).1 ≤ 8 := rdCount_le 8 st (by omega)
 have HC := hid (scount_any g st 8 w hs (by omega))
 have HG := hid hs.lt
 obtain ⟨n, hn⟩ : ∃ n, n = (rdCount 8 st).1 := ⟨_, rfl⟩
 have HN := hid hn
 rw [← hn] at h8 HC
 clear hs hn
 go_enter Tryz.func176, Tryz.ntmps176
 go_wp2_with fail
 refine HC.out.mono ?_
 rintro e w1 ⟨rfl, hs1, ho1⟩
 obtain ⟨s1, hs1'⟩ : ∃ s1, s1 = (rdCount 8 st).2 := ⟨_, rfl⟩
 rw [← hs1'] at hs1
 have HS1 := hid hs1'
 have h0 : Hid (SrcL w1 g (rdK s1 0).2 ∧ Only w w1 g) := hid ⟨hs1, ho1⟩
 clear hs1 ho1 hs1' HC
 go_wp2_with fail
 go_loopw [3, 6] (fun v i wr => ∃ (k : Nat) (A : Option Addr) (c : Nat), i = .int .i64 k ∧ k ≤ n ∧ v = .slice A k c ∧ Hid (SrcL wr g (rdK s1 k).2 ∧ Only w wr g) ∧ Hid (wr.ownsRow w.heap.size 9 1 (.slice A k c) k ((rdK s1 k).1.map Value.string))) (fun _ i _ => n - (intOf i).toNat)
 case atStart => exact ⟨0, none, 0, rfl, by omega, rfl, h0, hid (World.ownsRow_nil _ _ _ _)⟩
 case round =>
  obtain ⟨k, A, c, rfl, hk, rfl, HH, HR⟩ := hrel
  by_cases hlt : k < n
  ·have d1 : decide ((k : Int) < (n : Int)) = true := decide_eq_true (by omega)
   have HT := hid (stext_any g (rdK s1 k).2 32 wr HH.out.1 (by omega))
   go_wp2_with fail
   refine HT.out.mono ?_
   rintro e w5 ⟨rfl, hs5, ho5⟩
   obtain ⟨sx, hsx⟩ : ∃ sx : ByteArray, sx = ⟨(rdText 32 (rdK s1 k).2).1.toArray⟩ := ⟨_, rfl⟩
   rw [← hsx]
   have hw5 : Only w w5 g := HH.out.2.trans ho5
   have hlo : ∀ q, (Value.slice A k c).ownBlock = some q → w.heap.size ≤ q ∧ q < wr.heap.size := fun q hq => World.ownsRow.lt HR.out q hq
   have hg5 := HG.out
   have hrow : ∀ X : Obj, (w5.alloc X).ownsRow w.heap.size 9 1 (.slice A k c) k ((rdK s1 k).1.map Value.string) := fun X => ownsRow_keep HR.out fun q hq => by
    have := hlo q hq
    exact (Below.heap_alloc w5 _ _ (by have := ho5.size; omega)).trans (ho5.block q this.2 (by rintro ⟨⟩; omega))
   have HX5 : Hid (SrcL w5 g (rdK s1 (k + 1)).2 ∧ Only w w5 g ∧ ∀ q, (Value.slice A k c).ownBlock = some q → w.heap.size ≤ q) := hid ⟨hs5, hw5, fun q hq => (hlo q hq).1⟩
   have HSX := hid hsx
   have HROW := hid hrow
   have hsz5 := hw5.size
   have hkn : k ≤ 8 := by omega
   clear hs5 ho5 hw5 hlo hsx HT hrow
   go_wp2_with (at_builtin; refine wpList_append_own _ rfl _ _ 23 rfl w.heap.size 9 i0 (.string ⟨#[]⟩) 1 16 Tryz.underlying23 hi hz0 hz1 hz2 rfl (by decide) _ k _ rfl (HROW.out _) ⟨w5.heap.size, 0, none⟩ 1 1 [.string sx] rfl rfl (cell_one_new _ _ _) (by simp [Value.oneCell']) (by unfold maxLen; omega) (by omega) (by simp; omega) ?_; intro v6 w6 hown6 hg6 hnil6; obtain ⟨A6, c6, rfl⟩ := own_shape hown6; have HX6 : Hid (SrcL w6 g (rdK s1 (k + 1)).2 ∧ Only w w6 g) := hid ⟨HX5.out.1.of ((hg6.block g (by simp; omega) (fun e => by have := HX5.out.2.2 g e.symm; omega)).trans (Below.heap_alloc w5 _ g (by omega))), ⟨hg6.os.trans HX5.out.2.1.os, hg6.tape.trans HX5.out.2.1.tape, hg6.output.trans HX5.out.2.1.output, Nat.le_trans hsz5 (Nat.le_trans (by simp) hg6.size), fun q hq hne => (hg6.block q (by simp; omega) (fun e => by have := HX5.out.2.2 q e.symm; omega)).trans ((Below.heap_alloc w5 _ q (by omega)).trans (HX5.out.2.1.block q hq hne))⟩⟩; have HR6 := hid hown6; clear hown6 hg6 hnil6)
   try go_wp2_with fail
   go_roundw
   case rel => exact ⟨k + 1, A6, c6, by go_num, by omega, rfl, HX6, hid (by have h9 := HR6.out; rw [HSX.out] at h9; unfold rdK; rw [List.map_append]; exact h9)⟩
   case measure => simp [intOf]; omega
  ·have hke : k = n := by omega
   have d1 : decide ((k : Int) < (n : Int)) = false := decide_eq_false (by omega)
   have HE : Hid (rdPathO st = rdK s1 k) := hid (by unfold rdPathO; rw [← HS1.out, ← HN.out, hke])
   clear hke
   go_wp2_with fail
   go_ret
   rw [HE.out, rdK_len]
   exact ⟨A, c, rfl, HR.out, HH.out.1, HH.out.2⟩
end Go.Proofs.YtpcdngpppjdgcaaGreat
