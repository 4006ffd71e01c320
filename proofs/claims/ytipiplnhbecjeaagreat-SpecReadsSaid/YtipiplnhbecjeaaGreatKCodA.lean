/- The document's own code of a value. -/
import Derived.Test.YtipiplnhbecjeaaGreatKCodY
import Derived.Test.YtipiplnhbecjeaaGreatKVarD
namespace Go.Proofs.YtipiplnhbecjeaaGreat
set_option linter.unusedVariables false
set_option linter.unusedSimpArgs false
set_option maxRecDepth 100000
open Go.RowKit
def EncOK (t : VT) : Prop := ∀ (S : Nat → Prop) (v : Value) (w : World), (∀ x, S x → x < w.heap.size) → LV w S t v → (encT t).length ≤ 140737488351232 → Calls Tryz.prog 45 #[v] w (Gives (encT t) w)
theorem own_one {w : World} {b : UInt8} {k : Int} (hk : (b.toNat : Int) = k) {B : Nat} (hB : B ≤ w.heap.size) : OwnB (w.alloc (.cells #[.int .u8 k] 5)) B (.slice (some ⟨w.heap.size, 0, none⟩) 1 1) [b] :=
  ⟨rfl, .inr ⟨w.heap.size, 1, #[.int .u8 k], rfl, hB, heap_alloc_new w _, Nat.le_refl _, by decide, rfl, by simp [bcells, hk]⟩⟩

set_option maxHeartbeats 4000000 in
set_option maxRecDepth 100000 in
theorem enc1  : EncOK (.mk 1 0 eS [] []) := by
  intro S v w hS h hlen
  have he : encT (.mk 1 0 eS [] []) = [1] := by
    rw [encT_eq]; unfold headE; simp [VT.kind, VT.num, VT.text, VT.items, VT.names, encL_nil]
  rw [he] at hlen ⊢
  obtain ⟨A, c, A', c', rfl, -, hri, hrs, hl1, -, hN, hA⟩ := h.shape
  simp only [VT.kind, VT.num, VT.text, VT.items, VT.names, List.length_nil] at *
  have HX := Lib.hid (Box.new (w := w) (.int .i64 1) (.int .i64 0) (.string eS) (.slice A 0 c) (.slice A' 0 c'))
  have hb0 := below_box (w := w) (.cells #[.int .i64 1, .int .i64 0, .string eS, .slice A 0 c, .slice A' 0 c'] 25)
  have hz0 : (w.alloc (.cells #[.int .i64 1, .int .i64 0, .string eS, .slice A 0 c, .slice A' 0 c'] 25)).heap.size = w.heap.size + 1 := by simp
  have ho1 : OwnB ((w.alloc (.cells #[.int .i64 1, .int .i64 0, .string eS, .slice A 0 c, .slice A' 0 c'] 25)).alloc (.cells #[.int .u8 1] 5)) w.heap.size (.slice (some ⟨w.heap.size + 1, 0, none⟩) 1 1) [1] := by
    have h := own_one (w := w.alloc (.cells #[.int .i64 1, .int .i64 0, .string eS, .slice A 0 c, .slice A' 0 c'] 25)) (b := 1) (k := 1) rfl (B := w.heap.size) (by omega)
    rw [hz0] at h
    exact h
  have hb1 := grow_trans hb0 (below_box (w := w.alloc (.cells #[.int .i64 1, .int .i64 0, .string eS, .slice A 0 c, .slice A' 0 c'] 25)) (.cells #[.int .u8 1] 5))
  have HO1 := Lib.hid ho1
  have HX1 := Lib.hid (HX.out.call (below_box (.cells #[.int .u8 1] 5)))
  have HB1 := Lib.hid hb1
  have hz1 := hb1.size
  have hz1' : ((w.alloc (.cells #[.int .i64 1, .int .i64 0, .string eS, .slice A 0 c, .slice A' 0 c'] 25)).alloc (.cells #[.int .u8 1] 5)).heap.size = w.heap.size + 2 := by simp
  have HLEN := Lib.hid hlen
  have HRI := Lib.hid hri
  have HRS := Lib.hid hrs
  have HA := Lib.hid hA
  have HN := Lib.hid hN
  have HL1 := Lib.hid hl1
  have k0 := HX1.out.c0
  have k1 := HX1.out.c1
  have k2 := HX1.out.c2
  have k3 := HX1.out.c3
  have k4 := HX1.out.c4
  have q0 := HX.out.c0
  clear hb0 hb1 ho1 hlen he h hri hrs hA hN HX hl1
  go_enter Tryz.func45, Tryz.ntmps45
  have HB4 := HB1
  have HX4 := HX1
  have HO4 := HO1
  obtain ⟨full, hfull⟩ : ∃ full : List UInt8, full = [1] := ⟨_, rfl⟩
  have HF := Lib.hid hfull
  rw [← hfull] at HLEN ⊢
  clear hfull
  go_wp2_with fail
  go_loopw [3, 4] (fun b i wr => ∃ (j : Nat) (X : List UInt8), i = .int .i64 j ∧ j ≤ ([] : List VT).length ∧ Hid (OwnB wr w.heap.size b X) ∧ Hid (X ++ encL false (([] : List ByteArray).drop j) (([] : List VT).drop j) = full) ∧ Hid (Below w.heap.size w wr) ∧ Hid (Box wr w.heap.size (.int .i64 1) (.int .i64 0) (.string eS) (.slice A 0 c) (.slice A' 0 c'))) (fun _ i _ => ([] : List VT).length - (intOf i).toNat)
  case atStart => exact ⟨0, [1], rfl, Nat.zero_le _, HO4, Lib.hid (by rw [HF.out]; simp [encL_nil]), HB4, HX4⟩
  case round =>
    obtain ⟨j, X, rfl, hj, HO, HE, HB, HX⟩ := hrel
    clear HX4 HB4 HO4 k0 k3 k4
    have k0 := HX.out.c0
    have k3 := HX.out.c3
    have k4 := HX.out.c4
    by_cases hlt : j < ([] : List VT).length
    · exact absurd hlt (by simp)
    · obtain rfl : j = ([] : List VT).length := by omega
      go_wp2_with fail
      go_ret
      exact ⟨_, rfl, by have h1 := HE.out; rw [List.drop_of_length_le (Nat.le_refl _), encL_nil, List.append_nil] at h1; have h2 := HO.out; rw [h1] at h2; first | exact h2 | (rw [HF.out] at h2; exact h2), HB.out⟩

set_option maxHeartbeats 4000000 in
set_option maxRecDepth 100000 in
theorem enc2_0  : EncOK (.mk 2 0 eS [] []) := by
  intro S v w hS h hlen
  have he : encT (.mk 2 0 eS [] []) = [2, 0] := by
    rw [encT_eq]; unfold headE; simp [VT.kind, VT.num, VT.text, VT.items, VT.names, encL_nil]
  rw [he] at hlen ⊢
  obtain ⟨A, c, A', c', rfl, -, hri, hrs, hl1, -, hN, hA⟩ := h.shape
  simp only [VT.kind, VT.num, VT.text, VT.items, VT.names, List.length_nil] at *
  have HX := Lib.hid (Box.new (w := w) (.int .i64 2) (.int .i64 0) (.string eS) (.slice A 0 c) (.slice A' 0 c'))
  have hb0 := below_box (w := w) (.cells #[.int .i64 2, .int .i64 0, .string eS, .slice A 0 c, .slice A' 0 c'] 25)
  have hz0 : (w.alloc (.cells #[.int .i64 2, .int .i64 0, .string eS, .slice A 0 c, .slice A' 0 c'] 25)).heap.size = w.heap.size + 1 := by simp
  have ho1 : OwnB ((w.alloc (.cells #[.int .i64 2, .int .i64 0, .string eS, .slice A 0 c, .slice A' 0 c'] 25)).alloc (.cells #[.int .u8 2] 5)) w.heap.size (.slice (some ⟨w.heap.size + 1, 0, none⟩) 1 1) [2] := by
    have h := own_one (w := w.alloc (.cells #[.int .i64 2, .int .i64 0, .string eS, .slice A 0 c, .slice A' 0 c'] 25)) (b := 2) (k := 2) rfl (B := w.heap.size) (by omega)
    rw [hz0] at h
    exact h
  have hb1 := grow_trans hb0 (below_box (w := w.alloc (.cells #[.int .i64 2, .int .i64 0, .string eS, .slice A 0 c, .slice A' 0 c'] 25)) (.cells #[.int .u8 2] 5))
  have HO1 := Lib.hid ho1
  have HX1 := Lib.hid (HX.out.call (below_box (.cells #[.int .u8 2] 5)))
  have HB1 := Lib.hid hb1
  have hz1 := hb1.size
  have hz1' : ((w.alloc (.cells #[.int .i64 2, .int .i64 0, .string eS, .slice A 0 c, .slice A' 0 c'] 25)).alloc (.cells #[.int .u8 2] 5)).heap.size = w.heap.size + 2 := by simp
  have HLEN := Lib.hid hlen
  have HRI := Lib.hid hri
  have HRS := Lib.hid hrs
  have HA := Lib.hid hA
  have HN := Lib.hid hN
  have HL1 := Lib.hid hl1
  have k0 := HX1.out.c0
  have k1 := HX1.out.c1
  have k2 := HX1.out.c2
  have k3 := HX1.out.c3
  have k4 := HX1.out.c4
  have q0 := HX.out.c0
  clear hb0 hb1 ho1 hlen he h hri hrs hA hN HX hl1
  go_enter Tryz.func45, Tryz.ntmps45
  have hb2 := below_box (w := ((w.alloc (.cells #[.int .i64 2, .int .i64 0, .string eS, .slice A 0 c, .slice A' 0 c'] 25)).alloc (.cells #[.int .u8 2] 5))) (.cells #[.int .u8 0] 5)
  have HO2 := Lib.hid (OwnB.below HO1.out hb2)
  have HB2 := Lib.hid (HB1.out.trans (hb2.mono hz1))
  have hz2 := HB2.out.size
  clear hb2
  go_wp2_with (at_builtin; go_must (refine wpList_append_bytes rfl _ _ rfl w.heap.size _ [2] rfl HO2.out _ (.slice (some ⟨w.heap.size + 2, 0, none⟩) 1 1) [0] rfl (Rd.one' (by simp) 0 rfl) hz2 (by simp) ?_))
  intro v2 w2 hv2 hg2
  have hb2 := below_own HB2.out HO2.out hz2 hg2
  go_wp2_with fail
  go_ret
  exact ⟨_, rfl, hv2, hb2⟩

set_option maxHeartbeats 4000000 in
set_option maxRecDepth 100000 in
theorem enc2_1  : EncOK (.mk 2 1 eS [] []) := by
  intro S v w hS h hlen
  have he : encT (.mk 2 1 eS [] []) = [2, 1] := by
    rw [encT_eq]; unfold headE; simp [VT.kind, VT.num, VT.text, VT.items, VT.names, encL_nil]
  rw [he] at hlen ⊢
  obtain ⟨A, c, A', c', rfl, -, hri, hrs, hl1, -, hN, hA⟩ := h.shape
  simp only [VT.kind, VT.num, VT.text, VT.items, VT.names, List.length_nil] at *
  have HX := Lib.hid (Box.new (w := w) (.int .i64 2) (.int .i64 1) (.string eS) (.slice A 0 c) (.slice A' 0 c'))
  have hb0 := below_box (w := w) (.cells #[.int .i64 2, .int .i64 1, .string eS, .slice A 0 c, .slice A' 0 c'] 25)
  have hz0 : (w.alloc (.cells #[.int .i64 2, .int .i64 1, .string eS, .slice A 0 c, .slice A' 0 c'] 25)).heap.size = w.heap.size + 1 := by simp
  have ho1 : OwnB ((w.alloc (.cells #[.int .i64 2, .int .i64 1, .string eS, .slice A 0 c, .slice A' 0 c'] 25)).alloc (.cells #[.int .u8 2] 5)) w.heap.size (.slice (some ⟨w.heap.size + 1, 0, none⟩) 1 1) [2] := by
    have h := own_one (w := w.alloc (.cells #[.int .i64 2, .int .i64 1, .string eS, .slice A 0 c, .slice A' 0 c'] 25)) (b := 2) (k := 2) rfl (B := w.heap.size) (by omega)
    rw [hz0] at h
    exact h
  have hb1 := grow_trans hb0 (below_box (w := w.alloc (.cells #[.int .i64 2, .int .i64 1, .string eS, .slice A 0 c, .slice A' 0 c'] 25)) (.cells #[.int .u8 2] 5))
  have HO1 := Lib.hid ho1
  have HX1 := Lib.hid (HX.out.call (below_box (.cells #[.int .u8 2] 5)))
  have HB1 := Lib.hid hb1
  have hz1 := hb1.size
  have hz1' : ((w.alloc (.cells #[.int .i64 2, .int .i64 1, .string eS, .slice A 0 c, .slice A' 0 c'] 25)).alloc (.cells #[.int .u8 2] 5)).heap.size = w.heap.size + 2 := by simp
  have HLEN := Lib.hid hlen
  have HRI := Lib.hid hri
  have HRS := Lib.hid hrs
  have HA := Lib.hid hA
  have HN := Lib.hid hN
  have HL1 := Lib.hid hl1
  have k0 := HX1.out.c0
  have k1 := HX1.out.c1
  have k2 := HX1.out.c2
  have k3 := HX1.out.c3
  have k4 := HX1.out.c4
  have q0 := HX.out.c0
  clear hb0 hb1 ho1 hlen he h hri hrs hA hN HX hl1
  go_enter Tryz.func45, Tryz.ntmps45
  have hb2 := below_box (w := ((w.alloc (.cells #[.int .i64 2, .int .i64 1, .string eS, .slice A 0 c, .slice A' 0 c'] 25)).alloc (.cells #[.int .u8 2] 5))) (.cells #[.int .u8 1] 5)
  have HO2 := Lib.hid (OwnB.below HO1.out hb2)
  have HB2 := Lib.hid (HB1.out.trans (hb2.mono hz1))
  have hz2 := HB2.out.size
  clear hb2
  go_wp2_with (at_builtin; go_must (refine wpList_append_bytes rfl _ _ rfl w.heap.size _ [2] rfl HO2.out _ (.slice (some ⟨w.heap.size + 2, 0, none⟩) 1 1) [1] rfl (Rd.one' (by simp) 1 rfl) hz2 (by simp) ?_))
  intro v2 w2 hv2 hg2
  have hb2 := below_own HB2.out HO2.out hz2 hg2
  go_wp2_with fail
  go_ret
  exact ⟨_, rfl, hv2, hb2⟩

set_option maxHeartbeats 4000000 in
set_option maxRecDepth 100000 in
theorem enc3 (i : Int) : EncOK (.mk 3 i eS [] []) := by
  intro S v w hS h hlen
  have he : encT (.mk 3 i eS [] []) = 3 :: grp (zig i) := by
    rw [encT_eq]; unfold headE; simp [VT.kind, VT.num, VT.text, VT.items, VT.names, encL_nil]
  rw [he] at hlen ⊢
  obtain ⟨A, c, A', c', rfl, -, hri, hrs, hl1, -, hN, hA⟩ := h.shape
  simp only [VT.kind, VT.num, VT.text, VT.items, VT.names, List.length_nil] at *
  have HX := Lib.hid (Box.new (w := w) (.int .i64 3) (.int .i64 i) (.string eS) (.slice A 0 c) (.slice A' 0 c'))
  have hb0 := below_box (w := w) (.cells #[.int .i64 3, .int .i64 i, .string eS, .slice A 0 c, .slice A' 0 c'] 25)
  have hz0 : (w.alloc (.cells #[.int .i64 3, .int .i64 i, .string eS, .slice A 0 c, .slice A' 0 c'] 25)).heap.size = w.heap.size + 1 := by simp
  have ho1 : OwnB ((w.alloc (.cells #[.int .i64 3, .int .i64 i, .string eS, .slice A 0 c, .slice A' 0 c'] 25)).alloc (.cells #[.int .u8 3] 5)) w.heap.size (.slice (some ⟨w.heap.size + 1, 0, none⟩) 1 1) [3] := by
    have h := own_one (w := w.alloc (.cells #[.int .i64 3, .int .i64 i, .string eS, .slice A 0 c, .slice A' 0 c'] 25)) (b := 3) (k := 3) rfl (B := w.heap.size) (by omega)
    rw [hz0] at h
    exact h
  have hb1 := grow_trans hb0 (below_box (w := w.alloc (.cells #[.int .i64 3, .int .i64 i, .string eS, .slice A 0 c, .slice A' 0 c'] 25)) (.cells #[.int .u8 3] 5))
  have HO1 := Lib.hid ho1
  have HX1 := Lib.hid (HX.out.call (below_box (.cells #[.int .u8 3] 5)))
  have HB1 := Lib.hid hb1
  have hz1 := hb1.size
  have hz1' : ((w.alloc (.cells #[.int .i64 3, .int .i64 i, .string eS, .slice A 0 c, .slice A' 0 c'] 25)).alloc (.cells #[.int .u8 3] 5)).heap.size = w.heap.size + 2 := by simp
  have HLEN := Lib.hid hlen
  have HRI := Lib.hid hri
  have HRS := Lib.hid hrs
  have HA := Lib.hid hA
  have HN := Lib.hid hN
  have HL1 := Lib.hid hl1
  have k0 := HX1.out.c0
  have k1 := HX1.out.c1
  have k2 := HX1.out.c2
  have k3 := HX1.out.c3
  have k4 := HX1.out.c4
  have q0 := HX.out.c0
  clear hb0 hb1 ho1 hlen he h hri hrs hA hN HX hl1
  go_enter Tryz.func45, Tryz.ntmps45
  go_wp2_with fail
  refine (rint_any i _ HRI.out.1 HRI.out.2).mono ?_
  rintro e w3 ⟨x, rfl, hx, hb⟩
  have HR := Lib.hid hx.rd
  have HO3 := Lib.hid (OwnB.below HO1.out hb)
  have HB3 := Lib.hid (HB1.out.trans (hb.mono hz1))
  have hz3 := HB3.out.size
  clear hx hb k0 k1 k2 k3 k4 q0
  go_wp2_with (at_builtin; go_must (refine wpList_append_bytes rfl _ _ rfl w.heap.size _ [3] rfl HO3.out w3.heap.size x (grp (zig i)) rfl HR.out hz3 (by have h := HLEN.out; simp only [List.length_cons, List.length_append, List.length_nil] at h ⊢; omega) ?_))
  intro v4 w4 hv4 hg4
  have hb4 := below_own HB3.out HO3.out hz3 hg4
  go_wp2_with fail
  go_ret
  exact ⟨_, rfl, hv4, hb4⟩

set_option maxHeartbeats 4000000 in
set_option maxRecDepth 100000 in
theorem enc4 (s : ByteArray) : EncOK (.mk 4 0 s [] []) := by
  intro S v w hS h hlen
  have he : encT (.mk 4 0 s [] []) = 4 :: txt s := by
    rw [encT_eq]; unfold headE; simp [VT.kind, VT.num, VT.text, VT.items, VT.names, encL_nil]
  rw [he] at hlen ⊢
  obtain ⟨A, c, A', c', rfl, -, hri, hrs, hl1, -, hN, hA⟩ := h.shape
  simp only [VT.kind, VT.num, VT.text, VT.items, VT.names, List.length_nil] at *
  have HX := Lib.hid (Box.new (w := w) (.int .i64 4) (.int .i64 0) (.string s) (.slice A 0 c) (.slice A' 0 c'))
  have hb0 := below_box (w := w) (.cells #[.int .i64 4, .int .i64 0, .string s, .slice A 0 c, .slice A' 0 c'] 25)
  have hz0 : (w.alloc (.cells #[.int .i64 4, .int .i64 0, .string s, .slice A 0 c, .slice A' 0 c'] 25)).heap.size = w.heap.size + 1 := by simp
  have ho1 : OwnB ((w.alloc (.cells #[.int .i64 4, .int .i64 0, .string s, .slice A 0 c, .slice A' 0 c'] 25)).alloc (.cells #[.int .u8 4] 5)) w.heap.size (.slice (some ⟨w.heap.size + 1, 0, none⟩) 1 1) [4] := by
    have h := own_one (w := w.alloc (.cells #[.int .i64 4, .int .i64 0, .string s, .slice A 0 c, .slice A' 0 c'] 25)) (b := 4) (k := 4) rfl (B := w.heap.size) (by omega)
    rw [hz0] at h
    exact h
  have hb1 := grow_trans hb0 (below_box (w := w.alloc (.cells #[.int .i64 4, .int .i64 0, .string s, .slice A 0 c, .slice A' 0 c'] 25)) (.cells #[.int .u8 4] 5))
  have HO1 := Lib.hid ho1
  have HX1 := Lib.hid (HX.out.call (below_box (.cells #[.int .u8 4] 5)))
  have HB1 := Lib.hid hb1
  have hz1 := hb1.size
  have hz1' : ((w.alloc (.cells #[.int .i64 4, .int .i64 0, .string s, .slice A 0 c, .slice A' 0 c'] 25)).alloc (.cells #[.int .u8 4] 5)).heap.size = w.heap.size + 2 := by simp
  have HLEN := Lib.hid hlen
  have HRI := Lib.hid hri
  have HRS := Lib.hid hrs
  have HA := Lib.hid hA
  have HN := Lib.hid hN
  have HL1 := Lib.hid hl1
  have k0 := HX1.out.c0
  have k1 := HX1.out.c1
  have k2 := HX1.out.c2
  have k3 := HX1.out.c3
  have k4 := HX1.out.c4
  have q0 := HX.out.c0
  clear hb0 hb1 ho1 hlen he h hri hrs hA hN HX hl1
  go_enter Tryz.func45, Tryz.ntmps45
  go_wp2_with fail
  refine (rtext_any s _ HRS.out).mono ?_
  rintro e w3 ⟨x, rfl, hx, hb⟩
  have HR := Lib.hid hx.rd
  have HO3 := Lib.hid (OwnB.below HO1.out hb)
  have HB3 := Lib.hid (HB1.out.trans (hb.mono hz1))
  have hz3 := HB3.out.size
  clear hx hb k0 k1 k2 k3 k4 q0
  go_wp2_with (at_builtin; go_must (refine wpList_append_bytes rfl _ _ rfl w.heap.size _ [4] rfl HO3.out w3.heap.size x (txt s) rfl HR.out hz3 (by have h := HLEN.out; simp only [List.length_cons, List.length_append, List.length_nil] at h ⊢; omega) ?_))
  intro v4 w4 hv4 hg4
  have hb4 := below_own HB3.out HO3.out hz3 hg4
  go_wp2_with fail
  go_ret
  exact ⟨_, rfl, hv4, hb4⟩

set_option maxHeartbeats 4000000 in
set_option maxRecDepth 100000 in
theorem enc5 (s : ByteArray) : EncOK (.mk 5 0 s [] []) := by
  intro S v w hS h hlen
  have he : encT (.mk 5 0 s [] []) = 5 :: txt s := by
    rw [encT_eq]; unfold headE; simp [VT.kind, VT.num, VT.text, VT.items, VT.names, encL_nil]
  rw [he] at hlen ⊢
  obtain ⟨A, c, A', c', rfl, -, hri, hrs, hl1, -, hN, hA⟩ := h.shape
  simp only [VT.kind, VT.num, VT.text, VT.items, VT.names, List.length_nil] at *
  have HX := Lib.hid (Box.new (w := w) (.int .i64 5) (.int .i64 0) (.string s) (.slice A 0 c) (.slice A' 0 c'))
  have hb0 := below_box (w := w) (.cells #[.int .i64 5, .int .i64 0, .string s, .slice A 0 c, .slice A' 0 c'] 25)
  have hz0 : (w.alloc (.cells #[.int .i64 5, .int .i64 0, .string s, .slice A 0 c, .slice A' 0 c'] 25)).heap.size = w.heap.size + 1 := by simp
  have ho1 : OwnB ((w.alloc (.cells #[.int .i64 5, .int .i64 0, .string s, .slice A 0 c, .slice A' 0 c'] 25)).alloc (.cells #[.int .u8 5] 5)) w.heap.size (.slice (some ⟨w.heap.size + 1, 0, none⟩) 1 1) [5] := by
    have h := own_one (w := w.alloc (.cells #[.int .i64 5, .int .i64 0, .string s, .slice A 0 c, .slice A' 0 c'] 25)) (b := 5) (k := 5) rfl (B := w.heap.size) (by omega)
    rw [hz0] at h
    exact h
  have hb1 := grow_trans hb0 (below_box (w := w.alloc (.cells #[.int .i64 5, .int .i64 0, .string s, .slice A 0 c, .slice A' 0 c'] 25)) (.cells #[.int .u8 5] 5))
  have HO1 := Lib.hid ho1
  have HX1 := Lib.hid (HX.out.call (below_box (.cells #[.int .u8 5] 5)))
  have HB1 := Lib.hid hb1
  have hz1 := hb1.size
  have hz1' : ((w.alloc (.cells #[.int .i64 5, .int .i64 0, .string s, .slice A 0 c, .slice A' 0 c'] 25)).alloc (.cells #[.int .u8 5] 5)).heap.size = w.heap.size + 2 := by simp
  have HLEN := Lib.hid hlen
  have HRI := Lib.hid hri
  have HRS := Lib.hid hrs
  have HA := Lib.hid hA
  have HN := Lib.hid hN
  have HL1 := Lib.hid hl1
  have k0 := HX1.out.c0
  have k1 := HX1.out.c1
  have k2 := HX1.out.c2
  have k3 := HX1.out.c3
  have k4 := HX1.out.c4
  have q0 := HX.out.c0
  clear hb0 hb1 ho1 hlen he h hri hrs hA hN HX hl1
  go_enter Tryz.func45, Tryz.ntmps45
  go_wp2_with fail
  refine (rtext_any s _ HRS.out).mono ?_
  rintro e w3 ⟨x, rfl, hx, hb⟩
  have HR := Lib.hid hx.rd
  have HO3 := Lib.hid (OwnB.below HO1.out hb)
  have HB3 := Lib.hid (HB1.out.trans (hb.mono hz1))
  have hz3 := HB3.out.size
  clear hx hb k0 k1 k2 k3 k4 q0
  go_wp2_with (at_builtin; go_must (refine wpList_append_bytes rfl _ _ rfl w.heap.size _ [5] rfl HO3.out w3.heap.size x (txt s) rfl HR.out hz3 (by have h := HLEN.out; simp only [List.length_cons, List.length_append, List.length_nil] at h ⊢; omega) ?_))
  intro v4 w4 hv4 hg4
  have hb4 := below_own HB3.out HO3.out hz3 hg4
  go_wp2_with fail
  go_ret
  exact ⟨_, rfl, hv4, hb4⟩

set_option maxHeartbeats 4000000 in
set_option maxRecDepth 100000 in
theorem enc6 (its : List VT) (ih : ∀ x ∈ its, EncOK x) : EncOK (.mk 6 0 eS its []) := by
  intro S v w hS h hlen
  have he : encT (.mk 6 0 eS its []) = 6 :: (grp its.length ++ encL false [] its) := by
    rw [encT_eq]; unfold headE; simp [VT.kind, VT.num, VT.text, VT.items, VT.names, encL_nil]
  rw [he] at hlen ⊢
  obtain ⟨A, c, A', c', rfl, -, hri, hrs, hl1, -, hN, hA⟩ := h.shape
  simp only [VT.kind, VT.num, VT.text, VT.items, VT.names, List.length_nil] at *
  have HX := Lib.hid (Box.new (w := w) (.int .i64 6) (.int .i64 0) (.string eS) (.slice A its.length c) (.slice A' 0 c'))
  have hb0 := below_box (w := w) (.cells #[.int .i64 6, .int .i64 0, .string eS, .slice A its.length c, .slice A' 0 c'] 25)
  have hz0 : (w.alloc (.cells #[.int .i64 6, .int .i64 0, .string eS, .slice A its.length c, .slice A' 0 c'] 25)).heap.size = w.heap.size + 1 := by simp
  have ho1 : OwnB ((w.alloc (.cells #[.int .i64 6, .int .i64 0, .string eS, .slice A its.length c, .slice A' 0 c'] 25)).alloc (.cells #[.int .u8 6] 5)) w.heap.size (.slice (some ⟨w.heap.size + 1, 0, none⟩) 1 1) [6] := by
    have h := own_one (w := w.alloc (.cells #[.int .i64 6, .int .i64 0, .string eS, .slice A its.length c, .slice A' 0 c'] 25)) (b := 6) (k := 6) rfl (B := w.heap.size) (by omega)
    rw [hz0] at h
    exact h
  have hb1 := grow_trans hb0 (below_box (w := w.alloc (.cells #[.int .i64 6, .int .i64 0, .string eS, .slice A its.length c, .slice A' 0 c'] 25)) (.cells #[.int .u8 6] 5))
  have HO1 := Lib.hid ho1
  have HX1 := Lib.hid (HX.out.call (below_box (.cells #[.int .u8 6] 5)))
  have HB1 := Lib.hid hb1
  have hz1 := hb1.size
  have hz1' : ((w.alloc (.cells #[.int .i64 6, .int .i64 0, .string eS, .slice A its.length c, .slice A' 0 c'] 25)).alloc (.cells #[.int .u8 6] 5)).heap.size = w.heap.size + 2 := by simp
  have HLEN := Lib.hid hlen
  have HRI := Lib.hid hri
  have HRS := Lib.hid hrs
  have HA := Lib.hid hA
  have HN := Lib.hid hN
  have HL1 := Lib.hid hl1
  have HIH := Lib.hid ih
  clear ih
  have k0 := HX1.out.c0
  have k1 := HX1.out.c1
  have k2 := HX1.out.c2
  have k3 := HX1.out.c3
  have k4 := HX1.out.c4
  have q0 := HX.out.c0
  clear hb0 hb1 ho1 hlen he h hri hrs hA hN HX hl1
  go_enter Tryz.func45, Tryz.ntmps45
  go_wp2_with fail
  refine (rcount_any its.length _ (by have := HL1.out; omega)).mono ?_
  rintro e w1 ⟨x, rfl, hx, hb⟩
  have HR := Lib.hid hx.rd
  have HO2 := Lib.hid (OwnB.below HO1.out hb)
  have HB2 := Lib.hid (HB1.out.trans (hb.mono hz1))
  have HX2 := Lib.hid (HX1.out.call hb)
  have hz2 := HB2.out.size
  clear hx hb k0 k1 k2 k3 k4 q0
  go_wp2_with (at_builtin; go_must (refine wpList_append_bytes rfl _ _ rfl w.heap.size _ [6] rfl HO2.out w1.heap.size x (grp its.length) rfl HR.out hz2 (by have h := HLEN.out; simp only [List.length_cons, List.length_append, List.length_nil] at h ⊢; omega) ?_))
  intro v4 w4 hv4 hg4
  have HB4 := Lib.hid (below_own HB2.out HO2.out hz2 hg4)
  have HX4 := Lib.hid (HX2.out.k8 (k8_grown HO2.out hg4))
  have HO4 := Lib.hid hv4
  have k0 := HX4.out.c0
  have k3 := HX4.out.c3
  have k4 := HX4.out.c4
  clear hv4 hg4 HB2 HX2 HO2 HR HB1 HX1 HO1
  obtain ⟨full, hfull⟩ : ∃ full : List UInt8, full = 6 :: (grp its.length ++ encL false [] its) := ⟨_, rfl⟩
  have HF := Lib.hid hfull
  rw [← hfull] at HLEN ⊢
  clear hfull
  go_wp2_with fail
  go_loopw [3, 4] (fun b i wr => ∃ (j : Nat) (X : List UInt8), i = .int .i64 j ∧ j ≤ its.length ∧ Hid (OwnB wr w.heap.size b X) ∧ Hid (X ++ encL false (([] : List ByteArray).drop j) (its.drop j) = full) ∧ Hid (Below w.heap.size w wr) ∧ Hid (Box wr w.heap.size (.int .i64 6) (.int .i64 0) (.string eS) (.slice A its.length c) (.slice A' 0 c'))) (fun _ i _ => its.length - (intOf i).toNat)
  case atStart => exact ⟨0, 6 :: grp its.length, rfl, Nat.zero_le _, HO4, Lib.hid (by rw [HF.out]; simp [encL_nil]), HB4, HX4⟩
  case round =>
    obtain ⟨j, X, rfl, hj, HO, HE, HB, HX⟩ := hrel
    clear HX4 HB4 HO4 k0 k3 k4
    have k0 := HX.out.c0
    have k3 := HX.out.c3
    have k4 := HX.out.c4
    by_cases hlt : j < its.length
    · obtain ⟨p, o, A2, e2, A3, e3, rfl, h0, h1, h2, h3, h4, hx⟩ := item_atB hS HA.out HB.out j hlt
      have hwl : w.heap.size < wr.heap.size := HX.out.lt
      have HV := Lib.hid hx
      have hBz : w.heap.size ≤ wr.heap.size := HB.out.size
      clear hx
      have HE2 : Hid (X ++ (encT its[j] ++ encL false (([] : List ByteArray).drop (j + 1)) (its.drop (j + 1))) = full) := Lib.hid (by
        have h1 := HE.out
        rw [encL_step false hlt (fun h => by cases h)] at h1
        simpa using h1)
      have HLE1 : Hid (X.length + (encT its[j]).length ≤ 140737488355328 ∧ (encT its[j]).length ≤ 140737488351232) := Lib.hid (by
        have h1 := HLEN.out
        rw [← HE2.out] at h1
        simp only [List.length_append] at h1 ⊢; omega)
      have HC := Lib.hid (HIH.out its[j] (List.getElem_mem hlt) S _ wr (fun b hb => Nat.lt_of_lt_of_le (hS b hb) hBz) HV.out HLE1.out.2)
      go_wp2_with fail
      refine HC.out.mono ?_
      rintro e w7 ⟨x7, rfl, hx7, hb7⟩
      have HR7 := Lib.hid hx7.rd
      have HO7 := Lib.hid (OwnB.below HO.out hb7)
      have HB7 := Lib.hid (HB.out.trans (hb7.mono hBz))
      have HX7 := Lib.hid (HX.out.call hb7)
      have hz7 := HB7.out.size
      clear hx7 hb7 HB HO HX HC HV h0 h1 h2 h3 h4 k0 k3 k4
      go_wp2_with (at_builtin; go_must (refine wpList_append_bytes rfl _ _ rfl w.heap.size _ X rfl HO7.out w7.heap.size x7 (encT its[j]) rfl HR7.out hz7 HLE1.out.1 ?_))
      intro v8 w8 hv8 hg8
      have HB8 := Lib.hid (below_own HB7.out HO7.out hz7 hg8)
      have HX8 := Lib.hid (HX7.out.k8 (k8_grown HO7.out hg8))
      have HO8 := Lib.hid hv8
      clear hv8 hg8 HB7 HX7 HO7 HR7
      have hL1 := HL1.out
      go_wp2_with fail
      go_roundw
      case rel => exact ⟨j + 1, X ++ encT its[j], by go_num, by omega, HO8, Lib.hid (by have h := HE2.out; simpa using h), HB8, HX8⟩
      case measure => simp [intOf]; omega
    · obtain rfl : j = its.length := by omega
      go_wp2_with fail
      go_ret
      exact ⟨_, rfl, by have h1 := HE.out; rw [List.drop_of_length_le (Nat.le_refl _), encL_nil, List.append_nil] at h1; have h2 := HO.out; rw [h1] at h2; first | exact h2 | (rw [HF.out] at h2; exact h2), HB.out⟩

set_option maxHeartbeats 4000000 in
set_option maxRecDepth 100000 in
theorem enc7 (its : List VT) (ns : List ByteArray) (hn : ns.length = its.length) (ih : ∀ x ∈ its, EncOK x) : EncOK (.mk 7 0 eS its ns) := by
  intro S v w hS h hlen
  have he : encT (.mk 7 0 eS its ns) = 7 :: (grp its.length ++ encL true ns its) := by
    rw [encT_eq]; unfold headE; simp [VT.kind, VT.num, VT.text, VT.items, VT.names, encL_nil]
  rw [he] at hlen ⊢
  obtain ⟨A, c, A', c', rfl, -, hri, hrs, hl1, -, hN, hA⟩ := h.shape
  simp only [VT.kind, VT.num, VT.text, VT.items, VT.names, List.length_nil] at *
  have HX := Lib.hid (Box.new (w := w) (.int .i64 7) (.int .i64 0) (.string eS) (.slice A its.length c) (.slice A' ns.length c'))
  have hb0 := below_box (w := w) (.cells #[.int .i64 7, .int .i64 0, .string eS, .slice A its.length c, .slice A' ns.length c'] 25)
  have hz0 : (w.alloc (.cells #[.int .i64 7, .int .i64 0, .string eS, .slice A its.length c, .slice A' ns.length c'] 25)).heap.size = w.heap.size + 1 := by simp
  have ho1 : OwnB ((w.alloc (.cells #[.int .i64 7, .int .i64 0, .string eS, .slice A its.length c, .slice A' ns.length c'] 25)).alloc (.cells #[.int .u8 7] 5)) w.heap.size (.slice (some ⟨w.heap.size + 1, 0, none⟩) 1 1) [7] := by
    have h := own_one (w := w.alloc (.cells #[.int .i64 7, .int .i64 0, .string eS, .slice A its.length c, .slice A' ns.length c'] 25)) (b := 7) (k := 7) rfl (B := w.heap.size) (by omega)
    rw [hz0] at h
    exact h
  have hb1 := grow_trans hb0 (below_box (w := w.alloc (.cells #[.int .i64 7, .int .i64 0, .string eS, .slice A its.length c, .slice A' ns.length c'] 25)) (.cells #[.int .u8 7] 5))
  have HO1 := Lib.hid ho1
  have HX1 := Lib.hid (HX.out.call (below_box (.cells #[.int .u8 7] 5)))
  have HB1 := Lib.hid hb1
  have hz1 := hb1.size
  have hz1' : ((w.alloc (.cells #[.int .i64 7, .int .i64 0, .string eS, .slice A its.length c, .slice A' ns.length c'] 25)).alloc (.cells #[.int .u8 7] 5)).heap.size = w.heap.size + 2 := by simp
  have HLEN := Lib.hid hlen
  have HRI := Lib.hid hri
  have HRS := Lib.hid hrs
  have HA := Lib.hid hA
  have HN := Lib.hid hN
  have HL1 := Lib.hid hl1
  have HIH := Lib.hid ih
  have HNL := Lib.hid hn
  clear ih hn
  have k0 := HX1.out.c0
  have k1 := HX1.out.c1
  have k2 := HX1.out.c2
  have k3 := HX1.out.c3
  have k4 := HX1.out.c4
  have q0 := HX.out.c0
  clear hb0 hb1 ho1 hlen he h hri hrs hA hN HX hl1
  go_enter Tryz.func45, Tryz.ntmps45
  go_wp2_with fail
  refine (rcount_any its.length _ (by have := HL1.out; omega)).mono ?_
  rintro e w1 ⟨x, rfl, hx, hb⟩
  have HR := Lib.hid hx.rd
  have HO2 := Lib.hid (OwnB.below HO1.out hb)
  have HB2 := Lib.hid (HB1.out.trans (hb.mono hz1))
  have HX2 := Lib.hid (HX1.out.call hb)
  have hz2 := HB2.out.size
  clear hx hb k0 k1 k2 k3 k4 q0
  go_wp2_with (at_builtin; go_must (refine wpList_append_bytes rfl _ _ rfl w.heap.size _ [7] rfl HO2.out w1.heap.size x (grp its.length) rfl HR.out hz2 (by have h := HLEN.out; simp only [List.length_cons, List.length_append, List.length_nil] at h ⊢; omega) ?_))
  intro v4 w4 hv4 hg4
  have HB4 := Lib.hid (below_own HB2.out HO2.out hz2 hg4)
  have HX4 := Lib.hid (HX2.out.k8 (k8_grown HO2.out hg4))
  have HO4 := Lib.hid hv4
  have k0 := HX4.out.c0
  have k3 := HX4.out.c3
  have k4 := HX4.out.c4
  clear hv4 hg4 HB2 HX2 HO2 HR HB1 HX1 HO1
  obtain ⟨full, hfull⟩ : ∃ full : List UInt8, full = 7 :: (grp its.length ++ encL true ns its) := ⟨_, rfl⟩
  have HF := Lib.hid hfull
  rw [← hfull] at HLEN ⊢
  clear hfull
  go_wp2_with fail
  go_loopw [3, 4] (fun b i wr => ∃ (j : Nat) (X : List UInt8), i = .int .i64 j ∧ j ≤ its.length ∧ Hid (OwnB wr w.heap.size b X) ∧ Hid (X ++ encL true (ns.drop j) (its.drop j) = full) ∧ Hid (Below w.heap.size w wr) ∧ Hid (Box wr w.heap.size (.int .i64 7) (.int .i64 0) (.string eS) (.slice A its.length c) (.slice A' ns.length c'))) (fun _ i _ => its.length - (intOf i).toNat)
  case atStart => exact ⟨0, 7 :: grp its.length, rfl, Nat.zero_le _, HO4, Lib.hid (by rw [HF.out]; simp [encL_nil]), HB4, HX4⟩
  case round =>
    obtain ⟨j, X, rfl, hj, HO, HE, HB, HX⟩ := hrel
    clear HX4 HB4 HO4 k0 k3 k4
    have k0 := HX.out.c0
    have k3 := HX.out.c3
    have k4 := HX.out.c4
    by_cases hlt : j < its.length
    · obtain ⟨p, o, A2, e2, A3, e3, rfl, h0, h1, h2, h3, h4, hx⟩ := item_atB hS HA.out HB.out j hlt
      have hwl : w.heap.size < wr.heap.size := HX.out.lt
      have HV := Lib.hid hx
      have hBz : w.heap.size ≤ wr.heap.size := HB.out.size
      clear hx
      obtain ⟨p', o', rfl, hpB, t1, hts⟩ := text_atB hS HN.out HB.out j (by rw [HNL.out]; exact hlt)
      have k4 : wr.cell? ⟨w.heap.size, 4, none⟩ = some (.slice (some ⟨p', o', none⟩) ns.length c') := HX.out.c4
      have hjn : j < ns.length := by rw [HNL.out]; exact hlt
      obtain ⟨sn, hsn⟩ : ∃ s, s = ns[j] := ⟨_, rfl⟩
      rw [← hsn] at t1 hts
      have HSN := Lib.hid hsn
      have HTS := Lib.hid hts
      have HE2 : Hid (X ++ (txt sn ++ (encT its[j] ++ encL true (ns.drop (j + 1)) (its.drop (j + 1)))) = full) := Lib.hid (by
        have h1 := HE.out
        rw [encL_step true hlt (fun _ => hjn)] at h1
        have h2 : ns.getD j eS = sn := by rw [HSN.out]; simp [hjn]
        rw [h2] at h1
        simpa using h1)
      have HLE1 : Hid (X.length + (txt sn).length ≤ 140737488355328 ∧ (X ++ txt sn).length + (encT its[j]).length ≤ 140737488355328 ∧ (encT its[j]).length ≤ 140737488351232) := Lib.hid (by
        have h1 := HLEN.out
        rw [← HE2.out] at h1
        simp only [List.length_append] at h1 ⊢; omega)
      clear hts hsn
      go_wp2_with fail
      refine (rtext_any sn _ HTS.out).mono ?_
      rintro e w5 ⟨x5, rfl, hx5, hb5⟩
      have HR5 := Lib.hid hx5.rd
      have HO5 := Lib.hid (OwnB.below HO.out hb5)
      have HB5 := Lib.hid (HB.out.trans (hb5.mono hBz))
      have HX5 := Lib.hid (HX.out.call hb5)
      have hz5 := HB5.out.size
      clear hx5 hb5 HB HO HX h0 h1 h2 h3 h4 k0 k3 k4 t1
      go_wp2_with (at_builtin; go_must (refine wpList_append_bytes rfl _ _ rfl w.heap.size _ X rfl HO5.out w5.heap.size x5 (txt sn) rfl HR5.out hz5 HLE1.out.1 ?_))
      intro v6 w6 hv6 hg6
      have HB6 := Lib.hid (below_own HB5.out HO5.out hz5 hg6)
      have HX6 := Lib.hid (HX5.out.k8 (k8_grown HO5.out hg6))
      have HO6 := Lib.hid hv6
      have hz6 := HB6.out.size
      have hwl6 : w.heap.size < w6.heap.size := HX6.out.lt
      clear hv6 hg6 HB5 HX5 HO5 HR5
      obtain ⟨p2, o2, A5, e5, A6, e6, hpe, h0, h1, h2, h3, h4, hx⟩ := item_atB hS HA.out HB6.out j hlt
      injection hpe with hpe
      injection hpe with hp1 hp2
      subst hp1 hp2
      have HV6 := Lib.hid hx
      have k0 := HX6.out.c0
      have k3 := HX6.out.c3
      have k4 := HX6.out.c4
      clear hx HV
      have HC := Lib.hid (HIH.out its[j] (List.getElem_mem hlt) S _ w6 (fun b hb => Nat.lt_of_lt_of_le (hS b hb) hz6) HV6.out HLE1.out.2.2)
      go_wp2_with fail
      refine HC.out.mono ?_
      rintro e w7 ⟨x7, rfl, hx7, hb7⟩
      have HR7 := Lib.hid hx7.rd
      have HO7 := Lib.hid (OwnB.below HO6.out hb7)
      have HB7 := Lib.hid (HB6.out.trans (hb7.mono hz6))
      have HX7 := Lib.hid (HX6.out.call hb7)
      have hz7 := HB7.out.size
      clear hx7 hb7 HB6 HO6 HX6 HC h0 h1 h2 h3 h4 k0 k3 k4
      go_wp2_with (at_builtin; go_must (refine wpList_append_bytes rfl _ _ rfl w.heap.size _ (X ++ txt sn) rfl HO7.out w7.heap.size x7 (encT its[j]) rfl HR7.out hz7 HLE1.out.2.1 ?_))
      intro v8 w8 hv8 hg8
      have HB8 := Lib.hid (below_own HB7.out HO7.out hz7 hg8)
      have HX8 := Lib.hid (HX7.out.k8 (k8_grown HO7.out hg8))
      have HO8 := Lib.hid hv8
      clear hv8 hg8 HB7 HX7 HO7 HR7
      have hL1 := HL1.out
      go_wp2_with fail
      go_roundw
      case rel => exact ⟨j + 1, X ++ (txt sn ++ encT its[j]), by go_num, by omega, HO8, Lib.hid (by have h := HE2.out; simpa using h), HB8, HX8⟩
      case measure => simp [intOf]; omega
    · obtain rfl : j = its.length := by omega
      go_wp2_with fail
      go_ret
      exact ⟨_, rfl, by have h1 := HE.out; rw [List.drop_of_length_le (Nat.le_refl _), encL_nil, List.append_nil] at h1; have h2 := HO.out; rw [h1] at h2; first | exact h2 | (rw [HF.out] at h2; exact h2), HB.out⟩

theorem enc_ok : ∀ (n : Nat) (t : VT), depthT t ≤ n → mayT t = true → EncOK t
  | 0, t, hd, _ => by cases t; rw [depthT_mk] at hd; omega
  | n + 1, t, hd, hm => by
    rcases shapes hm with rfl | ⟨i, hi, rfl⟩ | ⟨i, rfl⟩ | ⟨k, s, hk, rfl⟩ | ⟨l, hl, rfl⟩ | ⟨l, ns, hl, hn, hdn, rfl⟩
    · exact enc1
    · rcases hi with rfl | rfl
      · exact enc2_0
      · exact enc2_1
    · exact enc3 i
    · rcases hk with rfl | rfl
      · exact enc4 s
      · exact enc5 s
    · rw [depthT_mk] at hd
      exact enc6 l fun x hx => enc_ok n x (by have := depthL_le hx; omega) (mayL_mem hl hx)
    · rw [depthT_mk] at hd
      exact enc7 l ns hn fun x hx => enc_ok n x (by have := depthL_le hx; omega) (mayL_mem hl hx)
end Go.Proofs.YtipiplnhbecjeaaGreat
