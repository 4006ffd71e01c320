/- The frame of a body: by the program, put behind bytes; and by the document. -/
import Derived.Test.YtcbnjilkmdofnaaFrmC
import Derived.Test.YtcbnjilkmdofnaaRefD
namespace Go.Proofs.Ytcbnjilkmdofnaa
set_option linter.unusedVariables false
set_option linter.unusedSimpArgs false
open Go.RowKit

/-- A frame's bytes. -/
def headF (l : List UInt8) : List UInt8 := grp l.length ++ l
def frameF (l : List UInt8) : List UInt8 := headF l ++ loB 4 (crcOf (headF l))
theorem frameF_length (l : List UInt8) : (frameF l).length = frameLen l.length := by
  unfold frameF headF frameLen
  rw [List.length_append, List.length_append, loB_length]
theorem txt_head (l : List UInt8) : txt ⟨l.toArray⟩ = headF l := by unfold txt headF; rw [size_mk]
theorem three_cells (w : World) (x y z : Value) (t : TypeId) : (w.alloc (.cells #[x, y, z] t)).cell? ⟨w.heap.size, 0, none⟩ = some x ∧ (w.alloc (.cells #[x, y, z] t)).cell? ⟨w.heap.size, 1, none⟩ = some y ∧ (w.alloc (.cells #[x, y, z] t)).cell? ⟨w.heap.size, 2, none⟩ = some z :=
  ⟨Go.Joins.cell_of_block (heap_alloc_new w _) 0, Go.Joins.cell_of_block (heap_alloc_new w _) 1, Go.Joins.cell_of_block (heap_alloc_new w _) 2⟩
theorem Rd.strY {w : World} {B : Nat} {v : Value} {l : List UInt8} (h : Rd w B v l) : (convert 22 9 v).run Try.prog w = .ok (.string ⟨l.toArray⟩) w := by
  obtain ⟨A, cap, hv, -⟩ := id h
  rw [hv] at h ⊢
  have := h.conv (Nat.le_refl _) cap
  rw [List.take_length] at this
  exact this
theorem BssAt.three {w : World} {B : Nat} {x y z : Value} {a b c : List UInt8} (hB : B ≤ w.heap.size) (hx : Rd w B x a) (hy : Rd w B y b) (hz : Rd w B z c) :
    BssAt (w.alloc (.cells #[x, y, z] 22)) (w.heap.size + 1) (some ⟨w.heap.size, 0, none⟩) [a, b, c] := by
  obtain ⟨c0, c1, c2⟩ := three_cells w x y z 22
  have hb : Below B w (w.alloc (.cells #[x, y, z] 22)) := (Below.refl _ _).alloc hB _
  intro _
  refine ⟨w.heap.size, 0, rfl, by omega, fun i hi => ?_⟩
  match i, hi with
  | 0, _ => exact ⟨x, c0, (hx.keep hb).upY (by omega)⟩
  | 1, _ => exact ⟨y, c1, (hy.keep hb).upY (by omega)⟩
  | 2, _ => exact ⟨z, c2, (hz.keep hb).upY (by omega)⟩

/-- An answer of bytes of its own, and OK. -/
def PutsOK (l : List UInt8) (w : World) (e : Ending) (w' : World) : Prop := ∃ v, e = .returned (.tuple #[v, .int .i64 0]) ∧ OwnB w' w.heap.size v l ∧ Below w.heap.size w w'

set_option maxHeartbeats 1000000 in
set_option maxRecDepth 100000 in
theorem fput_long (va : Value) (A : Option Addr) (n cap : Nat) (w : World) (hn : n ≤ 9223372036854775807) (h : 65536 < n) :
    Calls Try.prog 28 #[va, .slice A n cap] w fun e w' => e = .returned (.tuple #[.slice none 0 0, .int .i64 3]) ∧ w = w' := by
  have h1 : (65536 : Int) < (n : Int) := by omega
  go_enter Try.func28, Try.ntmps28
  go_wp2_with fail
  go_ret2
  exact ⟨rfl, rfl⟩

set_option maxHeartbeats 2000000 in
set_option maxRecDepth 100000 in
theorem fput_any (va vb : Value) (a l : List UInt8) (w : World) (ha : Rd w w.heap.size va a) (hl : Rd w w.heap.size vb l) (hn : l.length ≤ 65536) (hm : a.length ≤ 140737488000000) :
    Calls Try.prog 28 #[va, vb] w (PutsOK (a ++ frameF l) w) := by
  have HC := Lib.hid hl.strY
  obtain ⟨A, cap, rfl⟩ := hl.shapeY
  have HA := Lib.hid ha
  clear ha hl
  have h1 : ¬ (65536 : Int) < (l.length : Int) := by omega
  have HN := Lib.hid hn
  have hc := HC.out
  have htx := text_any (⟨l.toArray⟩ : ByteArray) w (by rw [size_mk]; omega)
  rw [txt_head] at htx
  have HT := Lib.hid htx
  have hlh : (headF l).length ≤ 70000 := by have := (grp_length l.length).1; unfold headF; rw [List.length_append]; omega
  have HLH := Lib.hid hlh
  obtain ⟨h, hh⟩ : ∃ h, h = headF l := ⟨_, rfl⟩
  have HH := Lib.hid hh
  rw [← hh] at HT HLH
  clear htx hh hlh
  obtain ⟨n, hn2⟩ : ∃ n, n = l.length := ⟨_, rfl⟩
  rw [← hn2] at h1 hc ⊢
  clear HC hn2
  go_enter Try.func28, Try.ntmps28
  go_wp2_with fail
  refine HT.out.mono ?_
  rintro e w1 ⟨v1, rfl, hv1, hb1⟩
  have HV1 := Lib.hid hv1
  have HB1 := Lib.hid hb1
  have HR1 := Lib.hid hv1.rdY
  clear hv1 hb1 hc
  go_wp2_with fail
  refine (sum_any v1 h _ _ HR1.out (by have := HLH.out; omega)).mono ?_
  rintro e w' ⟨rfl, rfl⟩
  have hlt := crcOf_lt h
  obtain ⟨q, hq⟩ : ∃ q, q = crcOf h := ⟨_, rfl⟩
  have HQ := Lib.hid hq
  rw [← hq] at hlt ⊢
  clear hq
  go_wp2_with fail
  refine (sumcode_any q _ hlt).mono ?_
  rintro e w2 ⟨v2, rfl, hv2, hb2⟩
  have hz1 := HB1.out.size
  have hz2 := hb2.size
  have HS := Lib.hid (BssAt.three (w := w2) (B := w2.heap.size) (Nat.le_refl _) ((HA.out.keep (HB1.out.trans (hb2.mono hz1))).upY (by omega)) ((HV1.out.below hb2).rdY) hv2.rdY)
  have HB2 := Lib.hid (HB1.out.trans (hb2.mono hz1))
  have hz3 := HB2.out.size
  have hlo := loB_length 4 q
  have HLO := Lib.hid hlo
  have hfl : ([a, h, loB 4 q] : List (List UInt8)).flatten = a ++ frameF l := by
    unfold frameF
    rw [← HH.out, ← HQ.out]
    simp
  have HFL := Lib.hid hfl
  have hfz : ([a, h, loB 4 q] : List (List UInt8)).flatten.length ≤ 140737488351232 := by
    simp only [List.flatten_cons, List.flatten_nil, List.length_append, hlo, List.length_nil]
    have := HLH.out
    omega
  have HFZ := Lib.hid hfz
  have HX := Lib.hid (concatB_any (w2.heap.size + 1) (some ⟨w2.heap.size, 0, none⟩) 3 [a, h, loB 4 q] (w2.alloc (.cells #[va, v1, v2] 22)) HS.out (by simp) hfz (by simp))
  have HBX := Lib.hid (HB2.out.alloc hz3 (.cells #[va, v1, v2] 22))
  obtain ⟨X1, x1, e1⟩ := HA.out.shapeY
  obtain ⟨X2, x2, e2⟩ := HR1.out.shapeY
  obtain ⟨X3, x3, e3⟩ := hv2.rdY.shapeY
  have HX' : Hid (Calls Try.prog 55 #[.slice (some ⟨w2.heap.size, 0, none⟩) 3 3] (w2.alloc (.cells #[va, v1, v2] 22)) (Gives (a ++ frameF l) (w2.alloc (.cells #[va, v1, v2] 22)))) := by
    rw [← hfl]; exact HX.out
  clear hv2 hb2 hfl hfz hlo HS HX
  subst e1 e2 e3
  go_wp2_with fail
  refine HX'.out.mono ?_
  rintro e w3 ⟨v3, rfl, hv3, hb3⟩
  have HV3 := Lib.hid (hv3.base (B' := w.heap.size) (by simp; omega))
  have HB3 := Lib.hid (HBX.out.trans (hb3.mono (by simp; omega)))
  clear hv3 hb3 HX'
  go_wp2_with fail
  go_ret2
  exact ⟨v3, rfl, HV3.out, HB3.out⟩
end Go.Proofs.Ytcbnjilkmdofnaa
