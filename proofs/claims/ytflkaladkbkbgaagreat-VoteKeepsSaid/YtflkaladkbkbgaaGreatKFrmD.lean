/- The frame of a body: by the program, put behind bytes; and by the document. -/
import Derived.Test.YtflkaladkbkbgaaGreatKFrmA
import Derived.Test.YtflkaladkbkbgaaGreatKArrA
import Derived.Test.YtflkaladkbkbgaaGreatKRefA
import Derived.Test.YtflkaladkbkbgaaGreatKReg
namespace Go.Proofs.YtflkaladkbkbgaaGreat
set_option linter.unusedVariables false
set_option linter.unusedSimpArgs false
open Go.RowKit

/-- A frame's bytes. -/
def headF (l : List UInt8) : List UInt8 := grp l.length ++ l
def frameF (l : List UInt8) : List UInt8 := headF l ++ loB 4 (crcOf (headF l))
theorem frameF_length (l : List UInt8) : (frameF l).length = frameLen l.length := by
  unfold frameF headF frameLen
  rw [List.length_append, List.length_append, loB_length]
theorem txt_head (l : List UInt8) : txt ⟨l.toArray⟩ = headF l := by unfold txt headF; rw [size_mk]
theorem three_cells (w : World) (x y z : Value) (t : TypeId) : (w.alloc (.cells #[x, y, z] t)).cell? ⟨w.heap.size, 0, none⟩ = some x ∧ (w.alloc (.cells #[x, y, z] t)).cell? ⟨w.heap.size, 1, none⟩ = some y ∧ (w.alloc (.cells #[x, y, z] t)).cell? ⟨w.heap.size, 2, none⟩ = some z :=
  ⟨Go.Joins.cell_of_block (heap_alloc_new w _) 0, Go.Joins.cell_of_block (heap_alloc_new w _) 1, Go.Joins.cell_of_block (heap_alloc_new w _) 2⟩
theorem Rd.strY {w : World} {B : Nat} {v : Value} {l : List UInt8} (h : Rd w B v l) : (convert 33 9 v).run Tryz.prog w = .ok (.string ⟨l.toArray⟩) w := by
  obtain ⟨A, cap, hv, -⟩ := id h
  rw [hv] at h ⊢
  have := h.conv (Nat.le_refl _) cap
  rw [List.take_length] at this
  exact this
theorem BssAt.three {w : World} {B : Nat} {x y z : Value} {a b c : List UInt8} (hB : B ≤ w.heap.size) (hx : Rd w B x a) (hy : Rd w B y b) (hz : Rd w B z c) :
    BssAt (w.alloc (.cells #[x, y, z] 33)) (w.heap.size + 1) (some ⟨w.heap.size, 0, none⟩) [a, b, c] := by
  obtain ⟨c0, c1, c2⟩ := three_cells w x y z 33
  have hb : Below B w (w.alloc (.cells #[x, y, z] 33)) := (Below.refl _ _).alloc hB _
  intro _
  refine ⟨w.heap.size, 0, rfl, by omega, fun i hi => ?_⟩
  match i, hi with
  | 0, _ => exact ⟨x, c0, (hx.keep hb).upY (by omega)⟩
  | 1, _ => exact ⟨y, c1, (hy.keep hb).upY (by omega)⟩
  | 2, _ => exact ⟨z, c2, (hz.keep hb).upY (by omega)⟩

/-- An answer of bytes of its own, and OK. -/
def PutsOK (l : List UInt8) (w : World) (e : Ending) (w' : World) : Prop := ∃ v, e = .returned (.tuple #[v, .int .i64 0]) ∧ OwnB w' w.heap.size v l ∧ Below w.heap.size w w'

set_option maxHeartbeats 1000000 in
set_option maxRecDepth 100000 in
theorem fput_long (va : Value) (A : Option Addr) (n cap : Nat) (w : World) (hn : n ≤ 9223372036854775807) (h : 65536 < n) :
    Calls Tryz.prog 32 #[va, .slice A n cap] w fun e w' => e = .returned (.tuple #[.slice none 0 0, .int .i64 3]) ∧ w = w' := by
  have h1 : (65536 : Int) < (n : Int) := by omega
  go_enter Tryz.func32, Tryz.ntmps32
  go_wp2_with fail
  go_ret2
  exact ⟨rfl, rfl⟩

set_option maxHeartbeats 2000000 in
set_option maxRecDepth 100000 in
theorem fput_any (va vb : Value) (a l : List UInt8) (w : World) (ha : Rd w w.heap.size va a) (hl : Rd w w.heap.size vb l) (hn : l.length ≤ 65536) (hm : a.length ≤ 140737488000000) :
    Calls Tryz.prog 32 #[va, vb] w (PutsOK (a ++ frameF l) w) := by
  have HC := Lib.hid hl.strY
  obtain ⟨A, cap, rfl⟩ := hl.shapeY
  have HA := Lib.hid ha
  clear ha hl
  have h1 : ¬ (65536 : Int) < (l.length : Int) := by omega
  have HN := Lib.hid hn
  have hc := HC.out
  have htx := text_any (⟨l.toArray⟩ : ByteArray) w (by rw [size_mk]; omega)
  rw [txt_head] at htx
  have HT := Lib.hid htx
  have hlh : (headF l).length ≤ 70000 := by have := (grp_length l.length).1; unfold headF; rw [List.length_append]; omega
  have HLH := Lib.hid hlh
  obtain ⟨h, hh⟩ : ∃ h, h = headF l := ⟨_, rfl⟩
  have HH := Lib.hid hh
  rw [← hh] at HT HLH
  clear htx hh hlh
  obtain ⟨n, hn2⟩ : ∃ n, n = l.length := ⟨_, rfl⟩
  rw [← hn2] at h1 hc ⊢
  clear HC hn2
  go_enter Tryz.func32, Tryz.ntmps32
  go_wp2_with fail
  refine HT.out.mono ?_
  rintro e w1 ⟨v1, rfl, hv1, hb1⟩
  have HV1 := Lib.hid hv1
  have HB1 := Lib.hid hb1
  have HR1 := Lib.hid hv1.rdY
  clear hv1 hb1 hc
  go_wp2_with fail
  refine (sum_any v1 h _ _ HR1.out (by have := HLH.out; omega)).mono ?_
  rintro e w' ⟨rfl, rfl⟩
  have hlt := crcOf_lt h
  obtain ⟨q, hq⟩ : ∃ q, q = crcOf h := ⟨_, rfl⟩
  have HQ := Lib.hid hq
  rw [← hq] at hlt ⊢
  clear hq
  go_wp2_with fail
  refine (sumbytes_any q _ hlt).mono ?_
  rintro e w2 ⟨rfl, hb2⟩
  obtain ⟨b0, b1, b2, b3, hbs⟩ := arrB_four q
  have ear : arrB (loB 4 q) = .agg #[.int .u8 (b0.toNat : Int), .int .u8 (b1.toNat : Int), .int .u8 (b2.toNat : Int), .int .u8 (b3.toNat : Int)] := by rw [hbs]; rfl
  rw [ear]
  obtain ⟨X, hX⟩ : ∃ X : Obj, X = .cells #[.int .u8 (b0.toNat : Int), .int .u8 (b1.toNat : Int), .int .u8 (b2.toNat : Int), .int .u8 (b3.toNat : Int)] 91 := ⟨_, rfl⟩
  have hq3 : QBox (w2.alloc X) w2.heap.size (loB 4 q) := by rw [hX, hbs]; exact heap_alloc_new w2 _
  have hz1 := HB1.out.size
  have hz2 := hb2.size
  have hw3 : (w2.alloc X).heap.size = w2.heap.size + 1 := by simp
  have hb3 : Below w1.heap.size w1 (w2.alloc X) := hb2.alloc hz2 X
  have hrd3 := hq3.rd (B := (w2.alloc X).heap.size) (by omega) (by rw [loB_length]; omega)
  rw [loB_length] at hrd3
  have HS := Lib.hid (BssAt.three (w := w2.alloc X) (B := (w2.alloc X).heap.size) (Nat.le_refl _) ((HA.out.keep (HB1.out.trans (hb3.mono hz1))).upY (by omega)) ((HV1.out.below hb3).rdY) hrd3)
  have HB2 := Lib.hid (HB1.out.trans (hb3.mono hz1))
  have hz3 := HB2.out.size
  have hlo := loB_length 4 q
  have hfl : ([a, h, loB 4 q] : List (List UInt8)).flatten = a ++ frameF l := by
    unfold frameF
    rw [← HH.out, ← HQ.out]
    simp
  have hfz : ([a, h, loB 4 q] : List (List UInt8)).flatten.length ≤ 140737488351232 := by
    simp only [List.flatten_cons, List.flatten_nil, List.length_append, hlo, List.length_nil]
    have := HLH.out
    omega
  have hx := concatB_any ((w2.alloc X).heap.size + 1) (some ⟨(w2.alloc X).heap.size, 0, none⟩) 3 [a, h, loB 4 q] ((w2.alloc X).alloc (.cells #[va, v1, .slice (some ⟨w2.heap.size, 0, none⟩) 4 4] 33)) HS.out (by simp) hfz (by simp)
  have hbx := HB2.out.alloc hz3 (.cells #[va, v1, .slice (some ⟨w2.heap.size, 0, none⟩) 4 4] 33)
  have hbz := hbx.size
  rw [hw3, hfl] at hx
  obtain ⟨X1, x1, e1⟩ := HA.out.shapeY
  obtain ⟨X2, x2, e2⟩ := HR1.out.shapeY
  rw [hX] at hx hbx hbz
  have HX := Lib.hid hx
  have HBX := Lib.hid hbx
  have HBZ := Lib.hid hbz
  clear hb2 hbs ear hX hq3 hw3 hb3 hrd3 HS HB2 hz3 hlo hfl hfz hx hbx hbz
  subst e1 e2
  go_wp2_with fail
  refine HX.out.mono ?_
  rintro e w3 ⟨v3, rfl, hv3, hb3⟩
  have HV3 := Lib.hid (hv3.base (B' := w.heap.size) HBZ.out)
  have HB3 := Lib.hid (HBX.out.trans (hb3.mono HBZ.out))
  clear hv3 hb3 HX
  go_wp2_with fail
  go_ret2
  exact ⟨v3, rfl, HV3.out, HB3.out⟩
end Go.Proofs.YtflkaladkbkbgaaGreat

/- The frame of a body, by the document. -/
namespace Go.Proofs.YtflkaladkbkbgaaGreat
set_option linter.unusedVariables false
set_option linter.unusedSimpArgs false
open Go.RowKit

end Go.Proofs.YtflkaladkbkbgaaGreat

/- Which frame comes next in bytes, plain and by the document. -/
namespace Go.Proofs.YtflkaladkbkbgaaGreat
set_option linter.unusedVariables false
set_option linter.unusedSimpArgs false
open Go.RowKit

/-- What a count's code leaves is what stands behind it. -/
theorem rdN_suffix {m x : Nat} {l r : List UInt8} (h : rdN m (some l) = (x, some r)) : ∃ k, 1 ≤ k ∧ k ≤ l.length ∧ r = l.drop k := by
  simp only [rdN] at h
  split at h
  · cases h
  · next hn =>
    injection h with _ h
    injection h with h
    have := (getG_size_le l 0 0).1
    exact ⟨(getG 0 0 l).2, by omega, by omega, h.symm⟩
theorem rdCount_suffix {n : Int} {x : Nat} {l r : List UInt8} (h : rdCount n (some l) = (x, some r)) : ∃ k, 1 ≤ k ∧ k ≤ l.length ∧ r = l.drop k := by
  unfold rdCount at h
  split at h
  · cases h
  · exact rdN_suffix h
theorem rdCount_le (n : Nat) (st : Option (List UInt8)) (hn : n ≤ 4611686018427387904) : (rdCount n st).1 ≤ n := by
  unfold rdCount
  split
  · simp
  · have := rdN_le (mc n) st
    have e : mc n = n := by unfold mc; rw [if_pos (by omega)]; omega
    omega

/-- The frame that comes next: its body, and how many bytes it has. -/
def nextF (l : List UInt8) : Option (List UInt8 × Nat) :=
  match rdCount 65536 (some l) with
  | (_, none) => none
  | (n, some r) => if r.length < n + 4 then none
    else if loB 4 (crcOf (l.take (l.length - r.length + n))) = (r.drop n).take 4 then some (r.take n, l.length - r.length + n + 4) else none
theorem nextF_bad {l : List UInt8} (h : (rdCount 65536 (some l)).2 = none) : nextF l = none := by
  unfold nextF
  rcases hr : rdCount 65536 (some l) with ⟨n, _ | r⟩
  · rfl
  · rw [hr] at h; cases h
theorem nextF_some {l r : List UInt8} {n : Nat} (h : rdCount 65536 (some l) = (n, some r)) : nextF l = if r.length < n + 4 then none
    else if loB 4 (crcOf (l.take (l.length - r.length + n))) = (r.drop n).take 4 then some (r.take n, l.length - r.length + n + 4) else none := by
  unfold nextF
  rw [h]

theorem Rd.takeY {w : World} {B n cap : Nat} {A : Option Addr} {l : List UInt8} (h : Rd w B (.slice A l.length cap) l) (hn : n ≤ l.length) : Rd w B (.slice A n cap) (l.take n) := by
  obtain ⟨A', cap', hv, h2, h3, h4⟩ := h
  injection hv with e1 e2 e3
  subst e1 e3
  have hl : (l.take n).length = n := by simp; omega
  refine ⟨A, cap, by rw [hl], by omega, h3, fun hp => ?_⟩
  obtain ⟨b, off, e, hb, hc⟩ := h4 (by omega)
  refine ⟨b, off, e, hb, fun i hi => ?_⟩
  rw [List.getElem_take]
  exact hc i (by omega)
theorem Rd.takeY' {w : World} {B n m cap : Nat} {A : Option Addr} {l : List UInt8} (h : Rd w B (.slice A m cap) l) (hn : n ≤ m) : Rd w B (.slice A n cap) (l.take n) := by
  obtain ⟨A', c', hv, -⟩ := id h
  injection hv with _ e _
  subst e
  exact h.takeY hn
/-- The bytes from k on, n of them. -/
theorem Rd.mid {w : World} {B n k cap b off : Nat} {l : List UInt8} (h : Rd w B (.slice (some ⟨b, off, none⟩) l.length cap) l) (hn : k + n ≤ l.length) (hp : 0 < n) : Rd w B (.slice (some ⟨b, off + k, none⟩) n (cap - k)) ((l.drop k).take n) := by
  have h1 := h.cut (k := k) (by omega)
  have hc : l.length ≤ cap := by
    obtain ⟨A', cap', hv, h2, _⟩ := h
    injection hv with _ _ e3
    omega
  rw [if_neg (by omega)] at h1
  have e : l.length - k = (l.drop k).length := by rw [List.length_drop]
  rw [e] at h1
  exact h1.takeY (by rw [List.length_drop]; omega)

theorem own_zeroY (w : World) : OwnB (w.alloc (.cells #[] 5)) w.heap.size (.slice (some ⟨w.heap.size, 0, none⟩) 0 0) [] := ⟨rfl, .inr ⟨_, 0, #[], rfl, Nat.le_refl _, heap_alloc_new w _, Nat.le_refl _, by decide, rfl, rfl⟩⟩
theorem run_convY {B : Nat} {w : World} {v : Value} {l : List UInt8} (h : Rd w B v l) : ∀ p : Later B w, (convert 33 9 v).run Tryz.prog p.u = .ok (.string ⟨l.toArray⟩) p.u := run_later fun u hu => (h.keep hu).strY

/-- What the document's reading of a frame answers. -/
def NextR (l : List UInt8) (w : World) (e : Ending) (w' : World) : Prop := Below w.heap.size w w' ∧
  ((nextF l = none ∧ e = .returned (.tuple #[.int .i64 0, .slice none 0 0])) ∨ ∃ b k v, nextF l = some (b, k) ∧ e = .returned (.tuple #[.int .i64 (k : Nat), v]) ∧ OwnB w' w.heap.size v b)

end Go.Proofs.YtflkaladkbkbgaaGreat
