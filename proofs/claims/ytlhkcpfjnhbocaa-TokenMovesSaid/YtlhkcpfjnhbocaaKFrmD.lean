/- The frame of a body: by the program, put behind bytes; and by the document. -/
import Derived.Test.YtlhkcpfjnhbocaaKFrmA
import Derived.Test.YtlhkcpfjnhbocaaKArrA
import Derived.Test.YtlhkcpfjnhbocaaKRefA
import Derived.Test.YtlhkcpfjnhbocaaKReg
namespace Go.Proofs.Ytlhkcpfjnhbocaa
set_option linter.unusedVariables false
set_option linter.unusedSimpArgs false
open Go.RowKit

/-- A frame's bytes. -/
def headF (l : List UInt8) : List UInt8 := grp l.length ++ l
def frameF (l : List UInt8) : List UInt8 := headF l ++ loB 4 (crcOf (headF l))
theorem frameF_length (l : List UInt8) : (frameF l).length = frameLen l.length := by
  unfold frameF headF frameLen
  rw [List.length_append, List.length_append, loB_length]
theorem txt_head (l : List UInt8) : txt ⟨l.toArray⟩ = headF l := by unfold txt headF; rw [size_mk]
theorem three_cells (w : World) (x y z : Value) (t : TypeId) : (w.alloc (.cells #[x, y, z] t)).cell? ⟨w.heap.size, 0, none⟩ = some x ∧ (w.alloc (.cells #[x, y, z] t)).cell? ⟨w.heap.size, 1, none⟩ = some y ∧ (w.alloc (.cells #[x, y, z] t)).cell? ⟨w.heap.size, 2, none⟩ = some z :=
  ⟨Go.Joins.cell_of_block (heap_alloc_new w _) 0, Go.Joins.cell_of_block (heap_alloc_new w _) 1, Go.Joins.cell_of_block (heap_alloc_new w _) 2⟩
theorem Rd.strY {w : World} {B : Nat} {v : Value} {l : List UInt8} (h : Rd w B v l) : (convert 22 9 v).run Try.prog w = .ok (.string ⟨l.toArray⟩) w := by
  obtain ⟨A, cap, hv, -⟩ := id h
  rw [hv] at h ⊢
  have := h.conv (Nat.le_refl _) cap
  rw [List.take_length] at this
  exact this
theorem BssAt.three {w : World} {B : Nat} {x y z : Value} {a b c : List UInt8} (hB : B ≤ w.heap.size) (hx : Rd w B x a) (hy : Rd w B y b) (hz : Rd w B z c) :
    BssAt (w.alloc (.cells #[x, y, z] 22)) (w.heap.size + 1) (some ⟨w.heap.size, 0, none⟩) [a, b, c] := by
  obtain ⟨c0, c1, c2⟩ := three_cells w x y z 22
  have hb : Below B w (w.alloc (.cells #[x, y, z] 22)) := (Below.refl _ _).alloc hB _
  intro _
  refine ⟨w.heap.size, 0, rfl, by omega, fun i hi => ?_⟩
  match i, hi with
  | 0, _ => exact ⟨x, c0, (hx.keep hb).upY (by omega)⟩
  | 1, _ => exact ⟨y, c1, (hy.keep hb).upY (by omega)⟩
  | 2, _ => exact ⟨z, c2, (hz.keep hb).upY (by omega)⟩

/-- An answer of bytes of its own, and OK. -/
def PutsOK (l : List UInt8) (w : World) (e : Ending) (w' : World) : Prop := ∃ v, e = .returned (.tuple #[v, .int .i64 0]) ∧ OwnB w' w.heap.size v l ∧ Below w.heap.size w w'

set_option maxHeartbeats 1000000 in
set_option maxRecDepth 100000 in
theorem fput_long (va : Value) (A : Option Addr) (n cap : Nat) (w : World) (hn : n ≤ 9223372036854775807) (h : 65536 < n) :
    Calls Try.prog 13 #[va, .slice A n cap] w fun e w' => e = .returned (.tuple #[.slice none 0 0, .int .i64 3]) ∧ w = w' := by
  have h1 : (65536 : Int) < (n : Int) := by omega
  go_enter Try.func13, Try.ntmps13
  go_wp2_with fail
  go_ret2
  exact ⟨rfl, rfl⟩

set_option maxHeartbeats 2000000 in
set_option maxRecDepth 100000 in
theorem fput_any (va vb : Value) (a l : List UInt8) (w : World) (ha : Rd w w.heap.size va a) (hl : Rd w w.heap.size vb l) (hn : l.length ≤ 65536) (hm : a.length ≤ 140737488000000) :
    Calls Try.prog 13 #[va, vb] w (PutsOK (a ++ frameF l) w) := by
  have HC := Lib.hid hl.strY
  obtain ⟨A, cap, rfl⟩ := hl.shapeY
  have HA := Lib.hid ha
  clear ha hl
  have h1 : ¬ (65536 : Int) < (l.length : Int) := by omega
  have HN := Lib.hid hn
  have hc := HC.out
  have htx := text_any (⟨l.toArray⟩ : ByteArray) w (by rw [size_mk]; omega)
  rw [txt_head] at htx
  have HT := Lib.hid htx
  have hlh : (headF l).length ≤ 70000 := by have := (grp_length l.length).1; unfold headF; rw [List.length_append]; omega
  have HLH := Lib.hid hlh
  obtain ⟨h, hh⟩ : ∃ h, h = headF l := ⟨_, rfl⟩
  have HH := Lib.hid hh
  rw [← hh] at HT HLH
  clear htx hh hlh
  obtain ⟨n, hn2⟩ : ∃ n, n = l.length := ⟨_, rfl⟩
  rw [← hn2] at h1 hc ⊢
  clear HC hn2
  go_enter Try.func13, Try.ntmps13
  go_wp2_with fail
  refine HT.out.mono ?_
  rintro e w1 ⟨v1, rfl, hv1, hb1⟩
  have HV1 := Lib.hid hv1
  have HB1 := Lib.hid hb1
  have HR1 := Lib.hid hv1.rdY
  clear hv1 hb1 hc
  go_wp2_with fail
  refine (sum_any v1 h _ _ HR1.out (by have := HLH.out; omega)).mono ?_
  rintro e w' ⟨rfl, rfl⟩
  have hlt := crcOf_lt h
  obtain ⟨q, hq⟩ : ∃ q, q = crcOf h := ⟨_, rfl⟩
  have HQ := Lib.hid hq
  rw [← hq] at hlt ⊢
  clear hq
  go_wp2_with fail
  refine (sumbytes_any q _ hlt).mono ?_
  rintro e w2 ⟨rfl, hb2⟩
  obtain ⟨b0, b1, b2, b3, hbs⟩ := arrB_four q
  have ear : arrB (loB 4 q) = .agg #[.int .u8 (b0.toNat : Int), .int .u8 (b1.toNat : Int), .int .u8 (b2.toNat : Int), .int .u8 (b3.toNat : Int)] := by rw [hbs]; rfl
  rw [ear]
  obtain ⟨X, hX⟩ : ∃ X : Obj, X = .cells #[.int .u8 (b0.toNat : Int), .int .u8 (b1.toNat : Int), .int .u8 (b2.toNat : Int), .int .u8 (b3.toNat : Int)] 60 := ⟨_, rfl⟩
  have hq3 : QBox (w2.alloc X) w2.heap.size (loB 4 q) := by rw [hX, hbs]; exact heap_alloc_new w2 _
  have hz1 := HB1.out.size
  have hz2 := hb2.size
  have hw3 : (w2.alloc X).heap.size = w2.heap.size + 1 := by simp
  have hb3 : Below w1.heap.size w1 (w2.alloc X) := hb2.alloc hz2 X
  have hrd3 := hq3.rd (B := (w2.alloc X).heap.size) (by omega) (by rw [loB_length]; omega)
  rw [loB_length] at hrd3
  have HS := Lib.hid (BssAt.three (w := w2.alloc X) (B := (w2.alloc X).heap.size) (Nat.le_refl _) ((HA.out.keep (HB1.out.trans (hb3.mono hz1))).upY (by omega)) ((HV1.out.below hb3).rdY) hrd3)
  have HB2 := Lib.hid (HB1.out.trans (hb3.mono hz1))
  have hz3 := HB2.out.size
  have hlo := loB_length 4 q
  have hfl : ([a, h, loB 4 q] : List (List UInt8)).flatten = a ++ frameF l := by
    unfold frameF
    rw [← HH.out, ← HQ.out]
    simp
  have hfz : ([a, h, loB 4 q] : List (List UInt8)).flatten.length ≤ 140737488351232 := by
    simp only [List.flatten_cons, List.flatten_nil, List.length_append, hlo, List.length_nil]
    have := HLH.out
    omega
  have hx := concatB_any ((w2.alloc X).heap.size + 1) (some ⟨(w2.alloc X).heap.size, 0, none⟩) 3 [a, h, loB 4 q] ((w2.alloc X).alloc (.cells #[va, v1, .slice (some ⟨w2.heap.size, 0, none⟩) 4 4] 22)) HS.out (by simp) hfz (by simp)
  have hbx := HB2.out.alloc hz3 (.cells #[va, v1, .slice (some ⟨w2.heap.size, 0, none⟩) 4 4] 22)
  have hbz := hbx.size
  rw [hw3, hfl] at hx
  obtain ⟨X1, x1, e1⟩ := HA.out.shapeY
  obtain ⟨X2, x2, e2⟩ := HR1.out.shapeY
  rw [hX] at hx hbx hbz
  have HX := Lib.hid hx
  have HBX := Lib.hid hbx
  have HBZ := Lib.hid hbz
  clear hb2 hbs ear hX hq3 hw3 hb3 hrd3 HS HB2 hz3 hlo hfl hfz hx hbx hbz
  subst e1 e2
  go_wp2_with fail
  refine HX.out.mono ?_
  rintro e w3 ⟨v3, rfl, hv3, hb3⟩
  have HV3 := Lib.hid (hv3.base (B' := w.heap.size) HBZ.out)
  have HB3 := Lib.hid (HBX.out.trans (hb3.mono HBZ.out))
  clear hv3 hb3 HX
  go_wp2_with fail
  go_ret2
  exact ⟨v3, rfl, HV3.out, HB3.out⟩
end Go.Proofs.Ytlhkcpfjnhbocaa

/- The frame of a body, by the document. -/
namespace Go.Proofs.Ytlhkcpfjnhbocaa
set_option linter.unusedVariables false
set_option linter.unusedSimpArgs false
open Go.RowKit

set_option maxHeartbeats 2000000 in
set_option maxRecDepth 100000 in
theorem rframe_any (vb : Value) (l : List UInt8) (w : World) (hl : Rd w w.heap.size vb l) (hn : l.length ≤ 140737488000000) :
    Calls Try.prog 15 #[vb] w (Gives (frameF l) w) := by
  have HL := Lib.hid hl
  obtain ⟨A, cap, rfl⟩ := hl.shapeY
  obtain ⟨n, hn2⟩ : ∃ n, n = l.length := ⟨_, rfl⟩
  have HN2 := Lib.hid hn2
  have hc := rcount_any n w (by omega)
  rw [← hn2] at HL hn ⊢
  have HC := Lib.hid hc
  clear hc hn2 hl
  go_enter Try.func15, Try.ntmps15
  go_wp2_with fail
  refine HC.out.mono ?_
  rintro e w1 ⟨v1, rfl, hv1, hb1⟩
  have HV1 := Lib.hid hv1
  have HB1 := Lib.hid hb1
  have HR1 := Lib.hid (HL.out.keep hb1)
  have hz1 := hb1.size
  have HG := Lib.hid (grp_length n)
  clear hv1 hb1 HC
  go_wp2_with (at_builtin; go_must (refine append_bytesY rfl _ _ rfl w.heap.size _ (grp n) rfl HV1.out _ _ l rfl HR1.out hz1 (by have := HG.out; have := HN2.out; omega) ?_))
  intro v2 w2 hv2 hg2
  have hb2 := below_ownY HB1.out HV1.out hz1 hg2
  have hz2 := hb2.size
  have hh : grp n ++ l = headF l := by unfold headF; rw [HN2.out]
  rw [hh] at hv2
  have hlh : (headF l).length ≤ n + 11 := by have := (grp_length l.length).1; have := HN2.out; unfold headF; rw [List.length_append]; omega
  obtain ⟨h, hh⟩ : ∃ h, h = headF l := ⟨_, rfl⟩
  have HH := Lib.hid hh
  rw [← hh] at hv2 hlh
  have HV2 := Lib.hid hv2
  have HR2 := Lib.hid hv2.rdY
  have HB2 := Lib.hid hb2
  clear hv2 hg2 hb2 hh
  go_wp2_with fail
  refine (rsum_any v2 h _ _ HR2.out (by omega)).mono ?_
  rintro e w' ⟨rfl, rfl⟩
  have hlt := crcOf_lt h
  obtain ⟨q, hq⟩ : ∃ q, q = crcOf h := ⟨_, rfl⟩
  have HQ := Lib.hid hq
  rw [← hq] at hlt ⊢
  clear hq
  go_wp2_with fail
  refine (rfour_any q _ hlt).mono ?_
  rintro e w3 ⟨v3, rfl, hv3, hb3⟩
  have HV3 := Lib.hid (HV2.out.below hb3)
  have HR3 := Lib.hid hv3.rdY
  have HB3 := Lib.hid (HB2.out.trans (hb3.mono hz2))
  have hz3 := HB3.out.size
  have hlo := loB_length 4 q
  clear hv3 hb3
  go_wp2_with (at_builtin; go_must (refine append_bytesY rfl _ _ rfl w.heap.size _ h rfl HV3.out _ _ (loB 4 q) rfl HR3.out hz3 (by omega) ?_))
  intro v4 w4 hv4 hg4
  have HB4 := Lib.hid (below_ownY HB3.out HV3.out hz3 hg4)
  have hf : h ++ loB 4 q = frameF l := by unfold frameF; rw [← HH.out, ← HQ.out]
  rw [hf] at hv4
  have HV4 := Lib.hid hv4
  clear hv4 hg4 hf hlo
  go_wp2_with fail
  go_ret
  exact ⟨v4, rfl, HV4.out, HB4.out⟩
end Go.Proofs.Ytlhkcpfjnhbocaa

/- Which frame comes next in bytes, plain and by the document. -/
namespace Go.Proofs.Ytlhkcpfjnhbocaa
set_option linter.unusedVariables false
set_option linter.unusedSimpArgs false
open Go.RowKit

/-- What a count's code leaves is what stands behind it. -/
theorem rdN_suffix {m x : Nat} {l r : List UInt8} (h : rdN m (some l) = (x, some r)) : ∃ k, 1 ≤ k ∧ k ≤ l.length ∧ r = l.drop k := by
  simp only [rdN] at h
  split at h
  · cases h
  · next hn =>
    injection h with _ h
    injection h with h
    have := (getG_size_le l 0 0).1
    exact ⟨(getG 0 0 l).2, by omega, by omega, h.symm⟩
theorem rdCount_suffix {n : Int} {x : Nat} {l r : List UInt8} (h : rdCount n (some l) = (x, some r)) : ∃ k, 1 ≤ k ∧ k ≤ l.length ∧ r = l.drop k := by
  unfold rdCount at h
  split at h
  · cases h
  · exact rdN_suffix h
theorem rdCount_le (n : Nat) (st : Option (List UInt8)) (hn : n ≤ 4611686018427387904) : (rdCount n st).1 ≤ n := by
  unfold rdCount
  split
  · simp
  · have := rdN_le (mc n) st
    have e : mc n = n := by unfold mc; rw [if_pos (by omega)]; omega
    omega

/-- The frame that comes next: its body, and how many bytes it has. -/
def nextF (l : List UInt8) : Option (List UInt8 × Nat) :=
  match rdCount 65536 (some l) with
  | (_, none) => none
  | (n, some r) => if r.length < n + 4 then none
    else if loB 4 (crcOf (l.take (l.length - r.length + n))) = (r.drop n).take 4 then some (r.take n, l.length - r.length + n + 4) else none
theorem nextF_bad {l : List UInt8} (h : (rdCount 65536 (some l)).2 = none) : nextF l = none := by
  unfold nextF
  rcases hr : rdCount 65536 (some l) with ⟨n, _ | r⟩
  · rfl
  · rw [hr] at h; cases h
theorem nextF_some {l r : List UInt8} {n : Nat} (h : rdCount 65536 (some l) = (n, some r)) : nextF l = if r.length < n + 4 then none
    else if loB 4 (crcOf (l.take (l.length - r.length + n))) = (r.drop n).take 4 then some (r.take n, l.length - r.length + n + 4) else none := by
  unfold nextF
  rw [h]

theorem Rd.takeY {w : World} {B n cap : Nat} {A : Option Addr} {l : List UInt8} (h : Rd w B (.slice A l.length cap) l) (hn : n ≤ l.length) : Rd w B (.slice A n cap) (l.take n) := by
  obtain ⟨A', cap', hv, h2, h3, h4⟩ := h
  injection hv with e1 e2 e3
  subst e1 e3
  have hl : (l.take n).length = n := by simp; omega
  refine ⟨A, cap, by rw [hl], by omega, h3, fun hp => ?_⟩
  obtain ⟨b, off, e, hb, hc⟩ := h4 (by omega)
  refine ⟨b, off, e, hb, fun i hi => ?_⟩
  rw [List.getElem_take]
  exact hc i (by omega)
theorem Rd.takeY' {w : World} {B n m cap : Nat} {A : Option Addr} {l : List UInt8} (h : Rd w B (.slice A m cap) l) (hn : n ≤ m) : Rd w B (.slice A n cap) (l.take n) := by
  obtain ⟨A', c', hv, -⟩ := id h
  injection hv with _ e _
  subst e
  exact h.takeY hn
/-- The bytes from k on, n of them. -/
theorem Rd.mid {w : World} {B n k cap b off : Nat} {l : List UInt8} (h : Rd w B (.slice (some ⟨b, off, none⟩) l.length cap) l) (hn : k + n ≤ l.length) (hp : 0 < n) : Rd w B (.slice (some ⟨b, off + k, none⟩) n (cap - k)) ((l.drop k).take n) := by
  have h1 := h.cut (k := k) (by omega)
  have hc : l.length ≤ cap := by
    obtain ⟨A', cap', hv, h2, _⟩ := h
    injection hv with _ _ e3
    omega
  rw [if_neg (by omega)] at h1
  have e : l.length - k = (l.drop k).length := by rw [List.length_drop]
  rw [e] at h1
  exact h1.takeY (by rw [List.length_drop]; omega)

theorem own_zeroY (w : World) : OwnB (w.alloc (.cells #[] 5)) w.heap.size (.slice (some ⟨w.heap.size, 0, none⟩) 0 0) [] := ⟨rfl, .inr ⟨_, 0, #[], rfl, Nat.le_refl _, heap_alloc_new w _, Nat.le_refl _, by decide, rfl, rfl⟩⟩
theorem run_convY {B : Nat} {w : World} {v : Value} {l : List UInt8} (h : Rd w B v l) : ∀ p : Later B w, (convert 22 9 v).run Try.prog p.u = .ok (.string ⟨l.toArray⟩) p.u := run_later fun u hu => (h.keep hu).strY

/-- What the document's reading of a frame answers. -/
def NextR (l : List UInt8) (w : World) (e : Ending) (w' : World) : Prop := Below w.heap.size w w' ∧
  ((nextF l = none ∧ e = .returned (.tuple #[.int .i64 0, .slice none 0 0])) ∨ ∃ b k v, nextF l = some (b, k) ∧ e = .returned (.tuple #[.int .i64 (k : Nat), v]) ∧ OwnB w' w.heap.size v b)

set_option maxHeartbeats 4000000 in
set_option maxRecDepth 100000 in
theorem rnext_any (v : Value) (l : List UInt8) (w : World) (h : Rd w w.heap.size v l) (hl : l.length ≤ 140737488000000) :
    Calls Try.prog 40 #[v] w (NextR l w) := by
  obtain ⟨A, cap, rfl⟩ := h.shapeY
  obtain ⟨ll, hll⟩ : ∃ n, n = l.length := ⟨_, rfl⟩
  have HL := Lib.hid hll
  rw [← hll] at h hl ⊢
  have H := Lib.hid h
  have hb0 : Below w.heap.size w (w.alloc (.cells #[.slice A ll cap, .bool false] 77)) := (Below.refl _ _).alloc (Nat.le_refl _) _
  have HX := Lib.hid (show RS (w.alloc (.cells #[.slice A ll cap, .bool false] 77)) w.heap.size w.heap.size (some l) from ⟨_, heap_alloc_new w _, h.keep hb0⟩)
  have HB0 := Lib.hid hb0
  obtain ⟨n, st, hr⟩ : ∃ n st, rdCount 65536 (some l) = (n, st) := ⟨_, _, rfl⟩
  have hn := rdCount_le 65536 (some l) (by omega)
  have hc := fun w1 h1 => rscount_any w.heap.size w.heap.size 65536 (some l) w1 h1 (Nat.le_refl _) (by decide)
  have hn : n ≤ 65536 := by rw [show ((65536 : Nat) : Int) = (65536 : Int) from rfl, hr] at hn; exact hn
  rw [hr] at hc
  have HC := Lib.hid hc
  have HR := Lib.hid hr
  clear h hb0 hr hc hll
  go_enter Try.func40, Try.ntmps40
  go_wp2_with fail
  generalize hW1 : w.alloc (.cells #[.slice A ll cap, .bool false] 77) = w1 at *
  refine (HC.out w1 HX.out).mono ?_
  rintro e w2 ⟨rfl, hs, ho⟩
  have hz1 := HB0.out.size
  have hb2 := HB0.out.trans (ho.below hz1 (Nat.le_refl _))
  have HB2 := Lib.hid hb2
  have hz2 := hb2.size
  have HD2 := Lib.hid (H.out.keep hb2)
  clear hb2 ho HX HB0 HC hW1
  rcases st with _ | r
  · obtain ⟨A3, n3, c3, hu⟩ := hs
    obtain ⟨d0, d1, e0, e1⟩ := rcells hu
    clear hu
    go_wp2_with fail
    go_ret2
    exact ⟨HB2.out, .inl ⟨nextF_bad (by rw [HR.out]), rfl⟩⟩
  obtain ⟨v2, hu, hrd⟩ := hs
  obtain ⟨A2, c2, rfl⟩ := hrd.shapeY
  obtain ⟨d0, d1, e0, e1⟩ := rcells hu
  obtain ⟨k, hk1, hk2, hrk⟩ := rdCount_suffix HR.out
  have hrl : r.length + k = ll := by rw [hrk, List.length_drop, HL.out]; omega
  obtain ⟨m, hm⟩ : ∃ m, m = r.length := ⟨_, rfl⟩
  have HM := Lib.hid hm
  have HRK := Lib.hid hrk
  rw [← hm] at d0 hrl
  have hmi : (ll : Int) - (m : Int) = (k : Int) := by omega
  clear hu hrd hm hrk e0 e1
  by_cases hsm : m < n + 4
  · have h1 : (m : Int) - 4 < (n : Int) := by omega
    go_wp2_with fail
    go_ret2
    exact ⟨HB2.out, .inl ⟨by rw [nextF_some HR.out, if_pos (by rw [← HM.out]; exact hsm)], rfl⟩⟩
  have h1 : ¬ ((m : Int) - 4 < (n : Int)) := by omega
  obtain ⟨b, off, rfl⟩ : ∃ b off, A = some ⟨b, off, none⟩ := by
    obtain ⟨A', cap', hv, _, _, h4⟩ := H.out
    injection hv with e1 e2 e3
    subst e1
    obtain ⟨b, off, e, _⟩ := h4 (by omega)
    exact ⟨b, off, e⟩
  obtain ⟨E, hE⟩ : ∃ E : Nat, E = k + n := ⟨_, rfl⟩
  have hEi : (k : Int) + (n : Int) = (E : Int) := by omega
  have hcap : ll ≤ cap := by
    obtain ⟨A', cap', hv, h2, _⟩ := H.out
    injection hv with _ e2 e3
    omega
  have hEl : E + 4 ≤ ll := by omega
  have D := HD2.out
  rw [HL.out] at D
  have HS1 := Lib.hid (D.takeY (n := E) (by have := HL.out; omega))
  have HS2 := Lib.hid (D.mid (k := E) (n := 4) (by have := HL.out; omega) (by omega))
  have HE := Lib.hid hE
  clear D hE h1 hsm
  have h1 : ¬ ((m : Int) - 4 < (n : Int)) := by have := HE.out; omega
  go_wp2_with fail
  have HD3 := Lib.hid (HS1.out.keep (Below.refl _ w2).drew)
  have hcv := run_convY (B := w2.heap.size) (w := w2.drew) ((HS2.out.keep (Below.refl _ w2).drew).upY hz2)
  refine wp_region_mix [0, 1, 2, 6, 7, 8, 9, 10, 11, 3, 4, 5, 12] (by kernel_rfl) (by kernel_rfl) (fun _ d _ _ _ h => by cases d <;> exact h) ?_
  simp only [atNats, List.filterMap_cons, List.filterMap_nil, List.getElem?_toArray, List.getElem?_cons_succ, List.getElem?_cons_zero]
  first | refine mix_pure ?_ | refine mix_pureB ?_
  simp only [List.takeWhile, List.dropWhile, isPure, Nat.reduceBNe]
  repeat (go_big_quiet_step (fail))
  refine wpQuiet_nil ?_
  first | refine mix_call rfl (fun K hK => ?_) | refine mix_callB rfl (fun K hK => ?_)
  go_simp
  refine (rsum_any (.slice (some ⟨b, off, none⟩) E cap) (l.take E) _ w.heap.size (HD3.out) (by have := HL.out; simp; omega)).mono ?_
  rintro e u ⟨rfl, rfl⟩
  refine hK _ _ (Below.refl _ _) ?_
  clear hK K
  try simp only [Act.put]
  have hlt := crcOf_lt (l.take E)
  obtain ⟨q, hq⟩ : ∃ q, q = crcOf (l.take E) := ⟨_, rfl⟩
  have HQ := Lib.hid hq
  rw [← hq] at hlt ⊢
  clear hq hcv
  first | refine mix_call rfl (fun K hK => ?_) | refine mix_callB rfl (fun K hK => ?_)
  go_simp
  refine (rfour_any q _ hlt).mono ?_
  rintro e w3 ⟨v3, rfl, hv3, hb⟩
  refine hK _ _ hb ?_
  clear hK K
  try simp only [Act.put]
  have HB3 := Lib.hid (HB2.out.trans ((below_undrew hb).mono hz2))
  have hcv := run_later (fun u hu => OwnB.conv (OwnB.below hv3 hu))
  clear hb hv3
  first | refine mix_pure ?_ | refine mix_pureB ?_
  simp only [List.takeWhile, List.dropWhile, isPure, Nat.reduceBNe]
  repeat (go_big_quiet_step (fail))
  refine wpQuiet_nil ?_
  unfold wpMix
  clear hcv
  have hdk : r.drop n = l.drop E := by rw [HRK.out, List.drop_drop, HE.out]
  have hkE : l.length - r.length = k := by rw [← HM.out, ← HL.out]; omega
  have hnx : nextF l = if loB 4 q = (l.drop E).take 4 then some (r.take n, E + 4) else none := by
    rw [nextF_some HR.out, if_neg (by rw [← HM.out]; have := HE.out; omega), hdk, hkE, ← HE.out, HQ.out]
  have HNX := Lib.hid hnx
  by_cases heq : loB 4 q = (l.drop E).take 4
  rotate_left
  · have hne : (!(loB 4 q == (l.drop E).take 4)) = true := by rw [beq_eq_false_iff_ne.2 heq]; rfl
    rw [if_neg heq] at HNX
    rw [hne]
    clear hnx hdk hkE heq hne
    go_wp2_with fail
    go_ret2
    exact ⟨HB3.out, .inl ⟨HNX.out, rfl⟩⟩
  have hne : (!(loB 4 q == (l.drop E).take 4)) = false := by rw [beq_iff_eq.2 heq]; rfl
  rw [if_pos heq] at HNX
  have hrt : r.take n = (l.drop k).take n := by rw [HRK.out]
  rw [hrt] at HNX
  have hz3 := HB3.out.size
  have hbx : Below w.heap.size w (w3.alloc (.cells #[] 5)) := HB3.out.alloc hz3 _
  have HBX := Lib.hid hbx
  have hmid : Rd (w3.alloc (.cells #[] 5)) (w3.alloc (.cells #[] 5)).heap.size (.slice (if n = 0 ∧ cap = k then some ⟨b, off, none⟩ else some ⟨b, off + k, none⟩) (E - k) (cap - k)) ((l.drop k).take n) := by
    have D := H.out.keep hbx
    rw [HL.out] at D
    have hEk : E - k = n := by omega
    rw [hEk]
    have hk4 : ¬ cap = k := by omega
    rw [if_neg (by omega)]
    by_cases hn0 : n = 0
    · subst hn0
      have := (D.cut (k := k) (by omega)).takeY' (n := 0) (by omega)
      rw [if_neg hk4] at this
      exact this.upY (by simp; omega)
    · exact (D.mid (k := k) (n := n) (by have := HL.out; omega) (by omega)).upY (by simp; omega)
  rw [if_neg (by omega)] at hmid
  have HMID := Lib.hid hmid
  have HO := Lib.hid ((own_zeroY w3).base (B' := w.heap.size) hz3)
  have hlm : ((l.drop k).take n).length ≤ 70000 := by rw [List.length_take]; omega
  have HLM := Lib.hid hlm
  obtain ⟨body, hbody⟩ : ∃ x, x = (l.drop k).take n := ⟨_, rfl⟩
  rw [← hbody] at HNX HMID HLM
  rw [hne]
  clear hnx hdk hkE hrt heq hbx hmid hlm hbody hne
  go_wp2_with (at_builtin; go_must (refine append_bytesY rfl _ _ rfl w.heap.size _ [] rfl HO.out _ _ body rfl HMID.out (by simp; omega) (by have := HLM.out; simp; omega) ?_))
  intro v4 w4 hv4 hg4
  have HB4 := Lib.hid (below_ownY HBX.out HO.out (by simp; omega) hg4)
  have HV4 := Lib.hid hv4
  clear hv4 hg4
  go_wp2_with fail
  go_ret2
  exact ⟨HB4.out, .inr ⟨body, E + 4, v4, HNX.out, rfl, HV4.out⟩⟩
end Go.Proofs.Ytlhkcpfjnhbocaa
