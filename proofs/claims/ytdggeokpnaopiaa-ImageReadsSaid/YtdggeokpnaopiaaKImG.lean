/- The codes of counts, put behind bytes of the call's own. -/
import Derived.Test.YtdggeokpnaopiaaKKeA
import Derived.Test.YtdggeokpnaopiaaKReg
import Derived.Test.YtdggeokpnaopiaaKImE
import Derived.Test.YtdggeokpnaopiaaKCodY
import Derived.Test.YtdggeokpnaopiaaKCodE
namespace Go.Proofs.Ytdggeokpnaopiaa
set_option linter.unusedVariables false
set_option linter.unusedSimpArgs false
open Go.RowKit
set_option maxRecDepth 100000
instance k8_inh (w : World) : Inhabited (LaterR K8 w) := ⟨⟨w, Lib.OthersKept.refl _ _ _⟩⟩
theorem cell_k8 {w : World} {g i : Nat} {v : Value} {cs : Array Value} {t : TypeId} {fr : Nat × Nat} (hg : w.heap[g]? = some (.cells cs t fr)) (ht : t ≠ 5) (hc : cs[i]? = some v) : ∀ p : LaterR K8 w, p.u.cell? ⟨g, i, none⟩ = some v := fun p => by
  have h1 := p.h g _ hg (fun h => by cases h) (fun c fz h => by injection h with _ h; exact ht h)
  rw [Go.Joins.cell_of_block h1 i, hc]
/-- Numbers' codes, one behind the other. -/
def grpL (ns : List Nat) : List UInt8 := (ns.map grp).flatten
theorem grpL_take (ns : List Nat) (k : Nat) (h : k < ns.length) : grpL (ns.take (k + 1)) = grpL (ns.take k) ++ grp ns[k] := by
  unfold grpL
  rw [List.take_succ_eq_append_getElem h, List.map_append, List.flatten_append]
  simp
theorem grpL_len : ∀ ns : List Nat, (grpL ns).length ≤ 11 * ns.length
  | [] => by simp [grpL]
  | n :: r => by
    have h := grpL_len r
    have := (grp_length n).1
    unfold grpL at *
    rw [List.map_cons, List.flatten_cons, List.length_append, List.length_cons]
    omega
theorem grpL_len_take (ns : List Nat) (k : Nat) : (grpL (ns.take k)).length ≤ 11 * ns.length := by
  have h := grpL_len (ns.take k)
  have : (ns.take k).length ≤ ns.length := by rw [List.length_take]; omega
  omega
/-- A row of numbers in a block. -/
def NBox (w : World) (g : Nat) (ns : List Nat) : Prop := w.heap[g]? = some (.cells (ns.map fun n : Nat => Value.int .i64 (n : Int)).toArray 3 (0, 0))
theorem NBox.k8 {w w' : World} {g : Nat} {ns : List Nat} (h : NBox w g ns) (hk : K8 w w') : NBox w' g ns := hk g _ h (fun h => by cases h) (fun c fz h => by injection h with _ h; exact absurd h (by decide))
theorem NBox.cell {w : World} {g : Nat} {ns : List Nat} (h : NBox w g ns) (i : Nat) (hi : i < ns.length) : w.cell? ⟨g, i, none⟩ = some (.int .i64 (ns[i] : Int)) := by
  rw [Go.Joins.cell_of_block h i]
  simp [hi]
theorem NBox.new (w : World) (ns : List Nat) : NBox (w.alloc (.cells (ns.map fun n : Nat => Value.int .i64 (n : Int)).toArray 3)) w.heap.size ns := heap_alloc_new w _
set_option maxHeartbeats 4000000 in
theorem pputcounts_any (B g c : Nat) (ns : List Nat) (v : Value) (l : List UInt8) (w : World) (h : OwnB w B v l) (hB : B ≤ w.heap.size) (hg : NBox w g ns) (hn : ∀ n ∈ ns, n ≤ 4611686018427387904) (hl : l.length + 11 * ns.length ≤ 140737488350000) :
    Calls Try.prog 34 #[v, .slice (some ⟨g, 0, none⟩) ns.length c] w (PutsR B (l ++ grpL ns) w) := by
  have HH := Lib.hid h
  have hlen : ns.length ≤ 140737488350000 := by omega
  have HL := Lib.hid hl
  have HB := Lib.hid hB
  have HG := Lib.hid hg
  have HN := Lib.hid hn
  clear h hl hB hg hn
  go_enter Try.func34, Try.ntmps34
  go_wp2_with fail
  go_loopw [0, 11] (fun b i wr => ∃ k : Nat, i = .int .i64 k ∧ k ≤ ns.length ∧ Hid (OwnB wr B b (l ++ grpL (ns.take k))) ∧ Hid (Below B w wr) ∧ Hid (K8 w wr)) (fun _ i _ => ns.length - (intOf i).toNat)
  case atStart => exact ⟨0, rfl, by omega, Lib.hid (by simpa [grpL] using HH.out), Lib.hid (Below.refl _ _), Lib.hid (Lib.OthersKept.refl _ _ _)⟩
  case round =>
    obtain ⟨k, rfl, hk, HO, HW, HK⟩ := hrel
    by_cases hlt : k < ns.length
    · have hcell := (HG.out.k8 HK.out).cell k hlt
      have hnk := HN.out ns[k] (List.getElem_mem hlt)
      have hgt := grpL_take ns k hlt
      have hgl := grpL_len_take ns k
      obtain ⟨n, hn⟩ : ∃ n, n = ns[k] := ⟨_, rfl⟩
      rw [← hn] at hcell hnk hgt
      obtain ⟨y, hy⟩ : ∃ y, y = grpL (ns.take k) := ⟨_, rfl⟩
      rw [← hy] at HO hgt hgl
      have HGT := Lib.hid hgt
      have HGL := Lib.hid hgl
      clear hn hy hgt hgl
      go_wp2_with fail
      refine (count_any (n : Int) _ (by omega)).mono ?_
      rintro e w1 hc
      obtain ⟨v1, rfl, hv1, hb1⟩ : ∃ v, e = .returned (.tuple #[v, .int .i64 0]) ∧ OwnB w1 wr.heap.size v (grp n) ∧ Below wr.heap.size wr w1 := by
        rcases hc with ⟨-, -, v, h1, h2, h3⟩ | ⟨h, -⟩
        · exact ⟨v, h1, by simpa using h2, h3⟩
        · omega
      have hz := HW.out.size
      have HV1 := Lib.hid hv1
      have HB1 := Lib.hid hb1
      have HO1 := Lib.hid (HO.out.below hb1)
      have HZ := Lib.hid (Nat.le_trans HB.out (Nat.le_trans hz hb1.size))
      have HK1 := Lib.hid (HK.out.trans (k8_below hb1))
      have HW1 := Lib.hid (HW.out.trans (hb1.mono (Nat.le_trans HB.out hz)))
      clear hc hv1 hb1 hz
      go_wp2_with (at_builtin; go_must (refine wpList_append_bytes rfl _ _ rfl B _ (l ++ y) rfl HO1.out w1.heap.size _ (grp n) rfl HV1.out.rd HZ.out (by have h1 := HL.out; have h2 := (grp_length n).1; have h3 := HGL.out; rw [List.length_append]; omega) ?_))
      intro v2 w2 hv2 hg2
      have HV2 := Lib.hid (show OwnB w2 B v2 (l ++ (y ++ grp n)) by first | exact hv2 | (rw [← List.append_assoc]; exact hv2))
      have HB2 := Lib.hid (below_own HW1.out HO1.out HZ.out hg2)
      have HK2 := Lib.hid (HK1.out.trans (k8_grown HO1.out hg2))
      clear hv2 hg2
      go_wp2_with fail
      go_roundw
      case rel => exact ⟨k + 1, by go_num, by omega, Lib.hid (by rw [HGT.out]; exact HV2.out), HB2, HK2⟩
      case measure => simp [intOf]; omega
    · have hk2 : k = ns.length := by omega
      subst hk2
      rw [List.take_length] at HO
      clear HG HN
      go_wp2_with fail
      go_ret
      exact ⟨_, rfl, HO.out, HW.out, HK.out⟩
/-- One number, given as the only one. -/
theorem pputone_any (B n : Nat) (v : Value) (l : List UInt8) (w : World) (h : OwnB w B v l) (hB : B ≤ w.heap.size) (hn : n ≤ 4611686018427387904) (hl : l.length ≤ 140737488300000) :
    Calls Try.prog 34 #[v, .slice (some ⟨w.heap.size, 0, none⟩) 1 1] (w.alloc (.cells #[.int .i64 (n : Int)] 3)) (PutsR B (l ++ grp n) w) := by
  have hb0 : Below w.heap.size w (w.alloc (.cells #[.int .i64 (n : Int)] 3)) := (Below.refl _ _).alloc (Nat.le_refl _) _
  have hp := pputcounts_any B w.heap.size 1 [n] v l (w.alloc (.cells #[.int .i64 (n : Int)] 3)) (h.below hb0) (Nat.le_trans hB hb0.size) (NBox.new w [n]) (by intro k hk; simp at hk; omega) (by simp; omega)
  refine hp.mono ?_
  rintro e w' ⟨v', rfl, h1, h2, h3⟩
  have e : grpL [n] = grp n := by unfold grpL; simp
  rw [e] at h1
  exact ⟨v', rfl, h1, (hb0.mono hB).trans h2, (k8_below hb0).trans h3⟩
end Go.Proofs.Ytdggeokpnaopiaa

/- Images: their code. -/
namespace Go.Proofs.Ytdggeokpnaopiaa
set_option linter.unusedVariables false
set_option linter.unusedSimpArgs false
open Go.RowKit
set_option maxRecDepth 100000
/-- The mark of what is known of an index. -/
def markK : Option VT → List UInt8
  | none => [0]
  | some t => 1 :: encO t
def ImT.at (m : ImT) (i : Nat) : Option VT := m.ring (i % m.keep.toNat)
/-- The marks of n indexes from i on. -/
def ImT.marks (m : ImT) (i n : Nat) : List UInt8 := ((List.range n).map fun j => markK (m.at (i + j))).flatten
theorem marks_succ (m : ImT) (i n : Nat) : m.marks i (n + 1) = m.marks i n ++ markK (m.at (i + n)) := by
  unfold ImT.marks
  rw [List.range_succ]
  simp
def cntI (m : ImT) : Nat → List UInt8
  | 0 => []
  | 1 => grp m.keep.toNat
  | 2 => grp m.keep.toNat ++ grp m.base.toNat
  | _ => grp m.keep.toNat ++ grp m.base.toNat ++ grp m.top.toNat
/-- How many are known. -/
def ImT.cnt (m : ImT) : Nat := (m.top - max m.base (m.top - m.keep)).toNat
def ImT.code (m : ImT) : List UInt8 := cntI m 3 ++ m.marks (max m.base (m.top - m.keep) + 1).toNat m.cnt
/-- What lies in the ring may be, and is whole. -/
def ImT.Good (m : ImT) : Prop := ∀ j t, m.ring j = some t → checkT t = 0 ∧ sizeT t ≤ 9223372036854775807
theorem good_depth {t : VT} (h : checkT t = 0 ∧ sizeT t ≤ 9223372036854775807) : depthT t ≤ 4611686018427387903 := by
  have := ((check_zero h.2).1 h.1).2.1; omega
theorem mark_small {m : ImT} (h : m.Good) (i : Nat) : (markK (m.at i)).length ≤ 4097 := by
  unfold ImT.at
  cases ho : m.ring (i % m.keep.toNat) with
  | none => simp [markK]
  | some t =>
    have := encO_length (t := t) (h _ _ ho).2
    simp [markK]; omega
theorem marks_small {m : ImT} (h : m.Good) (i : Nat) : ∀ n, (m.marks i n).length ≤ 4097 * n
  | 0 => by simp [ImT.marks]
  | n + 1 => by
    have h1 := marks_small h i n
    have h2 := mark_small h (i + n)
    rw [marks_succ, List.length_append]
    omega
theorem cntI_small (m : ImT) (k : Nat) : (cntI m k).length ≤ 33 := by
  have h1 := (grp_length m.keep.toNat).1
  have h2 := (grp_length m.base.toNat).1
  have h3 := (grp_length m.top.toNat).1
  unfold cntI
  split
  · simp
  · omega
  · rw [List.length_append]; omega
  · rw [List.length_append, List.length_append]; omega
set_option maxHeartbeats 4000000 in
theorem iputkept_none (B : Nat) (v : Value) (l : List UInt8) (w : World) (h : OwnB w B v l) (hB : B ≤ w.heap.size) (hl : l.length ≤ 140737488350000) :
    Calls Try.prog 36 #[v, .pointer none] w (PutsR B (l ++ markK none) w) := by
  obtain ⟨A, c, rfl⟩ := h.slice
  obtain ⟨m, hm⟩ : ∃ m, m = l.length := ⟨_, rfl⟩
  have hb1 := below_box (w := w) (.cells #[.int .u8 0] 5)
  have HO1 := Lib.hid (h.below hb1)
  have HB1 := Lib.hid (hb1.mono hB)
  have HK1 := Lib.hid (k8_below hb1)
  have hz1 : B ≤ (w.alloc (.cells #[.int .u8 0] 5)).heap.size := Nat.le_trans hB hb1.size
  have HZ1 := Lib.hid hz1
  have HL := Lib.hid hl
  rw [← hm] at HO1 ⊢
  clear h hl hB hm hb1 hz1
  go_enter Try.func36, Try.ntmps36
  go_wp2_with (at_builtin; go_must (refine wpList_append_bytes rfl _ _ rfl B _ l rfl HO1.out _ (.slice (some ⟨w.heap.size, 0, none⟩) 1 1) [0] rfl (Rd.one' (by simp) 0 rfl) HZ1.out (by have := HL.out; simp only [List.length_cons, List.length_nil]; omega) ?_))
  intro v2 w2 hv2 hg2
  have HX : Hid (OwnB w2 B v2 (l ++ markK none) ∧ Below B w w2 ∧ K8 w w2) := Lib.hid ⟨hv2, below_own HB1.out HO1.out HZ1.out hg2, HK1.out.trans (k8_grown HO1.out hg2)⟩
  clear hv2 hg2
  go_wp2_with fail
  go_ret
  exact ⟨_, rfl, HX.out⟩
theorem ownB_apart {w1 w2 w3 : World} {D : Nat} {v v1 : Value} {m : List UInt8} (h1 : OwnB w1 D v1 m) (hv : ∀ k, v.ownBlock = some k → k < D) (hb : Below w1.heap.size w1 w2) (hg : w2.grownBy w3 v.ownBlock) : Rd w3 w3.heap.size v1 m := by
  have h2 : OwnB w2 D v1 m := h1.below hb
  refine OwnB.rd (B := D) ?_
  refine ⟨h2.1, h2.2.imp id ?_⟩
  rintro ⟨g, cap, cur, rfl, hB, hh, hr⟩
  refine ⟨g, cap, cur, rfl, hB, ?_, hr⟩
  rw [hg.block g (Array.getElem?_eq_some_iff.1 hh).1 (fun e => by have := hv g e.symm; omega)]
  exact hh
set_option maxHeartbeats 8000000 in
theorem iputkept_some (S : Nat → Prop) (q : Nat) (a0 a1 a2 a3 a4 : Value) (t : VT) (B : Nat) (v : Value) (l : List UInt8) (w : World) (hS : ∀ b, S b → b < w.heap.size) (hx : Box w q a0 a1 a2 a3 a4) (ht : LV w S t (.agg #[a0, a1, a2, a3, a4])) (hc : checkT t = 0 ∧ sizeT t ≤ 9223372036854775807) (h : OwnB w B v l) (hB : B ≤ w.heap.size) (hl : l.length ≤ 140737488340000) :
    Calls Try.prog 36 #[v, .pointer (some ⟨q, 0, none⟩)] w (PutsR B (l ++ markK (some t)) w) := by
  have HH := Lib.hid h
  have HL := Lib.hid hl
  have HB := Lib.hid hB
  have HC := Lib.hid (cencode_any S t _ w hS ht (good_depth hc) hc.2)
  have HZZ := Lib.hid hc.2
  have q0 := hx.c0
  have q1 := hx.c1
  have q2 := hx.c2
  have q3 := hx.c3
  have q4 := hx.c4
  obtain ⟨A, c, rfl⟩ := h.slice
  obtain ⟨m, hm⟩ : ∃ m, m = l.length := ⟨_, rfl⟩
  rw [← hm] at HH ⊢
  clear h hl hB hm ht hx hc hS
  go_enter Try.func36, Try.ntmps36
  go_wp2_with fail
  refine HC.out.mono ?_
  rintro e w1 ⟨v1, rfl, hv1, hb1⟩
  have hb2 := hb1.trans ((below_box (w := w1) (.cells #[.int .u8 1] 5)).mono hb1.size)
  have HV1 := Lib.hid hv1
  have HB2 := Lib.hid (hb2.mono HB.out)
  have HK2 := Lib.hid (k8_below hb2)
  have HO2 := Lib.hid (HH.out.below hb2)
  have HZ2 := Lib.hid (Nat.le_trans HB.out hb2.size)
  obtain ⟨A1, c1, rfl⟩ := hv1.slice
  obtain ⟨m1, hm1⟩ : ∃ m, m = (encO t).length := ⟨_, rfl⟩
  have HM1 := Lib.hid hm1
  have HSZ := Lib.hid hb1.size
  rw [← hm1] at HV1 ⊢
  clear hv1 hb1 hb2 HC hm1 q0 q1 q2 q3 q4
  go_wp2_with (at_builtin; go_must (refine wpList_append_bytes rfl _ _ rfl B _ l rfl HO2.out _ (.slice (some ⟨w1.heap.size, 0, none⟩) 1 1) [1] rfl (Rd.one' rfl 1 rfl) HZ2.out (by have := HL.out; simp only [List.length_cons, List.length_nil]; omega) ?_))
  intro v3 w3 hv3 hg3
  have hk3 := k8_grown HO2.out hg3
  have HB3 := Lib.hid (below_own HB2.out HO2.out HZ2.out hg3)
  have HK3 := Lib.hid (HK2.out.trans hk3)
  have HO3 := Lib.hid hv3
  have HR3 := Lib.hid (ownB_apart HV1.out (fun k hk => (World.ownsRow.lt HH.out k hk).2) (below_box (.cells #[.int .u8 1] 5)) hg3)
  have HZ3 := Lib.hid (Nat.le_trans HB.out (Nat.le_trans HSZ.out (Nat.le_trans (by simp) hg3.size)) : B ≤ w3.heap.size)
  clear hv3 hg3 hk3 HH HV1 HB2 HK2 HO2 HZ2
  go_wp2_with (at_builtin; go_must (refine wpList_append_bytes rfl _ _ rfl B _ (l ++ [1]) rfl HO3.out w3.heap.size _ (encO t) rfl HR3.out HZ3.out (by have := HL.out; have := encO_length (t := t) HZZ.out; simp only [List.length_append, List.length_cons, List.length_nil]; omega) ?_))
  intro v4 w4 hv4 hg4
  have HX : Hid (OwnB w4 B v4 (l ++ markK (some t)) ∧ Below B w w4 ∧ K8 w w4) := Lib.hid ⟨hv4, below_own HB3.out HO3.out HZ3.out hg4, HK3.out.trans (k8_grown HO3.out hg4)⟩
  clear hv4 hg4
  go_wp2_with fail
  go_ret
  exact ⟨_, rfl, HX.out⟩
theorem iputkept_any {S : Nat → Prop} {c : Value} {o : Option VT} {B : Nat} {v : Value} {l : List UInt8} {w : World} (hS : ∀ b, S b → b < w.heap.size) (hs : SlotAt w S c o) (hg : ∀ t, o = some t → checkT t = 0 ∧ sizeT t ≤ 9223372036854775807) (h : OwnB w B v l) (hB : B ≤ w.heap.size) (hl : l.length ≤ 140737488340000) :
    Calls Try.prog 36 #[v, c] w (PutsR B (l ++ markK o) w) := by
  cases o with
  | none => have hs : c = .pointer none := hs; subst hs; exact iputkept_none B v l w h hB (by omega)
  | some t =>
    obtain ⟨q, a0, a1, a2, a3, a4, rfl, hx, -, ht⟩ := hs
    exact iputkept_some S q a0 a1 a2 a3 a4 t B v l w hS hx ht (hg t rfl) h hB hl
end Go.Proofs.Ytdggeokpnaopiaa

/- Images: their code, put whole. -/
namespace Go.Proofs.Ytdggeokpnaopiaa
set_option linter.unusedVariables false
set_option linter.unusedSimpArgs false
open Go.RowKit
set_option maxRecDepth 100000
theorem icode_nil (w : World) : Calls Try.prog 17 #[.pointer none] w fun e w' => e = .returned (.slice none 0 0) ∧ w' = w := by
  go_enter Try.func17, Try.ntmps17
  go_wp2_with fail
  go_ret
  exact ⟨rfl, rfl⟩
theorem cell_k8c {w : World} {g i : Nat} {v : Value} {cs : Array Value} {t : TypeId} {fr : Nat × Nat} (hg : w.heap[g]? = some (.cells cs t fr)) (ht : t ≠ 5) (hc : w.cell? ⟨g, i, none⟩ = some v) : ∀ p : LaterR K8 w, p.u.cell? ⟨g, i, none⟩ = some v := fun p => by
  have h1 := p.h g _ hg (fun h => by cases h) (fun c fz h => by injection h with _ h; exact ht h)
  rw [World.cell?_of_block (a := ⟨g, i, none⟩) (h1.trans hg.symm)]
  exact hc
theorem ImAt.slot8 {w : World} {S : Nat → Prop} {g : Nat} {m : ImT} (h : ImAt w S g m) (j : Nat) (hj : j < 64) : ∃ a, (∀ p : LaterR K8 w, p.u.cell? ⟨g, 3 + j, none⟩ = some (.pointer a)) ∧ SlotAt w S (.pointer a) (m.ring j) := by
  obtain ⟨C, h1, h2, h3⟩ := h
  have hs := h3 j (by omega)
  obtain ⟨c, hc⟩ : ∃ c, c = C[j]'(by omega) := ⟨_, rfl⟩
  rw [← hc] at hs
  have hl : ∀ p : LaterR K8 w, p.u.cell? ⟨g, 3 + j, none⟩ = some c := cell_k8 h1 (by decide) (by
    show (imCells m C)[3 + j]? = _
    unfold imCells
    rw [List.getElem?_toArray, show 3 + j = j + 1 + 1 + 1 by omega, List.getElem?_cons_succ, List.getElem?_cons_succ, List.getElem?_cons_succ, List.getElem?_eq_getElem (by omega), hc])
  obtain ⟨a, rfl⟩ : ∃ a, c = .pointer a := by
    have h := hs
    revert h
    generalize m.ring j = o
    intro h
    cases o with
    | none => exact ⟨_, h⟩
    | some x => obtain ⟨q, _, _, _, _, _, h1, -⟩ := h; exact ⟨_, h1⟩
  exact ⟨a, hl, hs⟩
section
variable {w : World} {S : Nat → Prop} {g : Nat} {m : ImT}
set_option maxHeartbeats 16000000 in
theorem icode_any (h : ImAt w S g m) (hf : m.Fine) (hg : m.Good) (hS : ∀ b, S b → b < w.heap.size) : Calls Try.prog 17 #[.pointer (some ⟨g, 0, none⟩)] w (Gives m.code w) := by
  obtain ⟨k, hk⟩ : ∃ n : Nat, m.keep = (n : Int) := ⟨m.keep.toNat, by have := hf.k0; omega⟩
  obtain ⟨b, hb⟩ : ∃ n : Nat, m.base = (n : Int) := ⟨m.base.toNat, by have := hf.b0; omega⟩
  obtain ⟨t, ht⟩ : ∃ n : Nat, m.top = (n : Int) := ⟨m.top.toNat, by have := hf.b0; have := hf.b1; omega⟩
  have hlt := h.lt
  have hk1 : k ≤ 64 := by have := hf.k1; omega
  have hbt : b ≤ t := by have := hf.b1; omega
  have ht1 : t ≤ 4611686018427387904 := by have := hf.t1; omega
  obtain ⟨f, hfi⟩ : ∃ f : Nat, f = max b (t - k) + 1 := ⟨_, rfl⟩
  have HFI := Lib.hid hfi
  have hft : f ≤ t + 1 := by omega
  have hfk : t + 1 - f ≤ k := by omega
  have hmaxf : max m.base (m.top - m.keep) + 1 = (f : Int) := by rw [hk, hb, ht]; omega
  have hcnt : m.cnt = t + 1 - f := by unfold ImT.cnt; rw [hk, hb, ht]; omega
  have HCODE : Hid (m.code = cntI m 3 ++ m.marks f (t + 1 - f)) := Lib.hid (by unfold ImT.code; rw [hcnt, hmaxf]; rfl)
  have HK := Lib.hid hk
  have HT := Lib.hid ht
  have HMF := Lib.hid hmaxf
  have HF := Lib.hid hf
  have HI := Lib.hid h
  have HG := Lib.hid hg
  have HS := Lib.hid hS
  obtain ⟨cx, hcx⟩ : ∃ cs, w.heap[g]? = some (.cells cs 66 (0, 0)) := by
    obtain ⟨C, h1, -⟩ := h
    exact ⟨_, h1⟩
  have z0 := cell_k8c (w := w.drew) (i := 0) hcx (by decide) (show w.drew.cell? ⟨g, 0, none⟩ = some (.int .i64 (k : Int)) from by rw [← hk]; exact h.c0)
  have z1 := cell_k8c (w := w.drew) (i := 1) hcx (by decide) (show w.drew.cell? ⟨g, 1, none⟩ = some (.int .i64 (b : Int)) from by rw [← hb]; exact h.c1)
  have z2 := cell_k8c (w := w.drew) (i := 2) hcx (by decide) (show w.drew.cell? ⟨g, 2, none⟩ = some (.int .i64 (t : Int)) from by rw [← ht]; exact h.c2)
  have HC3 : Hid (cntI m 3 = grpL [k, b, t]) := Lib.hid (by
    have e1 : m.keep.toNat = k := by rw [hk]; rfl
    have e2 : m.base.toNat = b := by rw [hb]; rfl
    have e3 : m.top.toNat = t := by rw [ht]; rfl
    show ((([] : List UInt8) ++ grp m.keep.toNat) ++ grp m.base.toNat) ++ grp m.top.toNat = _
    rw [e1, e2, e3]
    unfold grpL
    simp)
  clear h hf hg hS hk hb ht hcnt hmaxf hfi hcx
  go_enter Try.func17, Try.ntmps17
  go_wp2_with fail
  refine wp_region_OT K8 (fun w => Lib.OthersKept.refl _ _ _) (fun _ _ _ h k => h.trans k) [] (.pure [0, 1, 2, 3, 4, 5, 6, 7, 8, 9, 10, 11] (.step 12 (.step 13 (.free [14] (.tail []))))) (by kernel_rfl) (by kernel_rfl) (fun _ d _ _ _ h => by cases d <;> exact h) ?_
  refine ot_pure ?_
  simp only [atNats, List.filterMap_cons, List.filterMap_nil, List.getElem?_toArray, List.getElem?_cons_succ, List.getElem?_cons_zero]
  show wpQuiet _ _ _ _ [_, _, _, _, _, _, _, _, _, _, _, _] _
  repeat (go_big_quiet_step (fail))
  refine wpQuiet_nil ?_
  clear z0 z1 z2
  refine ot_step rfl (fun K hK => ?_)
  go_simp
  refine hK _ _ (.inr ((Lib.OthersKept.refl _ _ _).alloc _)) ?_
  clear hK K
  refine ot_step rfl (fun K hK => ?_)
  go_simp
  have hb0 : Below w.heap.size w (w.drew.alloc (.cells #[.int .i64 (k : Int), .int .i64 (b : Int), .int .i64 (t : Int)] 3)) := (Below.refl _ _).drew.alloc (Nat.le_refl _) _
  have hp := pputcounts_any w.heap.size w.heap.size 3 [k, b, t] (.slice none 0 0) [] (w.drew.alloc (.cells #[.int .i64 (k : Int), .int .i64 (b : Int), .int .i64 (t : Int)] 3)) (World.ownsRow_nil _ _ _ _) hb0.size (NBox.new w.drew [k, b, t]) (by intro n hn; simp only [List.mem_cons, List.not_mem_nil, or_false] at hn; rcases hn with rfl | rfl | rfl <;> omega) (by simp)
  have HP := Lib.hid hp
  have HB0 := Lib.hid hb0
  clear hp hb0
  refine HP.out.mono ?_
  rintro e wa ⟨va, rfl, hva, hba, hka⟩
  go_simp
  refine hK _ _ (.inr hka) ?_
  clear hK K
  rw [List.nil_append, ← HC3.out] at hva
  have HH : Hid (OwnB wa w.heap.size va (cntI m 3) ∧ Below w.heap.size w wa) := Lib.hid ⟨hva, HB0.out.trans hba⟩
  clear hva hba hka HP HB0
  refine ot_free ?_
  simp only [atNats, List.filterMap_cons, List.filterMap_nil, List.getElem?_toArray, List.getElem?_cons_succ, List.getElem?_cons_zero]
  show wpQuiet _ _ _ _ [_] _
  repeat (go_big_quiet_step (fail))
  refine wpQuiet_nil ?_
  refine ot_end ?_
  have hi1 : ImAt wa S g m := HI.out.below HS.out HH.out.2
  have hfi1 := ifirst_any hi1 HF.out
  rw [HMF.out] at hfi1
  have HFA := Lib.hid hfi1
  clear hi1 hfi1
  go_wp2_with fail
  refine HFA.out.mono ?_
  rintro e w1 ⟨rfl, hb1⟩
  have HX : Hid (OwnB w1 w.heap.size va (cntI m 3 ++ m.marks f 0) ∧ Below w.heap.size w w1) := Lib.hid ⟨by
    have e : cntI m 3 ++ m.marks f 0 = cntI m 3 := by simp [ImT.marks]
    rw [e]; exact HH.out.1.below hb1, HH.out.2.trans (hb1.mono HH.out.2.size)⟩
  clear hb1 HFA HH
  go_wp2_with fail
  go_loopw [3, 4] (fun v i wq => ∃ n : Nat, i = .int .i64 ((f + n : Nat) : Int) ∧ n ≤ t + 1 - f ∧ Hid (OwnB wq w.heap.size v (cntI m 3 ++ m.marks f n) ∧ Below w.heap.size w wq)) (fun _ i _ => t + 1 - (intOf i).toNat)
  case atStart => exact ⟨0, rfl, by omega, HX⟩
  case round =>
    clear HX
    obtain ⟨n, rfl, hn, HH⟩ := hrel
    have hiw : ImAt wr S g m := HI.out.below HS.out HH.out.2
    have z2 := hiw.c2
    rw [HT.out] at z2
    by_cases hlt2 : n < t + 1 - f
    · have hk0 : 0 < k := by omega
      have hpl := iplace_any (w := wr.drew) (hiw.keep rfl fun _ _ => rfl) k (f + n) HK.out hk0 hk1 (by omega)
      have hj : (f + n) % k < 64 := by have := Nat.mod_lt (f + n) hk0; omega
      have hat : m.at (f + n) = m.ring ((f + n) % k) := by unfold ImT.at; rw [HK.out]; rfl
      obtain ⟨j, hjj⟩ : ∃ j, j = (f + n) % k := ⟨_, rfl⟩
      rw [← hjj] at hpl hj hat
      obtain ⟨a, zc, hsl⟩ := ImAt.slot8 (w := wr.drew) (hiw.keep rfl fun _ _ => rfl) j hj
      have hin : ¬ ((64 : Nat) ≤ j) := by omega
      have hil : ((j : Int) < 64) := by omega
      have hi0 : (0 : Int) ≤ (j : Int) := by omega
      have hle : ((f + n : Nat) : Int) ≤ (t : Int) := by omega
      obtain ⟨i, hi⟩ : ∃ i, i = f + n := ⟨_, rfl⟩
      rw [← hi] at hpl hle hat ⊢
      have hmk := marks_small HG.out f n
      have hcn := cntI_small m 3
      have HPK := Lib.hid (iputkept_any (B := w.heap.size) (w := wr.drew) (fun b hb => Nat.lt_of_lt_of_le (HS.out b hb) HH.out.2.size) hsl (fun t h => HG.out j t h) (h := HH.out.1) HH.out.2.size (by rw [List.length_append]; omega))
      have HPL := Lib.hid hpl
      have HAT := Lib.hid hat
      have HII := Lib.hid hi
      clear hpl hat hi hjj hj hsl hmk hcn hiw hk0
      go_wp2_with fail
      refine wp_region_OT K8 (fun w => Lib.OthersKept.refl _ _ _) (fun _ _ _ h k => h.trans k) [] (.pure [0, 1, 2, 3, 5, 6] (.step 4 (.pure [7, 8] (.step 9 (.free [10] (.tail [])))))) (by kernel_rfl) (by kernel_rfl) (fun _ d _ _ _ h => by cases d <;> exact h) ?_
      refine ot_pure ?_
      simp only [atNats, List.filterMap_cons, List.filterMap_nil, List.getElem?_toArray, List.getElem?_cons_succ, List.getElem?_cons_zero]
      show wpQuiet _ _ _ _ [_, _, _, _, _, _] _
      repeat (go_big_quiet_step (fail))
      refine wpQuiet_nil ?_
      refine ot_step rfl (fun K hK => ?_)
      go_simp
      refine HPL.out.mono ?_
      rintro e w2 ⟨rfl, rfl⟩
      go_simp
      refine hK _ _ (.inr (Lib.OthersKept.refl _ _ _)) ?_
      clear hK K
      refine ot_pure ?_
      simp only [atNats, List.filterMap_cons, List.filterMap_nil, List.getElem?_toArray, List.getElem?_cons_succ, List.getElem?_cons_zero]
      show wpQuiet _ _ _ _ [_, _] _
      repeat (go_big_quiet_step (fail))
      refine wpQuiet_nil ?_
      refine ot_step rfl (fun K hK => ?_)
      go_simp
      refine HPK.out.mono ?_
      rintro e w3 ⟨v3, rfl, hv3, hb3, hk3⟩
      go_simp
      refine hK _ _ (.inr hk3) ?_
      clear hK K
      have HX : Hid (OwnB w3 w.heap.size v3 (cntI m 3 ++ m.marks f (n + 1)) ∧ Below w.heap.size w w3) := Lib.hid ⟨by
        rw [marks_succ, ← HII.out, HAT.out, ← List.append_assoc]; exact hv3, HH.out.2.drew.trans hb3⟩
      clear hv3 hb3 hk3 HPK HPL zc
      refine ot_free ?_
      simp only [atNats, List.filterMap_cons, List.filterMap_nil, List.getElem?_toArray, List.getElem?_cons_succ, List.getElem?_cons_zero]
      show wpQuiet _ _ _ _ [_] _
      repeat (go_big_quiet_step (fail))
      refine wpQuiet_nil ?_
      refine ot_end ?_
      go_wp2_with fail
      go_roundw
      case rel => exact ⟨n + 1, by have := HII.out; subst this; go_num, by omega, HX⟩
      case measure => have := HII.out; simp [intOf]; omega
    · obtain rfl : n = t + 1 - f := by omega
      have hle : ¬ (((f + (t + 1 - f) : Nat) : Int) ≤ (t : Int)) := by omega
      clear hiw
      go_wp2_with fail
      go_ret
      refine ⟨_, rfl, ?_, HH.out.2⟩
      rw [HCODE.out]
      exact HH.out.1
end
end Go.Proofs.Ytdggeokpnaopiaa
