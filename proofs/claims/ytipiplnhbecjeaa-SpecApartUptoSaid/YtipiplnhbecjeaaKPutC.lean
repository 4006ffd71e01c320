/- The codes of counts, put behind bytes of the call's own. -/
import Derived.Test.YtipiplnhbecjeaaKKeA
import Derived.Test.YtipiplnhbecjeaaKReg
namespace Go.Proofs.Ytipiplnhbecjeaa
set_option linter.unusedVariables false
set_option linter.unusedSimpArgs false
open Go.RowKit
set_option maxRecDepth 100000
instance k8_inh (w : World) : Inhabited (LaterR K8 w) := ⟨⟨w, Lib.OthersKept.refl _ _ _⟩⟩
theorem cell_k8 {w : World} {g i : Nat} {v : Value} {cs : Array Value} {t : TypeId} {fr : Nat × Nat} (hg : w.heap[g]? = some (.cells cs t fr)) (ht : t ≠ 5) (hc : cs[i]? = some v) : ∀ p : LaterR K8 w, p.u.cell? ⟨g, i, none⟩ = some v := fun p => by
  have h1 := p.h g _ hg (fun h => by cases h) (fun c fz h => by injection h with _ h; exact ht h)
  rw [Go.Joins.cell_of_block h1 i, hc]
/-- Numbers' codes, one behind the other. -/
def grpL (ns : List Nat) : List UInt8 := (ns.map grp).flatten
theorem grpL_take (ns : List Nat) (k : Nat) (h : k < ns.length) : grpL (ns.take (k + 1)) = grpL (ns.take k) ++ grp ns[k] := by
  unfold grpL
  rw [List.take_succ_eq_append_getElem h, List.map_append, List.flatten_append]
  simp
theorem grpL_len : ∀ ns : List Nat, (grpL ns).length ≤ 11 * ns.length
  | [] => by simp [grpL]
  | n :: r => by
    have h := grpL_len r
    have := (grp_length n).1
    unfold grpL at *
    rw [List.map_cons, List.flatten_cons, List.length_append, List.length_cons]
    omega
theorem grpL_len_take (ns : List Nat) (k : Nat) : (grpL (ns.take k)).length ≤ 11 * ns.length := by
  have h := grpL_len (ns.take k)
  have : (ns.take k).length ≤ ns.length := by rw [List.length_take]; omega
  omega
/-- A row of numbers in a block. -/
def NBox (w : World) (g : Nat) (ns : List Nat) : Prop := w.heap[g]? = some (.cells (ns.map fun n : Nat => Value.int .i64 (n : Int)).toArray 3 (0, 0))
theorem NBox.k8 {w w' : World} {g : Nat} {ns : List Nat} (h : NBox w g ns) (hk : K8 w w') : NBox w' g ns := hk g _ h (fun h => by cases h) (fun c fz h => by injection h with _ h; exact absurd h (by decide))
theorem NBox.cell {w : World} {g : Nat} {ns : List Nat} (h : NBox w g ns) (i : Nat) (hi : i < ns.length) : w.cell? ⟨g, i, none⟩ = some (.int .i64 (ns[i] : Int)) := by
  rw [Go.Joins.cell_of_block h i]
  simp [hi]
theorem NBox.new (w : World) (ns : List Nat) : NBox (w.alloc (.cells (ns.map fun n : Nat => Value.int .i64 (n : Int)).toArray 3)) w.heap.size ns := heap_alloc_new w _
set_option maxHeartbeats 4000000 in
theorem pputcounts_any (B g c : Nat) (ns : List Nat) (v : Value) (l : List UInt8) (w : World) (h : OwnB w B v l) (hB : B ≤ w.heap.size) (hg : NBox w g ns) (hn : ∀ n ∈ ns, n ≤ 4611686018427387904) (hl : l.length + 11 * ns.length ≤ 140737488350000) :
    Calls Try.prog 27 #[v, .slice (some ⟨g, 0, none⟩) ns.length c] w (PutsR B (l ++ grpL ns) w) := by
  have HH := Lib.hid h
  have hlen : ns.length ≤ 140737488350000 := by omega
  have HL := Lib.hid hl
  have HB := Lib.hid hB
  have HG := Lib.hid hg
  have HN := Lib.hid hn
  clear h hl hB hg hn
  go_enter Try.func27, Try.ntmps27
  go_wp2_with fail
  go_loopw [0, 11] (fun b i wr => ∃ k : Nat, i = .int .i64 k ∧ k ≤ ns.length ∧ Hid (OwnB wr B b (l ++ grpL (ns.take k))) ∧ Hid (Below B w wr) ∧ Hid (K8 w wr)) (fun _ i _ => ns.length - (intOf i).toNat)
  case atStart => exact ⟨0, rfl, by omega, Lib.hid (by simpa [grpL] using HH.out), Lib.hid (Below.refl _ _), Lib.hid (Lib.OthersKept.refl _ _ _)⟩
  case round =>
    obtain ⟨k, rfl, hk, HO, HW, HK⟩ := hrel
    by_cases hlt : k < ns.length
    · have hcell := (HG.out.k8 HK.out).cell k hlt
      have hnk := HN.out ns[k] (List.getElem_mem hlt)
      have hgt := grpL_take ns k hlt
      have hgl := grpL_len_take ns k
      obtain ⟨n, hn⟩ : ∃ n, n = ns[k] := ⟨_, rfl⟩
      rw [← hn] at hcell hnk hgt
      obtain ⟨y, hy⟩ : ∃ y, y = grpL (ns.take k) := ⟨_, rfl⟩
      rw [← hy] at HO hgt hgl
      have HGT := Lib.hid hgt
      have HGL := Lib.hid hgl
      clear hn hy hgt hgl
      go_wp2_with fail
      refine (count_any (n : Int) _ (by omega)).mono ?_
      rintro e w1 hc
      obtain ⟨v1, rfl, hv1, hb1⟩ : ∃ v, e = .returned (.tuple #[v, .int .i64 0]) ∧ OwnB w1 wr.heap.size v (grp n) ∧ Below wr.heap.size wr w1 := by
        rcases hc with ⟨-, -, v, h1, h2, h3⟩ | ⟨h, -⟩
        · exact ⟨v, h1, by simpa using h2, h3⟩
        · omega
      have hz := HW.out.size
      have HV1 := Lib.hid hv1
      have HB1 := Lib.hid hb1
      have HO1 := Lib.hid (HO.out.below hb1)
      have HZ := Lib.hid (Nat.le_trans HB.out (Nat.le_trans hz hb1.size))
      have HK1 := Lib.hid (HK.out.trans (k8_below hb1))
      have HW1 := Lib.hid (HW.out.trans (hb1.mono (Nat.le_trans HB.out hz)))
      clear hc hv1 hb1 hz
      go_wp2_with (at_builtin; go_must (refine wpList_append_bytes rfl _ _ rfl B _ (l ++ y) rfl HO1.out w1.heap.size _ (grp n) rfl HV1.out.rd HZ.out (by have h1 := HL.out; have h2 := (grp_length n).1; have h3 := HGL.out; rw [List.length_append]; omega) ?_))
      intro v2 w2 hv2 hg2
      have HV2 := Lib.hid (show OwnB w2 B v2 (l ++ (y ++ grp n)) by first | exact hv2 | (rw [← List.append_assoc]; exact hv2))
      have HB2 := Lib.hid (below_own HW1.out HO1.out HZ.out hg2)
      have HK2 := Lib.hid (HK1.out.trans (k8_grown HO1.out hg2))
      clear hv2 hg2
      go_wp2_with fail
      go_roundw
      case rel => exact ⟨k + 1, by go_num, by omega, Lib.hid (by rw [HGT.out]; exact HV2.out), HB2, HK2⟩
      case measure => simp [intOf]; omega
    · have hk2 : k = ns.length := by omega
      subst hk2
      rw [List.take_length] at HO
      clear HG HN
      go_wp2_with fail
      go_ret
      exact ⟨_, rfl, HO.out, HW.out, HK.out⟩
/-- One number, given as the only one. -/
theorem pputone_any (B n : Nat) (v : Value) (l : List UInt8) (w : World) (h : OwnB w B v l) (hB : B ≤ w.heap.size) (hn : n ≤ 4611686018427387904) (hl : l.length ≤ 140737488300000) :
    Calls Try.prog 27 #[v, .slice (some ⟨w.heap.size, 0, none⟩) 1 1] (w.alloc (.cells #[.int .i64 (n : Int)] 3)) (PutsR B (l ++ grp n) w) := by
  have hb0 : Below w.heap.size w (w.alloc (.cells #[.int .i64 (n : Int)] 3)) := (Below.refl _ _).alloc (Nat.le_refl _) _
  have hp := pputcounts_any B w.heap.size 1 [n] v l (w.alloc (.cells #[.int .i64 (n : Int)] 3)) (h.below hb0) (Nat.le_trans hB hb0.size) (NBox.new w [n]) (by intro k hk; simp at hk; omega) (by simp; omega)
  refine hp.mono ?_
  rintro e w' ⟨v', rfl, h1, h2, h3⟩
  have e : grpL [n] = grp n := by unfold grpL; simp
  rw [e] at h1
  exact ⟨v', rfl, h1, (hb0.mono hB).trans h2, (k8_below hb0).trans h3⟩
end Go.Proofs.Ytipiplnhbecjeaa
