/- What must come of every program at the fourth layer, comes. -/
import Derived.Test.YthmgbginelbcoaaPathT
namespace Go.Proofs.Ythmgbginelbcoaa
set_option linter.unusedVariables false
set_option linter.unusedSimpArgs false
open Go.RowKit

/-- A list of texts that lies below the heap's end. -/
def Kp (u : World) (A : Option Addr) (ns : List ByteArray) : Prop := StrsAt u (fun b => b < u.heap.size) A ns
theorem Kp.later {u u' : World} {A : Option Addr} {ns : List ByteArray} (h : Kp u A ns) (hb : Below u.heap.size u u') : Kp u' A ns := by
  have h1 := StrsAt.later h hb
  exact StrsAt.imp h1 fun b hb' => Nat.lt_of_lt_of_le hb' hb.size
theorem kp_lit (u : World) (ns : List ByteArray) (cs : Array Value) (hcs : cs = (ns.map Value.string).toArray) (hs : ∀ s ∈ ns, s.size ≤ 140737488351232) : Kp (u.alloc (.cells cs 9)) (some ⟨u.heap.size, 0, none⟩) ns := by
  subst hcs
  refine fun hp => ⟨u.heap.size, 0, rfl, by simp, fun i hi => ⟨?_, hs _ (List.getElem_mem hi)⟩⟩
  rw [Nat.zero_add, Go.Joins.cell_of_block (heap_alloc_new u _) i]
  simp [hi]
theorem Kp.sizes {u : World} {A : Option Addr} {ns : List ByteArray} (h : Kp u A ns) : ∀ s ∈ ns, s.size ≤ 140737488351232 := fun s hs => by
  obtain ⟨i, hi, rfl⟩ := List.mem_iff_getElem.1 hs
  obtain ⟨_, _, _, _, hc⟩ := h (by omega)
  exact (hc i hi).2
theorem OwnS.opens2 {w : World} {B : Nat} {v : Value} {ns : List ByteArray} (h : OwnS w B v ns) (hs : ∀ s ∈ ns, s.size ≤ 140737488351232) :
    ∃ A c, v = .slice A ns.length c ∧ ns.length ≤ c ∧ (A = none → c = 0) ∧ Kp w A ns := by
  obtain ⟨A, c, rfl, hc, hst⟩ := h.opens hs
  refine ⟨A, c, rfl, hc, fun hA => ?_, hst.imp fun b hb => hb.2⟩
  subst hA
  rcases h.2 with ⟨h1, h0⟩ | ⟨g, cap, cur, h1, -⟩
  · injection h1
  · injection h1 with h1; cases h1
theorem own_none (w : World) (cs : Array Value) (h : cs = #[]) : OwnS (w.alloc (.cells cs 9)) w.heap.size (.slice (some ⟨w.heap.size, 0, none⟩) 0 0) [] := by
  subst h
  exact World.ownsRow_made w #[] 0 (Nat.le_refl _) (by decide) rfl
def sx (l : List UInt8) : ByteArray := ⟨l.toArray⟩
def pP : List ByteArray := [⟨#[97]⟩, ⟨#[48]⟩, ⟨#[98]⟩]
def pJ : List ByteArray := [⟨#[97]⟩, ⟨#[98]⟩, ⟨#[99]⟩]
def pA : List ByteArray := [⟨#[97]⟩]
def pBC : List ByteArray := [⟨#[98]⟩, ⟨#[99]⟩]
def pXY : List ByteArray := [⟨#[120]⟩, ⟨#[121]⟩]
theorem split_p : splitS (⟨#[97, 46, 48, 46, 98]⟩ : ByteArray).data.toList = pP := by kernel_rfl
theorem split_no : mayP (splitS (⟨#[97, 46, 46, 98]⟩ : ByteArray).data.toList) = false := by kernel_rfl
theorem may_p : mayP pP = true := by kernel_rfl
theorem may_j : mayP pJ = true := by kernel_rfl
theorem may_xy : mayP pXY = true := by kernel_rfl
theorem join_xy : bsOf (joinL pXY) = ⟨#[120, 46, 121]⟩ := by kernel_rfl
theorem idx_0 : idxP (⟨#[48]⟩ : ByteArray).data.toList = some 0 := by kernel_rfl
theorem idx_01 : idxP (⟨#[48, 49]⟩ : ByteArray).data.toList = none := by kernel_rfl
theorem beg_ap : begP pA pP = true := by kernel_rfl
theorem beg_pj : begP pP pJ = false := by kernel_rfl
theorem beg_pa : begP pP pA = false := by kernel_rfl
theorem small {ns : List ByteArray} (h : ns.all (fun s => decide (s.size ≤ 100)) = true) : ∀ s ∈ ns, s.size ≤ 140737488351232 := fun s hs => by
  have := List.all_eq_true.1 h s hs
  simp at this; omega

set_option maxHeartbeats 4000000 in
set_option maxRecDepth 100000 in
theorem lives4_any (w : World) : Calls Try.prog 8 #[] w fun e w' => e = .returned (.bool true) ∧ Below w.heap.size w w' := by
  go_enter Try.func8, Try.ntmps8
  go_wp2_with fail
  refine (parse_yes _ _ (by decide) (by rw [split_p]; exact may_p)).mono ?_
  rintro e w1 ⟨A1, c1, rfl, hc1, hs1, hb1⟩
  rw [split_p] at hc1 hs1 ⊢
  have K1 : Hid (Kp w1 A1 pP) := StrsAt.imp hs1 fun b hb => hb.2
  have B1 := Lib.hid hb1
  have C1 := Lib.hid hc1
  clear hs1 hb1 hc1
  go_wp2_with fail
  refine (parse_no _ _ (by decide) split_no).mono ?_
  rintro e w2 ⟨rfl, hb⟩
  have B2 := Lib.hid (grow_trans B1.out hb)
  have K2 := Lib.hid (K1.out.later hb)
  clear hb K1 B1
  go_wp2_with fail
  have hb := below_one w2 (.cells #[.string ⟨#[120]⟩, .string ⟨#[121]⟩] 9)
  have KX := kp_lit w2 pXY #[.string ⟨#[120]⟩, .string ⟨#[121]⟩] rfl (small (by kernel_rfl))
  have B3 := Lib.hid (grow_trans B2.out hb)
  have K3 := Lib.hid (K2.out.later hb)
  clear K2 B2 hb
  refine (text_yes (some ⟨w2.heap.size, 0, none⟩) 2 pXY _ _ KX (fun _ h => h) (Nat.le_refl _) may_xy).mono ?_
  rintro e w3 ⟨rfl, hb⟩
  rw [join_xy]
  have B4 := Lib.hid (grow_trans B3.out hb)
  have K4 := Lib.hid (K3.out.later hb)
  clear K3 B3 hb KX
  go_wp2_with fail
  refine (index_any _ _ (by decide)).mono ?_
  rintro e w4 hi
  unfold IdxR at hi
  rw [idx_0] at hi
  obtain ⟨rfl, hb⟩ := hi
  have B5 := Lib.hid (grow_trans B4.out hb)
  have K5 := Lib.hid (K4.out.later hb)
  clear K4 B4 hb
  go_wp2_with fail
  refine (index_any _ _ (by decide)).mono ?_
  rintro e w5 hi
  unfold IdxR at hi
  rw [idx_01] at hi
  obtain ⟨rfl, hb⟩ := hi
  have B6 := Lib.hid (grow_trans B5.out hb)
  have K6 := Lib.hid (K5.out.later hb)
  clear K5 B5 hb
  go_wp2_with fail
  have KA := kp_lit w5 pA #[.string ⟨#[97]⟩] rfl (small (by kernel_rfl))
  have hba := below_one w5 (.cells #[.string ⟨#[97]⟩] 9)
  have KB := kp_lit (w5.alloc (.cells #[.string ⟨#[97]⟩] 9)) pBC #[.string ⟨#[98]⟩, .string ⟨#[99]⟩] rfl (small (by kernel_rfl))
  have hbb := below_one (w5.alloc (.cells #[.string ⟨#[97]⟩] 9)) (.cells #[.string ⟨#[98]⟩, .string ⟨#[99]⟩] 9)
  have KA2 := KA.later hbb
  have B7 := Lib.hid (grow_trans B6.out (grow_trans hba hbb))
  have K7 := Lib.hid (K6.out.later (grow_trans hba hbb))
  clear K6 B6 hba hbb KA
  obtain ⟨W, hW⟩ : ∃ W, W = (w5.alloc (.cells #[.string ⟨#[97]⟩] 9)).alloc (.cells #[.string ⟨#[98]⟩, .string ⟨#[99]⟩] 9) := ⟨_, rfl⟩
  have hz : (w5.alloc (.cells #[.string ⟨#[97]⟩] 9)).heap.size = w5.heap.size + 1 := by simp
  rw [hz] at KB
  rw [← hW] at B7 K7 KB KA2 ⊢
  clear hW hz
  refine (join_any pJ (some ⟨w5.heap.size, 0, none⟩) (some ⟨w5.heap.size + 1, 0, none⟩) 1 2 pA pBC rfl _ _ _ KA2 KB (fun _ h => h) (fun _ h => h) (by decide) (by decide) (fun h => by cases h) (fun h => by cases h) (small (by kernel_rfl))).mono ?_
  rintro e w7 ⟨hj, -⟩
  obtain ⟨A2, c2, rfl, hc2, hs2, hb⟩ := hj may_j
  have J8 : Hid (Kp w7 A2 pJ) := StrsAt.imp hs2 fun b hb => hb.2
  have C2 := Lib.hid hc2
  have B8 := Lib.hid (grow_trans B7.out hb)
  have K8 := Lib.hid (K7.out.later hb)
  clear hj hc2 hs2 hb K7 B7 KB KA2
  go_wp2_with fail
  have hb := below_one w7 (.cells #[.string ⟨#[97]⟩, .string ⟨#[48]⟩, .string ⟨#[98]⟩] 9)
  have KX := kp_lit w7 pP #[.string ⟨#[97]⟩, .string ⟨#[48]⟩, .string ⟨#[98]⟩] rfl (small (by kernel_rfl))
  have B9 := Lib.hid (grow_trans B8.out hb)
  have K9 := Lib.hid (K8.out.later hb)
  have J9 := Lib.hid (J8.out.later hb)
  clear K8 B8 J8 hb
  refine (rsame_any A1 (some ⟨w7.heap.size, 0, none⟩) c1 3 pP pP _ _ _ K9.out KX (fun _ h => h) (fun _ h => h) (by decide) (by decide)).mono ?_
  rintro e w8 ⟨rfl, hb⟩
  rw [decide_eq_true (rfl : pP = pP)]
  have B10 := Lib.hid (grow_trans B9.out hb)
  have K10 := Lib.hid (K9.out.later hb)
  have J10 := Lib.hid (J9.out.later hb)
  clear K9 B9 J9 hb KX
  go_wp2_with fail
  refine (may_any A1 c1 pP _ _ K10.out (by decide)).mono ?_
  rintro e u ⟨rfl, rfl⟩
  rw [may_p]
  go_wp2_with fail
  have hb := below_one w8 (.cells #[.string ⟨#[97]⟩] 9)
  have KX := kp_lit w8 pA #[.string ⟨#[97]⟩] rfl (small (by kernel_rfl))
  have B11 := Lib.hid (grow_trans B10.out hb)
  have K11 := Lib.hid (K10.out.later hb)
  have J11 := Lib.hid (J10.out.later hb)
  clear K10 B10 J10 hb
  refine (begins_any (some ⟨w8.heap.size, 0, none⟩) A1 1 c1 pA pP _ _ _ KX K11.out (fun _ h => h) (fun _ h => h) (by decide) (by decide) C1.out).mono ?_
  rintro e w9 ⟨rfl, hb⟩
  rw [beg_ap]
  have B12 := Lib.hid (grow_trans B11.out hb)
  have K12 := Lib.hid (K11.out.later hb)
  have J12 := Lib.hid (J11.out.later hb)
  clear K11 B11 J11 hb KX
  go_wp2_with fail
  refine (begins_any A1 A2 c1 c2 pP pJ _ _ _ K12.out J12.out (fun _ h => h) (fun _ h => h) (by decide) (by decide) C2.out).mono ?_
  rintro e w10 ⟨rfl, hb⟩
  rw [beg_pj]
  have B13 := Lib.hid (grow_trans B12.out hb)
  have K13 := Lib.hid (K12.out.later hb)
  clear K12 B12 J12 hb
  go_wp2_with fail
  have hb := below_one w10 (.cells #[.string ⟨#[97]⟩] 9)
  have KX := kp_lit w10 pA #[.string ⟨#[97]⟩] rfl (small (by kernel_rfl))
  have B14 := Lib.hid (grow_trans B13.out hb)
  have K14 := Lib.hid (K13.out.later hb)
  clear K13 B13 hb
  refine (meet_any A1 (some ⟨w10.heap.size, 0, none⟩) c1 1 pP pA _ _ _ K14.out KX (fun _ h => h) (fun _ h => h) (by decide) (by decide) C1.out (by decide)).mono ?_
  rintro e w11 ⟨rfl, hb⟩
  rw [beg_ap, beg_pa]
  have B15 := Lib.hid (grow_trans B14.out hb)
  clear K14 B14 hb KX
  go_wp2_with fail
  go_ret
  exact ⟨rfl, B15.out⟩
end Go.Proofs.Ythmgbginelbcoaa
