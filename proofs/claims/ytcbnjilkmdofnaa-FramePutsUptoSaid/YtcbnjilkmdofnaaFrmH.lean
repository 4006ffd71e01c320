/- Which frames stand, by the document; whether two lists of bodies are the same. -/
import Derived.Test.YtcbnjilkmdofnaaFrmG
import Derived.Test.YtcbnjilkmdofnaaLex
namespace Go.Proofs.Ytcbnjilkmdofnaa
set_option linter.unusedVariables false
set_option linter.unusedSimpArgs false
open Go.RowKit

/-- An answer of bodies in a row of its own, and a number. -/
def ScansR (ls : List (List UInt8)) (n : Nat) (w : World) (e : Ending) (w' : World) : Prop := ∃ v, e = .returned (.tuple #[v, .int .i64 n]) ∧ Bods w' w.heap.size v ls ∧ Below w.heap.size w w'

set_option maxHeartbeats 4000000 in
set_option maxRecDepth 100000 in
theorem rscan_any (v : Value) (l : List UInt8) (bs : List (List UInt8)) (m : Nat) (w : World) (h : Rd w w.heap.size v l) (hl : l.length ≤ 140737488000) (hsc : ScanR l bs m) :
    Calls Try.prog 32 #[v] w (ScansR bs m w) := by
  obtain ⟨A, cap, rfl⟩ := h.shapeY
  have hlc : l.length ≤ cap := by
    obtain ⟨A', cap', hv, h2, _⟩ := h
    injection hv with _ _ e3
    omega
  obtain ⟨ll, hll⟩ : ∃ n, n = l.length := ⟨_, rfl⟩
  have HL := Lib.hid hll
  have H := Lib.hid h
  have HSC := Lib.hid hsc
  rw [← hll] at hl hlc ⊢
  clear h hsc hll
  go_enter Try.func32, Try.ntmps32
  go_wp2_with fail
  go_loopw [4, 5] (fun o i wr => ∃ (at_ : Nat) (ls : List (List UInt8)), i = .int .i64 at_ ∧ at_ ≤ ll ∧ Hid (ls.length ≤ at_) ∧ Hid (Bods wr w.heap.size o ls) ∧ Hid (Below w.heap.size w wr) ∧ Hid (∀ cs n, ScanR (l.drop at_) cs n → bs = ls ++ cs ∧ m = at_ + n)) (fun _ i _ => ll - (intOf i).toNat)
  case atStart => exact ⟨0, [], rfl, by omega, by show 0 ≤ 0; omega, Bods.nil _ _, Below.refl _ _, fun cs n k => by
    obtain ⟨e1, e2⟩ := HSC.out.unique k
    exact ⟨e1, by omega⟩⟩
  case round =>
    obtain ⟨at_, ls, rfl, hat, HLS, HO, HB, HI⟩ := hrel
    have hz := HB.out.size
    have hcut := ((H.out.keep HB.out).upY hz).cutAny (k := at_) (by have := HL.out; omega)
    rw [← HL.out] at hcut
    have HN := Lib.hid (rnext_any _ _ wr hcut (by rw [List.length_drop]; have := HL.out; omega))
    clear hcut
    have hat2 : ∀ c, c = cap → c = at_ → c - at_ = 0 := fun c _ h => by omega
    by_cases hca : cap = at_
    · rw [if_pos hca, hat2 cap rfl hca] at HN
      go_wp2_with fail
      refine HN.out.mono ?_
      rintro e w1 ⟨hb1, hcase⟩
      have hb2 := HB.out.trans (hb1.mono hz)
      have HB2 := Lib.hid hb2
      have hz2 := hb2.size
      rcases hcase with ⟨hno, rfl⟩ | ⟨b, k, v1, hyes, rfl, hv1⟩
      · obtain ⟨e1, e2⟩ := HI.out [] 0 (.stop hno)
        rw [List.append_nil] at e1
        subst e1
        rw [Nat.add_zero] at e2
        have HO2 := Lib.hid (HO.out.below hb1)
        have HE2 := Lib.hid e2
        clear hb1 hb2 hno e2 HN
        go_wp2_with fail
        go_ret2
        exact ⟨_, by rw [HE2.out]; rfl, HO2.out, HB2.out⟩
      · obtain ⟨k1, k2, k3, k4⟩ := nextF_le hyes
        rw [List.length_drop] at k2
        have HO2 := Lib.hid (HO.out.below hb1)
        have hI2 : ∀ cs n, ScanR (l.drop (at_ + k)) cs n → bs = (ls ++ [b]) ++ cs ∧ m = (at_ + k) + n := fun cs n hk => by
          rw [← List.drop_drop] at hk
          obtain ⟨e1, e2⟩ := HI.out _ _ (.step hyes hk)
          exact ⟨by rw [e1]; simp, by omega⟩
        have HI2 := Lib.hid hI2
        have hk2 : k ≤ ll - at_ := by have := HL.out; omega
        exfalso; omega
    · rw [if_neg hca] at HN
      go_wp2_with fail
      refine HN.out.mono ?_
      rintro e w1 ⟨hb1, hcase⟩
      have hb2 := HB.out.trans (hb1.mono hz)
      have HB2 := Lib.hid hb2
      have hz2 := hb2.size
      rcases hcase with ⟨hno, rfl⟩ | ⟨b, k, v1, hyes, rfl, hv1⟩
      · obtain ⟨e1, e2⟩ := HI.out [] 0 (.stop hno)
        rw [List.append_nil] at e1
        subst e1
        rw [Nat.add_zero] at e2
        have HO2 := Lib.hid (HO.out.below hb1)
        have HE2 := Lib.hid e2
        clear hb1 hb2 hno e2 HN
        go_wp2_with fail
        go_ret2
        exact ⟨_, by rw [HE2.out]; rfl, HO2.out, HB2.out⟩
      · obtain ⟨k1, k2, k3, k4⟩ := nextF_le hyes
        rw [List.length_drop] at k2
        have HO2 := Lib.hid (HO.out.below hb1)
        have hI2 : ∀ cs n, ScanR (l.drop (at_ + k)) cs n → bs = (ls ++ [b]) ++ cs ∧ m = (at_ + k) + n := fun cs n hk => by
          rw [← List.drop_drop] at hk
          obtain ⟨e1, e2⟩ := HI.out _ _ (.step hyes hk)
          exact ⟨by rw [e1]; simp, by omega⟩
        have HI2 := Lib.hid hI2
        have hk2 : k ≤ ll - at_ := by have := HL.out; omega
        obtain ⟨X, x, e3⟩ := hv1.rdY.shapeY
        have hvs := hv1.rds
        have hown := fun q hq => World.ownsRow.lt (HO.out).choose_spec.2.1 q hq
        have hbx : Below w1.heap.size w1 (w1.alloc (.cells #[v1] 22)) := (Below.refl _ _).alloc (Nat.le_refl _) _
        have HO3 := Lib.hid (HO2.out.below hbx)
        have hu := (hvs.keep (w' := w1.alloc (.cells #[v1] 22)) fun b hb => hbx.block b hb.2.1).imp (T := fun b => w.heap.size ≤ b ∧ b < (w1.alloc (.cells #[v1] 22)).heap.size ∧ _ ≠ some b) fun b hb => ⟨Nat.le_trans hz hb.1, by simp; omega, fun e => by have := hown b e; omega⟩
        have HU := Lib.hid hu
        have hc0 : (w1.alloc (.cells #[v1] 22)).cell? ⟨w1.heap.size, 0, none⟩ = some v1 := Go.Joins.cell_of_block (heap_alloc_new w1 _) 0
        have HC0 := Lib.hid hc0
        have HBX := Lib.hid (HB2.out.alloc hz2 (.cells #[v1] 22))
        have hls : ls.length ≤ at_ := HLS.out
        clear hb1 hb2 hyes hv1 hI2 hvs hown hbx hu hc0 HN HI
        subst e3
        go_wp2_with (at_builtin; go_must (refine append_body rfl _ _ rfl w.heap.size _ ls rfl HO3.out _ _ b rfl HC0.out HU.out HBX.out.size (by omega) ?_))
        intro v2 w2 hv2 hg2
        have HB3 := Lib.hid (HBX.out.grown hg2 HBX.out.size (fun q hq => ((World.ownsRow.lt (HO3.out).choose_spec.2.1 q hq)).1))
        have HO4 := Lib.hid hv2
        have HLS4 : Hid ((ls ++ [b]).length ≤ at_ + k) := by show _ ≤ _; simp; omega
        clear hv2 hg2
        go_wp2_with fail
        go_roundw
        case rel => exact ⟨at_ + k, ls ++ [b], by go_num, by omega, HLS4, HO4, HB3, HI2⟩
        case measure => simp [intOf]; omega

theorem take_all_eq {a b : List (List UInt8)} {k : Nat} (hl : a.length = b.length) (hk : k = a.length) (h : a.take k = b.take k) : a = b := by
  subst hk
  rw [List.take_of_length_le (Nat.le_refl _), List.take_of_length_le (by omega)] at h
  exact h
theorem take_more_eq {a b : List (List UInt8)} {k : Nat} (h1 : k < a.length) (h2 : k < b.length) (h : a.take k = b.take k) (he : a[k] = b[k]) : a.take (k + 1) = b.take (k + 1) := by
  rw [List.take_succ_eq_append_getElem h1, List.take_succ_eq_append_getElem h2, h, he]

set_option maxHeartbeats 4000000 in
set_option maxRecDepth 100000 in
theorem rsameB_any (A A' : Option Addr) (c c' : Nat) (a b : List (List UInt8)) (B : Nat) (w : World) (hB : B ≤ w.heap.size) (ha : BssAt w B A a) (hb : BssAt w B A' b) (hl : a.length ≤ 9223372036854775000) (hl' : b.length ≤ 9223372036854775000) :
    Calls Try.prog 33 #[.slice A a.length c, .slice A' b.length c'] w fun e w' => e = .returned (.bool (decide (a = b))) ∧ Below w.heap.size w w' := by
  have HA := Lib.hid ha
  have HB := Lib.hid hb
  clear ha hb
  by_cases hlen : a.length = b.length
  rotate_left
  · have hne : decide (a = b) = false := decide_eq_false fun h => hlen (by rw [h])
    rw [hne]
    obtain ⟨n, hn⟩ : ∃ n, n = a.length := ⟨_, rfl⟩
    obtain ⟨m, hm⟩ : ∃ m, m = b.length := ⟨_, rfl⟩
    rw [← hn, ← hm] at hlen ⊢
    have h2 : ((n : Int) != (m : Int)) = true := by simp; omega
    clear HA HB hn hm hne hl hl'
    go_enter Try.func33, Try.ntmps33
    go_wp2_with fail
    go_ret
    exact ⟨rfl, Below.refl _ _⟩
  obtain ⟨n, hn⟩ : ∃ n, n = a.length := ⟨_, rfl⟩
  have hnb : n = b.length := by omega
  have HN := Lib.hid hn
  have HNB := Lib.hid hnb
  rw [← hn]
  rw [← hnb]
  rw [← hn] at hl
  clear hn hnb hlen hl'
  go_enter Try.func33, Try.ntmps33
  go_wp2_with fail
  go_loopw [5] (fun i wr => ∃ k : Nat, i = .int .i64 k ∧ k ≤ n ∧ Hid (Below w.heap.size w wr) ∧ Hid (a.take k = b.take k)) (fun i _ => n - (intOf i).toNat)
  case atStart => exact ⟨0, rfl, by omega, Below.refl _ _, rfl⟩
  case round =>
    obtain ⟨k, rfl, hk, HBL, HE⟩ := hrel
    by_cases hlt : k < n
    · obtain ⟨p1, o1, rfl, hp1, hc1⟩ := HA.out (by have := HN.out; omega)
      obtain ⟨p2, o2, rfl, hp2, hc2⟩ := HB.out (by have := HNB.out; omega)
      have h1 : k < a.length := by have := HN.out; omega
      have h2 : k < b.length := by have := HNB.out; omega
      obtain ⟨v1, c1, r1⟩ := hc1 k h1
      obtain ⟨v2, c2, r2⟩ := hc2 k h2
      obtain ⟨x, hx⟩ : ∃ x, x = a[k] := ⟨_, rfl⟩
      obtain ⟨y, hy⟩ : ∃ y, y = b[k] := ⟨_, rfl⟩
      have HX := Lib.hid hx
      have HY := Lib.hid hy
      rw [← hx] at r1
      rw [← hy] at r2
      have hbl := HBL.out.mono hB
      have d1 : wr.cell? ⟨p1, o1 + k, none⟩ = some v1 := (hbl.cell (p := ⟨p1, o1 + k, none⟩) hp1).trans c1
      have d2 : wr.cell? ⟨p2, o2 + k, none⟩ = some v2 := (hbl.cell (p := ⟨p2, o2 + k, none⟩) hp2).trans c2
      have hz := HBL.out.size
      have q1 := cell_later (B := wr.heap.size) (w := wr.drew) d1 (by show p1 < _; omega)
      have q2 := cell_later (B := wr.heap.size) (w := wr.drew) d2 (by show p2 < _; omega)
      have e1 := run_convY (B := wr.heap.size) (w := wr.drew) (((r1.keep hbl).keep (Below.refl _ wr).drew).upY (by omega))
      have e2 := run_convY (B := wr.heap.size) (w := wr.drew) (((r2.keep hbl).keep (Below.refl _ wr).drew).upY (by omega))
      clear hc1 hc2 c1 c2 r1 r2 hx hy hbl d1 d2 HA HB
      go_wp2_with fail
      refine wp_region_mix [0, 1, 2, 3, 4, 5, 6, 7, 8, 9, 10] (by kernel_rfl) (by kernel_rfl) (fun _ d _ _ _ h => by cases d <;> exact h) ?_
      simp only [atNats, List.filterMap_cons, List.filterMap_nil, List.getElem?_toArray, List.getElem?_cons_succ, List.getElem?_cons_zero]
      first | refine mix_pure ?_ | refine mix_pureB ?_
      simp only [List.takeWhile, List.dropWhile, isPure, Nat.reduceBNe]
      repeat (go_big_quiet_step (fail))
      refine wpQuiet_nil ?_
      unfold wpMix
      clear q1 q2 e1 e2
      by_cases hxy : x = y
      · have ht : (!(x == y)) = false := by rw [hxy]; simp
        have hm : a.take (k + 1) = b.take (k + 1) := take_more_eq h1 h2 HE.out (by rw [← HX.out, ← HY.out]; exact hxy)
        have HM := Lib.hid hm
        first | rw [ht] | skip
        clear hm hxy
        go_wp2_with fail
        go_roundw
        case rel => exact ⟨k + 1, by go_num, by omega, HBL.out.drew, HM⟩
        case measure => simp [intOf]; omega
      · have ht : (!(x == y)) = true := by rw [beq_eq_false_iff_ne.2 hxy]; rfl
        have hne : decide (a = b) = false := decide_eq_false fun h => hxy (by rw [HX.out, HY.out]; simp only [h])
        rw [ht]
        clear hxy
        go_wp2_with fail
        go_ret
        rw [hne]
        exact ⟨rfl, HBL.out.drew⟩
    · have hkn : k = n := by omega
      have heq : decide (a = b) = true := decide_eq_true (take_all_eq (by rw [← HN.out, ← HNB.out]) (by rw [hkn, HN.out]) HE.out)
      go_wp2_with fail
      go_ret
      rw [heq]
      exact ⟨rfl, HBL.out⟩
end Go.Proofs.Ytcbnjilkmdofnaa
