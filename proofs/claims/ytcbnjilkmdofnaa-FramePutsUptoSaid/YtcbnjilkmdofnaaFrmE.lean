/- The frame of a body, by the document. -/
import Derived.Test.YtcbnjilkmdofnaaFrmD
namespace Go.Proofs.Ytcbnjilkmdofnaa
set_option linter.unusedVariables false
set_option linter.unusedSimpArgs false
open Go.RowKit

set_option maxHeartbeats 2000000 in
set_option maxRecDepth 100000 in
theorem rframe_any (vb : Value) (l : List UInt8) (w : World) (hl : Rd w w.heap.size vb l) (hn : l.length ≤ 140737488000000) :
    Calls Try.prog 30 #[vb] w (Gives (frameF l) w) := by
  have HL := Lib.hid hl
  obtain ⟨A, cap, rfl⟩ := hl.shapeY
  obtain ⟨n, hn2⟩ : ∃ n, n = l.length := ⟨_, rfl⟩
  have HN2 := Lib.hid hn2
  have hc := rcount_any n w (by omega)
  rw [← hn2] at HL hn ⊢
  have HC := Lib.hid hc
  clear hc hn2 hl
  go_enter Try.func30, Try.ntmps30
  go_wp2_with fail
  refine HC.out.mono ?_
  rintro e w1 ⟨v1, rfl, hv1, hb1⟩
  have HV1 := Lib.hid hv1
  have HB1 := Lib.hid hb1
  have HR1 := Lib.hid (HL.out.keep hb1)
  have hz1 := hb1.size
  have HG := Lib.hid (grp_length n)
  clear hv1 hb1 HC
  go_wp2_with (at_builtin; go_must (refine append_bytesY rfl _ _ rfl w.heap.size _ (grp n) rfl HV1.out _ _ l rfl HR1.out hz1 (by have := HG.out; have := HN2.out; omega) ?_))
  intro v2 w2 hv2 hg2
  have hb2 := below_ownY HB1.out HV1.out hz1 hg2
  have hz2 := hb2.size
  have hh : grp n ++ l = headF l := by unfold headF; rw [HN2.out]
  rw [hh] at hv2
  have hlh : (headF l).length ≤ n + 11 := by have := (grp_length l.length).1; have := HN2.out; unfold headF; rw [List.length_append]; omega
  obtain ⟨h, hh⟩ : ∃ h, h = headF l := ⟨_, rfl⟩
  have HH := Lib.hid hh
  rw [← hh] at hv2 hlh
  have HV2 := Lib.hid hv2
  have HR2 := Lib.hid hv2.rdY
  have HB2 := Lib.hid hb2
  clear hv2 hg2 hb2 hh
  go_wp2_with fail
  refine (rsum_any v2 h _ _ HR2.out (by omega)).mono ?_
  rintro e w' ⟨rfl, rfl⟩
  have hlt := crcOf_lt h
  obtain ⟨q, hq⟩ : ∃ q, q = crcOf h := ⟨_, rfl⟩
  have HQ := Lib.hid hq
  rw [← hq] at hlt ⊢
  clear hq
  go_wp2_with fail
  refine (rfour_any q _ hlt).mono ?_
  rintro e w3 ⟨v3, rfl, hv3, hb3⟩
  have HV3 := Lib.hid (HV2.out.below hb3)
  have HR3 := Lib.hid hv3.rdY
  have HB3 := Lib.hid (HB2.out.trans (hb3.mono hz2))
  have hz3 := HB3.out.size
  have hlo := loB_length 4 q
  clear hv3 hb3
  go_wp2_with (at_builtin; go_must (refine append_bytesY rfl _ _ rfl w.heap.size _ h rfl HV3.out _ _ (loB 4 q) rfl HR3.out hz3 (by omega) ?_))
  intro v4 w4 hv4 hg4
  have HB4 := Lib.hid (below_ownY HB3.out HV3.out hz3 hg4)
  have hf : h ++ loB 4 q = frameF l := by unfold frameF; rw [← HH.out, ← HQ.out]
  rw [hf] at hv4
  have HV4 := Lib.hid hv4
  clear hv4 hg4 hf hlo
  go_wp2_with fail
  go_ret
  exact ⟨v4, rfl, HV4.out, HB4.out⟩
end Go.Proofs.Ytcbnjilkmdofnaa
