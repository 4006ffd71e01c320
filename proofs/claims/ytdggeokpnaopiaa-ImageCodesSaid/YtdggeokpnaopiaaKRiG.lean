/- Images as they should be: the law's own look at them. -/
import Derived.Test.YtdggeokpnaopiaaKRiF
namespace Go.Proofs.Ytdggeokpnaopiaa
set_option linter.unusedVariables false
set_option linter.unusedSimpArgs false
open Go.RowKit
set_option maxRecDepth 100000
section
variable {W w : World} {S S2 : Nat → Prop} {B g x : Nat} {m : ImT} {r : RefI}
/-- Two that were got are the same. -/
theorem got_same {u : World} {S' S'' : Nat → Prop} {t : VT} {va vb : Value} (hs' : ∀ b, S' b → b < u.heap.size) (hs'' : ∀ b, S'' b → b < u.heap.size) (ha : LV u S' t va) (hb : LV u S'' t vb) :
    Calls Try.prog 28 #[va, vb] u fun e u' => e = .returned (.bool true) ∧ Below u.heap.size u u' :=
  (rsame_any (fun b => b < u.heap.size) (depthT t) t t _ _ u (Nat.le_refl _) (fun _ h => h) (ha.imp hs') (hb.imp hs'')).mono fun e u' ⟨⟨r, h1, h2⟩, h3⟩ => ⟨by rw [h1, h2.2 rfl], h3⟩
set_option maxHeartbeats 16000000 in
theorem looks_any (hm : ImAt w S g m) (hmf : m.Fine) (hr : RIAt w S2 B x r) (hrf : r.Fine) (hS : ∀ b, S b → b < w.heap.size) (hS2 : ∀ b, S2 b → b < w.heap.size) (ha : AgI m r) (i : Int) (hi : -9223372036854775808 ≤ i ∧ i ≤ 9223372036854775807) :
    Calls Try.prog 20 #[.pointer (some ⟨g, 0, none⟩), .pointer (some ⟨x, 0, none⟩), .int .i64 i] w fun e w' => e = .returned (.bool true) ∧ Below w.heap.size w w' := by
  have HM := Lib.hid hm
  have HMF := Lib.hid hmf
  have HR := Lib.hid hr
  have HRF := Lib.hid hrf
  have HS := Lib.hid hS
  have HS2 := Lib.hid hS2
  have HI := Lib.hid hi
  obtain ⟨T, hT⟩ : ∃ t, t = r.top := ⟨_, rfl⟩
  have hTT : 0 ≤ T ∧ T ≤ 2199024255552 := by have := hrf.n; have := hrf.b0; have := hrf.b1; rw [hT]; unfold RefI.top; omega
  have HTOP : Hid (∀ W, RIAt W S2 B x r → Calls Try.prog 12 #[.pointer (some ⟨x, 0, none⟩)] W fun e w' => e = .returned (.int .i64 T) ∧ Below W.heap.size W w') := Lib.hid fun W hW => by rw [hT]; exact rtop16_any hW hrf
  have HTOPM : Hid (∀ W, ImAt W S g m → Calls Try.prog 29 #[.pointer (some ⟨g, 0, none⟩)] W fun e w' => e = .returned (.int .i64 T) ∧ w' = W) := Lib.hid fun W hW => by rw [hT, ← ha.top]; exact itop_any hW
  have HGM : Hid (∀ W j, Below w.heap.size w W → ∃ G : VT × Int × Int, Calls Try.prog 27 #[.pointer (some ⟨g, 0, none⟩), .int .i64 j] W (GotR W G) ∧ (-9223372036854775808 ≤ j ∧ j ≤ 9223372036854775807 → ∀ W', Below w.heap.size w W' → Calls Try.prog 40 #[.pointer (some ⟨x, 0, none⟩), .int .i64 j] W' (GotS W' S2 G))) := Lib.hid fun W j hb =>
    ⟨m.got j, iget_any (hm.below hS hb) hmf (fun b h => Nat.lt_of_lt_of_le (hS b h) hb.size) j, fun hj W' hb' => by rw [ha.got hrf j]; exact rget16_any (hr.below hS2 hb') hrf (fun b h => Nat.lt_of_lt_of_le (hS2 b h) hb'.size) j hj⟩
  obtain ⟨t0, t1⟩ := hTT
  clear hm hmf hr hrf hS hS2 ha hi hT
  go_enter Try.func20, Try.ntmps20
  go_wp2_with fail
  refine (HTOPM.out _ HM.out).mono ?_
  rintro e w1 ⟨rfl, rfl⟩
  go_wp2_with fail
  refine (HTOP.out _ HR.out).mono ?_
  rintro e w2 ⟨rfl, hb2⟩
  have HB2 := Lib.hid hb2
  clear hb2
  go_wp2_with fail
  refine (HTOP.out _ (HR.out.below HS2.out HB2.out)).mono ?_
  rintro e w3 ⟨rfl, hb3⟩
  have HB3 := Lib.hid (HB2.out.trans (hb3.mono HB2.out.size))
  clear hb3 HB2
  go_wp2_with fail
  go_loopw [7, 8, 9, 10, 11, 12, 13] (fun j _ _ _ _ _ _ wr => ∃ k : Nat, j = .int .i64 (T - 70 + k) ∧ k ≤ 72 ∧ Hid (Below w1.heap.size w1 wr)) (fun j _ _ _ _ _ _ _ => (T + 2 - intOf j).toNat)
  case atStart => exact ⟨0, by go_num, by omega, HB3⟩
  case round =>
    clear HB3
    obtain ⟨k, rfl, hk, HB⟩ := hrel
    go_wp2_with fail
    refine (HTOP.out _ (HR.out.below HS2.out HB.out)).mono ?_
    rintro e w4 ⟨rfl, hb4⟩
    have HB4 := Lib.hid (HB.out.trans (hb4.mono HB.out.size))
    clear hb4 HB
    by_cases hlt : k < 72
    · have hle : T - 70 + (k : Int) ≤ T + 1 := by omega
      have hj1 : -9223372036854775808 ≤ T - 70 + (k : Int) ∧ T - 70 + (k : Int) ≤ 9223372036854775807 := by omega
      obtain ⟨j, hjj⟩ : ∃ j, j = T - 70 + (k : Int) := ⟨_, rfl⟩
      rw [← hjj] at hle hj1 ⊢
      have HJ := Lib.hid hjj
      have HJ1 := Lib.hid hj1
      have hwr : wrap64 (j + 1) = j + 1 := by have := HJ.out; unfold wrap64; omega
      clear hjj hj1
      go_wp2_with fail
      obtain ⟨⟨tt, nn, ee⟩, hg1, hg2⟩ := HGM.out w4 j HB4.out
      have HG2 := Lib.hid (hg2 HJ1.out)
      have HG1 : Hid (Calls Try.prog 27 #[.pointer (some ⟨g, 0, none⟩), .int .i64 j] w4 fun e w' => ∃ v, e = .returned (.tuple #[v, .int .i64 nn, .int .i64 ee]) ∧ LV w' (New w4.heap.size w') tt v ∧ Below w4.heap.size w4 w') := Lib.hid hg1
      clear hg1 hg2
      go_wp2_with fail
      refine HG1.out.mono ?_
      rintro e wa ⟨va, rfl, hva, hba⟩
      obtain ⟨A, c, A', c', rfl, -⟩ := hva.shape
      have HBA := Lib.hid (HB4.out.trans (hba.mono HB4.out.size))
      have hxa := Vr.new (fun b hb => hb.2) hva
      have hbb := below_box (w := wa) (.cells #[.int .i64 tt.kind, .int .i64 tt.num, .string tt.text, .slice A tt.items.length c, .slice A' tt.names.length c'] 36)
      have HXA := Lib.hid hxa
      have HBB := Lib.hid (HBA.out.trans (hbb.mono HBA.out.size))
      have HG3 : Hid (Calls Try.prog 40 #[.pointer (some ⟨x, 0, none⟩), .int .i64 j] (wa.alloc (.cells #[.int .i64 tt.kind, .int .i64 tt.num, .string tt.text, .slice A tt.items.length c, .slice A' tt.names.length c'] 36)) fun e w' => ∃ v, e = .returned (.tuple #[v, .int .i64 nn, .int .i64 ee]) ∧ LV w' S2 tt v ∧ Below (wa.alloc (.cells #[.int .i64 tt.kind, .int .i64 tt.num, .string tt.text, .slice A tt.items.length c, .slice A' tt.names.length c'] 36)).heap.size (wa.alloc (.cells #[.int .i64 tt.kind, .int .i64 tt.num, .string tt.text, .slice A tt.items.length c, .slice A' tt.names.length c'] 36)) w') := Lib.hid (HG2.out _ HBB.out)
      clear hva hba hxa hbb HG1 HG2 HBA
      go_wp2_with fail
      refine HG3.out.mono ?_
      rintro e wb ⟨vb, rfl, hvb, hbc⟩
      obtain ⟨D, d, D', d', rfl, -⟩ := hvb.shape
      have hs2 : ∀ b, S2 b → b < wb.heap.size := fun b hb => Nat.lt_of_lt_of_le (HS2.out b hb) (HBB.out.trans (hbc.mono HBB.out.size)).size
      have hxb := Vr.new hs2 hvb
      have hbd := below_box (w := wb) (.cells #[.int .i64 tt.kind, .int .i64 tt.num, .string tt.text, .slice D tt.items.length d, .slice D' tt.names.length d'] 36)
      have hxa2 := (HXA.out.call hbc).call hbd
      have HBD := Lib.hid ((HBB.out.trans (hbc.mono HBB.out.size)).trans (hbd.mono (HBB.out.trans (hbc.mono HBB.out.size)).size))
      have HSM := Lib.hid (got_same hxa2.s hxb.s hxa2.v hxb.v)
      have y0 := hxa2.x.c0
      have y1 := hxa2.x.c1
      have y2 := hxa2.x.c2
      have y3 := hxa2.x.c3
      have y4 := hxa2.x.c4
      have z0 := hxb.x.c0
      have z1 := hxb.x.c1
      have z2 := hxb.x.c2
      have z3 := hxb.x.c3
      have z4 := hxb.x.c4
      clear hvb hbc hs2 hxb hbd hxa2 HXA HG3 HBB
      go_wp2_with fail
      refine HSM.out.mono ?_
      rintro e we ⟨rfl, hbe⟩
      have HBE := Lib.hid (HBD.out.trans (hbe.mono HBD.out.size))
      clear hbe HSM HBD y0 y1 y2 y3 y4 z0 z1 z2 z3 z4
      go_wp2_with fail
      go_roundw
      case rel =>
        have h1 := HJ.out
        have h2 : j + 1 = T - 70 + ((k + 1 : Nat) : Int) := by push_cast; omega
        refine ⟨k + 1, ?_, by omega, HBE⟩
        first | rw [hwr, h2] | rw [h2]
      case measure => have := HJ.out; simp [intOf, hwr]; omega
    · have hle : ¬ (T - 70 + (k : Int) ≤ T + 1) := by omega
      go_wp2_with fail
      obtain ⟨⟨tt, nn, ee⟩, hg1, hg2⟩ := HGM.out w4 i HB4.out
      have HG2 := Lib.hid (hg2 HI.out)
      have HG1 : Hid (Calls Try.prog 27 #[.pointer (some ⟨g, 0, none⟩), .int .i64 i] w4 fun e w' => ∃ v, e = .returned (.tuple #[v, .int .i64 nn, .int .i64 ee]) ∧ LV w' (New w4.heap.size w') tt v ∧ Below w4.heap.size w4 w') := Lib.hid hg1
      clear hg1 hg2
      go_wp2_with fail
      refine HG1.out.mono ?_
      rintro e wa ⟨va, rfl, hva, hba⟩
      obtain ⟨A, c, A', c', rfl, -⟩ := hva.shape
      have HBA := Lib.hid (HB4.out.trans (hba.mono HB4.out.size))
      have hxa := Vr.new (fun b hb => hb.2) hva
      have hbb := below_box (w := wa) (.cells #[.int .i64 tt.kind, .int .i64 tt.num, .string tt.text, .slice A tt.items.length c, .slice A' tt.names.length c'] 36)
      have HXA := Lib.hid hxa
      have HBB := Lib.hid (HBA.out.trans (hbb.mono HBA.out.size))
      have HG3 : Hid (Calls Try.prog 40 #[.pointer (some ⟨x, 0, none⟩), .int .i64 i] (wa.alloc (.cells #[.int .i64 tt.kind, .int .i64 tt.num, .string tt.text, .slice A tt.items.length c, .slice A' tt.names.length c'] 36)) fun e w' => ∃ v, e = .returned (.tuple #[v, .int .i64 nn, .int .i64 ee]) ∧ LV w' S2 tt v ∧ Below (wa.alloc (.cells #[.int .i64 tt.kind, .int .i64 tt.num, .string tt.text, .slice A tt.items.length c, .slice A' tt.names.length c'] 36)).heap.size (wa.alloc (.cells #[.int .i64 tt.kind, .int .i64 tt.num, .string tt.text, .slice A tt.items.length c, .slice A' tt.names.length c'] 36)) w') := Lib.hid (HG2.out _ HBB.out)
      clear hva hba hxa hbb HG1 HG2 HBA
      go_wp2_with fail
      refine HG3.out.mono ?_
      rintro e wb ⟨vb, rfl, hvb, hbc⟩
      obtain ⟨D, d, D', d', rfl, -⟩ := hvb.shape
      have hs2 : ∀ b, S2 b → b < wb.heap.size := fun b hb => Nat.lt_of_lt_of_le (HS2.out b hb) (HBB.out.trans (hbc.mono HBB.out.size)).size
      have hxb := Vr.new hs2 hvb
      have hbd := below_box (w := wb) (.cells #[.int .i64 tt.kind, .int .i64 tt.num, .string tt.text, .slice D tt.items.length d, .slice D' tt.names.length d'] 36)
      have hxa2 := (HXA.out.call hbc).call hbd
      have HBD := Lib.hid ((HBB.out.trans (hbc.mono HBB.out.size)).trans (hbd.mono (HBB.out.trans (hbc.mono HBB.out.size)).size))
      have HSM := Lib.hid (got_same hxa2.s hxb.s hxa2.v hxb.v)
      have y0 := hxa2.x.c0
      have y1 := hxa2.x.c1
      have y2 := hxa2.x.c2
      have y3 := hxa2.x.c3
      have y4 := hxa2.x.c4
      have z0 := hxb.x.c0
      have z1 := hxb.x.c1
      have z2 := hxb.x.c2
      have z3 := hxb.x.c3
      have z4 := hxb.x.c4
      clear hvb hbc hs2 hxb hbd hxa2 HXA HG3 HBB
      go_wp2_with fail
      refine HSM.out.mono ?_
      rintro e we ⟨rfl, hbe⟩
      have HBE := Lib.hid (HBD.out.trans (hbe.mono HBD.out.size))
      clear hbe HSM HBD y0 y1 y2 y3 y4 z0 z1 z2 z3 z4
      go_wp2_with fail
      go_ret
      exact ⟨rfl, HBE.out⟩
end
end Go.Proofs.Ytdggeokpnaopiaa
