/- The entries that come next in any bytes, one behind the other: as the document says. No conditions. -/
import Derived.Test.YtpcdngpppjdgcaaGreatKEnX
import Derived.Test.YtpcdngpppjdgcaaGreatKEnNil
import Derived.Test.YtpcdngpppjdgcaaGreatKCodX
import Derived.Test.YtpcdngpppjdgcaaGreatKEnC
import Derived.SizedLaws
import Derived.ProofKit
import Derived.OpenShut
import Derived.ShutString
import Derived.ChangeOld
import Derived.ChangeMaps5
import Derived.Below
namespace Go.Proofs.YtpcdngpppjdgcaaGreat.EReads
set_option linter.unusedVariables false
set_option linter.unusedSimpArgs false
open Go.ChangeShapes Go.WideShapes Go.ChangeAt Go.RowKit Go.Joins OpenB
set_option linter.unusedVariables false
set_option maxRecDepth 100000
theorem own : ownKnob Tryz.prog.godebug = none := by kernel_rfl
theorem laidOut : laidOutB Tryz.prog = true := by kernel_rfl
theorem fieldE1 (a0 a1 a2 a3 a4 a5 a6 a7 a8 a9 a10 a11 a12 a13 a14 a15 a16 : Value) (w : World) : (Instr.field 28 (.agg #[a0, a1, a2, a3, a4, a5, a6, a7, a8, a9, a10, a11, a12, a13, a14, a15, a16]) 1).run Tryz.prog w = .ok a1 w := by kernel_rfl
theorem left_ofE (st : Option (List UInt8)) : ((leftN st : Nat) : Int) = leftOf st := by cases st <;> rfl
theorem own_zeroF (w : World) : OwnB (w.alloc (.cells #[] 5)) w.heap.size (.slice (some ⟨w.heap.size, 0, none⟩) 0 0) [] := ⟨rfl, .inr ⟨_, 0, #[], rfl, Nat.le_refl _, heap_alloc_new w _, Nat.le_refl _, by decide, rfl, rfl⟩⟩
theorem only_belowF {B g : Nat} {w w' : World} (h : Only w w' g) (hB : B ≤ g) (hz : B ≤ w.heap.size) : Below B w w' := ⟨h.os, h.tape, h.output, h.size, fun k hk => h.block k (by omega) (by rintro ⟨⟩; omega)⟩
set_option maxHeartbeats 16000000 in
theorem walk (A : Option Addr) (cap : Nat) (l : List UInt8) (m : Int) (w : World) (hr : Rd w w.heap.size (.slice A l.length cap) l) (hl : l.length ≤ 140737488351232) (hm1 : -9223372036854775808 ≤ m) (hm2 : m ≤ 9223372036854775807) :
  Calls Tryz.prog 6 #[.slice A l.length cap, .int .i64 m] w fun e w' => e = .returned (.bool true) ∧ Below w.heap.size w w' := by
 obtain ⟨n, hn⟩ : ∃ n, n = l.length := ⟨_, rfl⟩
 have HN := Lib.hid hn
 rw [← hn] at hr hl ⊢
 have HR := Lib.hid hr
 clear hr hn
 go_enter Tryz.func6, Tryz.ntmps6
 by_cases hbig : (n : Int) > 20000
 ·have hbig2 : decide ((n : Int) > 20000) = true := decide_eq_true hbig
  go_wp2_with fail
  refine (lives13_any _).mono ?_
  rintro e v9 ⟨rfl, hb⟩
  have HF := Lib.hid hb
  clear hb
  go_wp2_with fail
  go_ret
  exact ⟨rfl, HF.out⟩
 have hbig2 : decide ((n : Int) > 20000) = false := decide_eq_false hbig
 have hb0 := below_box (w := w) (.cells #[] 5)
 have HO0 := Lib.hid (own_zeroF w)
 have HR0 := Lib.hid (HR.out.keep hb0)
 have HB0 := Lib.hid hb0
 have hz0 := hb0.size
 have hn20 : n ≤ 20000 := by omega
 clear hb0
 go_wp2_with (at_builtin; go_must (refine wpList_append_bytes rfl _ _ rfl w.heap.size _ [] rfl HO0.out _ _ l rfl HR0.out hz0 (by have := HN.out; simp only [List.length_nil]; omega) ?_))
 intro v1 w1 hv1 hg1
 have hb1 := below_own HB0.out HO0.out hz0 hg1
 have HB1 := Lib.hid hb1
 have HD := Lib.hid (from_any v1 _ w1 (show OwnB w1 w.heap.size v1 l from hv1).rdY.strY)
 clear hb1 hv1 hg1 HO0 HR0 HB0
 go_wp2_with fail
 refine HD.out.mono ?_
 rintro e w2 ⟨rfl, hs2, hb2⟩
 have hB2 := HB1.out.trans (hb2.mono HB1.out.size)
 have hs2' : SrcL w2 w1.heap.size (some l) := ⟨hs2, by have := HN.out; omega⟩
 have hg1 : w.heap.size ≤ w1.heap.size := HB1.out.size
 have hg12 : w1.heap.size < w2.heap.size := hs2'.lt
 have hbx := below_box (w := w2) (.cells #[.slice A n cap, .bool false] 47)
 have hB3 := hB2.trans (hbx.mono hB2.size)
 have hs3 := hs2'.alloc (.cells #[.slice A n cap, .bool false] 47)
 have hx3 : RS (w2.alloc (.cells #[.slice A n cap, .bool false] 47)) w2.heap.size w.heap.size (some l) := ⟨_, heap_alloc_new w2 _, HR.out.keep hB3⟩
 have HB3 := Lib.hid hB3
 have HS3 := Lib.hid hs3
 have HX3 := Lib.hid hx3
 clear hB2 hs2 hs2' hb2 hbx hB3 hs3 hx3 HD HB1
 generalize w1.heap.size = g1 at *
 go_wp2_with fail
 generalize w2.alloc (.cells #[.slice A n cap, .bool false] 47) = w3 at *
 generalize w2.heap.size = g2 at *
 refine (lives13_any _).mono ?_
 rintro e w4 ⟨rfl, hb⟩
 have HB4 := Lib.hid (toStart HB3.out hb)
 have HS4 := Lib.hid (HS3.out.of (hb.block g1 HS3.out.lt))
 have HX4 := Lib.hid (HX3.out.keep (hb.block g2 HX3.out.lt) (hb.mono HB3.out.size))
 clear hb HB3 HS3 HX3
 have hg2 : w.heap.size ≤ g2 := by omega
 have hne : g1 ≠ g2 := by omega
 go_wp2_with fail
 go_loopw [7] (fun i wr => ∃ (j : Nat) (r : Option (List UInt8)), i = .int .i64 j ∧ j ≤ 10 ∧ Hid (SrcL wr g1 r) ∧ Hid (RS wr g2 w.heap.size r) ∧ Hid (Below w.heap.size w wr)) (fun i _ => 10 - (intOf i).toNat)
 case atStart => exact ⟨0, some l, rfl, by omega, HS4, HX4, HB4⟩
 case round =>
  obtain ⟨j, r, rfl, hj, HS, HX, HB⟩ := hrel
  clear HS4 HX4 HB4
  by_cases hgo : (j : Int) < m ∧ (j : Int) < 10
  rotate_left
  ·have hend : decide ((j : Int) < m) = false ∨ (decide ((j : Int) < m) = true ∧ decide ((j : Int) < 10) = false) := by
    by_cases h : (j : Int) < m
    ·exact .inr ⟨decide_eq_true h, decide_eq_false (fun h2 => hgo ⟨h, h2⟩)⟩
    ·exact .inl (decide_eq_false h)
   rcases hend with h1 | ⟨h1, h2⟩
   ·have h1' : ¬ (j : Int) < m := of_decide_eq_false h1
    go_wp2_with fail
    refine (eread_nil _).mono ?_
    rintro e v9 ⟨rfl, hb⟩
    have HF := Lib.hid (toStart HB.out hb)
    have fd := fun u : World => fieldE1 (.int .i64 0) (.int .i64 0) (.string ⟨#[]⟩) (.string ⟨#[]⟩) (.int .i64 0) (.int .i64 0) (.string ⟨#[]⟩) (.slice none 0 0) (.slice none 0 0) (.int .i64 0) (.int .i64 0) (.string ⟨#[]⟩) (.slice none 0 0) (.slice none 0 0) (.slice none 0 0) (.int .i64 0) (.int .i64 0) u
    clear hb
    go_wp2_with fail
    go_ret
    exact ⟨by simp, HF.out⟩
   ·have h1' : (j : Int) < m := of_decide_eq_true h1
    have h2' : ¬ (j : Int) < 10 := of_decide_eq_false h2
    go_wp2_with fail
    refine (eread_nil _).mono ?_
    rintro e v9 ⟨rfl, hb⟩
    have HF := Lib.hid (toStart HB.out hb)
    have fd := fun u : World => fieldE1 (.int .i64 0) (.int .i64 0) (.string ⟨#[]⟩) (.string ⟨#[]⟩) (.int .i64 0) (.int .i64 0) (.string ⟨#[]⟩) (.slice none 0 0) (.slice none 0 0) (.int .i64 0) (.int .i64 0) (.string ⟨#[]⟩) (.slice none 0 0) (.slice none 0 0) (.slice none 0 0) (.int .i64 0) (.int .i64 0) u
    clear hb
    go_wp2_with fail
    go_ret
    exact ⟨by simp, HF.out⟩
  obtain ⟨hgo1, hgo2⟩ := hgo
  have hgo3 : decide ((j : Int) < m) = true := decide_eq_true hgo1
  have hgo4 : decide ((j : Int) < 10) = true := decide_eq_true hgo2
  go_wp2_with fail
  refine (eread_any g1 r _ HS.out).mono ?_
  rintro e w5 ⟨cs, rfl, hva, hs5, ho5⟩
  have hzr : w.heap.size ≤ wr.heap.size := HB.out.size
  have hb5 := only_belowF ho5 hg1 hzr
  have HX5 := Lib.hid (HX.out.keep (ho5.block g2 HX.out.lt (by rintro ⟨⟩; exact hne rfl)) hb5)
  have HB5 := Lib.hid (HB.out.trans hb5)
  have HS5 := Lib.hid hs5
  have hz5 : wr.heap.size ≤ w5.heap.size := ho5.size
  obtain ⟨t, ht⟩ : ∃ t, t = (rdE r).1 := ⟨_, rfl⟩
  obtain ⟨r2, hr2⟩ : ∃ r2, r2 = (rdE r).2 := ⟨_, rfl⟩
  have HT := Lib.hid (And.intro ht hr2)
  rw [← ht] at hva
  have HVA := Lib.hid (hva.imp (S' := fun b => wr.heap.size ≤ b ∧ b < w5.heap.size) fun b hb => hb)
  have hgr1 : g1 < wr.heap.size := HS.out.lt
  have hgr2 : g2 < wr.heap.size := HX.out.lt
  clear hs5 ho5 hb5 HS HX HB ht hr2
  go_wp2_with fail
  refine (r13read_any g2 w.heap.size r _ HX5.out hg2).mono ?_
  rintro e w6 ⟨ds, rfl, hvb, hs6, ho6⟩
  have hz6 : w5.heap.size ≤ w6.heap.size := ho6.size
  have hb6 := only_belowF ho6 hg2 (by omega)
  have hS6 := HS5.out.of (ho6.block g1 HS5.out.lt (by rintro ⟨⟩; exact hne rfl))
  have hva6 := HVA.out.keep (w' := w6) fun b hb => ho6.block b hb.2 (by rintro ⟨⟩; omega)
  rw [← HT.out.1] at hvb
  rw [← HT.out.2] at hS6 hs6
  have HA6 := Lib.hid (hva6.imp (S' := fun b => b < w6.heap.size) fun b hb => by have := hb.2; omega)
  have HV6 := Lib.hid (hvb.imp (S' := fun b => b < w6.heap.size) fun b hb => hb.2)
  have HS6 := Lib.hid hS6
  have HX6 := Lib.hid hs6
  have HB6 := Lib.hid (HB5.out.trans hb6)
  clear hs6 ho6 hvb hva hva6 hb6 hS6 HX5 HS5 HB5 HVA HT
  obtain ⟨IA, ic, IA', ic', DA, dc, DA', dc', LA, lc, rfl, -⟩ := HA6.out.at
  obtain ⟨JA, jc, JA', jc', FA, fc, FA', fc', MA, mc, rfl, -⟩ := HV6.out.at
  have hq1 : ((w6.alloc (.cells #[.int .i64 0, .int .i64 0, .string ⟨#[]⟩, .string ⟨#[]⟩, .int .i64 0, .int .i64 0, .string ⟨#[]⟩, .slice none 0 0, .slice none 0 0, .int .i64 0, .int .i64 0, .string ⟨#[]⟩, .slice none 0 0, .slice none 0 0, .slice none 0 0, .int .i64 0, .int .i64 0] 28)).alloc (.cells #[.int .i64 0, .int .i64 0, .string ⟨#[]⟩, .string ⟨#[]⟩, .int .i64 0, .int .i64 0, .string ⟨#[]⟩, .slice none 0 0, .slice none 0 0, .int .i64 0, .int .i64 0, .string ⟨#[]⟩, .slice none 0 0, .slice none 0 0, .slice none 0 0, .int .i64 0, .int .i64 0] 28)).heap[w6.heap.size]? = some (.cells #[.int .i64 0, .int .i64 0, .string ⟨#[]⟩, .string ⟨#[]⟩, .int .i64 0, .int .i64 0, .string ⟨#[]⟩, .slice none 0 0, .slice none 0 0, .int .i64 0, .int .i64 0, .string ⟨#[]⟩, .slice none 0 0, .slice none 0 0, .slice none 0 0, .int .i64 0, .int .i64 0] 28 (0, 0)) := (Below.heap_alloc _ _ _ (by simp)).trans (heap_alloc_new w6 _)
  have hq2 : ((w6.alloc (.cells #[.int .i64 0, .int .i64 0, .string ⟨#[]⟩, .string ⟨#[]⟩, .int .i64 0, .int .i64 0, .string ⟨#[]⟩, .slice none 0 0, .slice none 0 0, .int .i64 0, .int .i64 0, .string ⟨#[]⟩, .slice none 0 0, .slice none 0 0, .slice none 0 0, .int .i64 0, .int .i64 0] 28)).alloc (.cells #[.int .i64 0, .int .i64 0, .string ⟨#[]⟩, .string ⟨#[]⟩, .int .i64 0, .int .i64 0, .string ⟨#[]⟩, .slice none 0 0, .slice none 0 0, .int .i64 0, .int .i64 0, .string ⟨#[]⟩, .slice none 0 0, .slice none 0 0, .slice none 0 0, .int .i64 0, .int .i64 0] 28)).heap[w6.heap.size + 1]? = some (.cells #[.int .i64 0, .int .i64 0, .string ⟨#[]⟩, .string ⟨#[]⟩, .int .i64 0, .int .i64 0, .string ⟨#[]⟩, .slice none 0 0, .slice none 0 0, .int .i64 0, .int .i64 0, .string ⟨#[]⟩, .slice none 0 0, .slice none 0 0, .slice none 0 0, .int .i64 0, .int .i64 0] 28 (0, 0)) := by
   have h := heap_alloc_new (w6.alloc (.cells #[.int .i64 0, .int .i64 0, .string ⟨#[]⟩, .string ⟨#[]⟩, .int .i64 0, .int .i64 0, .string ⟨#[]⟩, .slice none 0 0, .slice none 0 0, .int .i64 0, .int .i64 0, .string ⟨#[]⟩, .slice none 0 0, .slice none 0 0, .slice none 0 0, .int .i64 0, .int .i64 0] 28)) (.cells #[.int .i64 0, .int .i64 0, .string ⟨#[]⟩, .string ⟨#[]⟩, .int .i64 0, .int .i64 0, .string ⟨#[]⟩, .slice none 0 0, .slice none 0 0, .int .i64 0, .int .i64 0, .string ⟨#[]⟩, .slice none 0 0, .slice none 0 0, .slice none 0 0, .int .i64 0, .int .i64 0] 28)
   rw [heap_alloc_size'] at h
   exact h
  have hqb : Below w6.heap.size w6 ((w6.alloc (.cells #[.int .i64 0, .int .i64 0, .string ⟨#[]⟩, .string ⟨#[]⟩, .int .i64 0, .int .i64 0, .string ⟨#[]⟩, .slice none 0 0, .slice none 0 0, .int .i64 0, .int .i64 0, .string ⟨#[]⟩, .slice none 0 0, .slice none 0 0, .slice none 0 0, .int .i64 0, .int .i64 0] 28)).alloc (.cells #[.int .i64 0, .int .i64 0, .string ⟨#[]⟩, .string ⟨#[]⟩, .int .i64 0, .int .i64 0, .string ⟨#[]⟩, .slice none 0 0, .slice none 0 0, .int .i64 0, .int .i64 0, .string ⟨#[]⟩, .slice none 0 0, .slice none 0 0, .slice none 0 0, .int .i64 0, .int .i64 0] 28)) := (below_box _).alloc (by simp) _
  have HQ := Lib.hid (And.intro hq1 (And.intro hq2 hqb))
  clear hq1 hq2 hqb
  go_wp2_with (first | (refine wpList_store_all (by rfl) _ _ rfl rfl w6.heap.size rfl t IA ic IA' ic' DA dc DA' dc' LA lc rfl HQ.out.1 ?_; intro w7 HK7 HO7; have HQ7 := Lib.hid (And.intro ((HO7.out.1.block (w6.heap.size + 1) (by simp) (by intro e; injection e; omega)).trans HQ.out.2.1) (And.intro (HQ.out.2.2.size) HQ.out.2.2))) | (refine wpList_store_all (by rfl) _ _ rfl rfl (w6.heap.size + 1) rfl t JA jc JA' jc' FA fc FA' fc' MA mc rfl HQ7.out.1 ?_; intro w8 HK8 HO8))
  have hb8 : Below w6.heap.size w6 w8 := by
   have h1 := HQ.out.2.2
   have h2 := HO7.out.1
   have h3 := HO8.out.1
   have h4 := h2.size
   have h5 := h1.size
   exact ⟨h3.os.trans (h2.os.trans h1.os), h3.tape.trans (h2.tape.trans h1.tape), h3.output.trans (h2.output.trans h1.output), by have := h3.size; omega, fun k hk => (h3.block k (by omega) (by intro e; injection e; omega)).trans ((h2.block k (by omega) (by intro e; injection e; omega)).trans (h1.block k hk))⟩
  have HK : Hid (EBox w8 w6.heap.size t IA ic IA' ic' DA dc DA' dc' LA lc) := Lib.hid ((HO8.out.1.block _ (Array.getElem?_eq_some_iff.1 HK7.out).1 (by intro e; injection e; omega)).trans HK7.out)
  have HS8 := Lib.hid (HS6.out.of (hb8.block g1 HS6.out.lt))
  have HX8 := Lib.hid (HX6.out.keep (hb8.block g2 HX6.out.lt) (hb8.mono HB6.out.size))
  have HA8 := Lib.hid ((HA6.out.below (fun _ h => h) hb8).imp (S' := fun b => b < w8.heap.size) fun b hb => Nat.lt_of_lt_of_le hb hb8.size)
  have HV8 := Lib.hid ((HV6.out.below (fun _ h => h) hb8).imp (S' := fun b => b < w8.heap.size) fun b hb => Nat.lt_of_lt_of_le hb hb8.size)
  have HB8 := Lib.hid (HB6.out.trans (hb8.mono HB6.out.size))
  obtain ⟨z1, hz1⟩ : ∃ z, z = w6.heap.size := ⟨_, rfl⟩
  rw [← hz1] at HK HK8 ⊢
  clear hb8 HQ HQ7 HK7 HO7 HO8 HS6 HX6 HA6 HV6 HB6 hz1
  refine wp_region_mix [0, 1, 2, 3, 4, 5, 7, 8, 9, 10, 6, 11, 12, 13, 14, 16, 15, 17, 18, 19] (by kernel_rfl) (by kernel_rfl) (fun _ d _ _ _ h => by cases d <;> exact h) ?_
  simp only [atR]
  have hb : Below w8.heap.size w8 w8.drew := (Below.refl _ _).drew
  have HK := Lib.hid (HK.out.below hb)
  have HJ := Lib.hid (EBox.below HK8.out hb)
  have HPL := Lib.hid ((HA8.out.below (fun _ h => h) hb).imp (S' := fun b => b < w8.drew.heap.size) fun b hb' => Nat.lt_of_lt_of_le hb' hb.size)
  have HQL := Lib.hid ((HV8.out.below (fun _ h => h) hb).imp (S' := fun b => b < w8.drew.heap.size) fun b hb' => Nat.lt_of_lt_of_le hb' hb.size)
  have HS := Lib.hid (HS8.out.of (hb.block g1 HS8.out.lt))
  have HX := Lib.hid (HX8.out.keep (hb.block g2 HX8.out.lt) (hb.mono HB8.out.size))
  have HB := Lib.hid (toStart HB8.out hb)
  clear hb HS8 HX8 HB8 HA8 HV8 HK8
  generalize w8.drew = v0 at *
  first | refine mix_pure ?_ | refine mix_pureB ?_
  simp only [List.takeWhile, List.dropWhile, isPure, Nat.reduceBNe]
  repeat (first | (refine wpQuiet_load_ent rfl (by rfl) _ rfl z1 rfl _ HK.out.later rfl ?_; simp only [acR, Act.put]) | (refine wpQuiet_load_ent rfl (by rfl) _ rfl (z1 + 1) rfl _ HJ.out.later rfl ?_; simp only [acR, Act.put]) | go_big_quiet_step (fail))
  refine wpQuiet_nil ?_
  first | refine mix_call rfl (fun K hK => ?_) | refine mix_callB rfl (fun K hK => ?_)
  go_simp
  refine (same_true HPL.out HQL.out).mono ?_
  rintro e v1 ⟨rfl, hb⟩
  refine hK _ _ hb ?_
  clear hK K
  try simp only [Act.put]
  have HS := Lib.hid (HS.out.of (hb.block g1 HS.out.lt))
  have HX := Lib.hid (HX.out.keep (hb.block g2 HX.out.lt) (hb.mono HB.out.size))
  have HB := Lib.hid (toStart HB.out hb)
  clear hb HPL HQL HK HJ
  have b1 := cell_later (B := v1.heap.size) (w := v1) (rs_c1 HX.out) HX.out.lt
  first | refine mix_pure ?_ | refine mix_pureB ?_
  simp only [List.takeWhile, List.dropWhile, isPure]
  repeat (go_big_quiet_step (fail))
  refine wpQuiet_nil ?_
  clear b1
  first | refine mix_call rfl (fun K hK => ?_) | refine mix_callB rfl (fun K hK => ?_)
  go_simp
  refine (sbad_any g1 r2 v1 HS.out).mono ?_
  rintro e u ⟨rfl, rfl⟩
  refine hK _ _ (Below.refl _ _) ?_
  clear hK K
  try simp only [Act.put]
  first | refine mix_pure ?_ | refine mix_pureB ?_
  simp only [List.takeWhile, List.dropWhile, isPure]
  repeat (go_big_quiet_step (fail))
  refine wpQuiet_nil ?_
  first | refine mix_call rfl (fun K hK => ?_) | refine mix_callB rfl (fun K hK => ?_)
  go_simp
  refine (((cleft_st g1 r2 v1 HS.out).mono fun e u' h' => (⟨by rw [h'.1, left_ofE], h'.2⟩ : e = .returned (.int .i64 (leftOf r2)) ∧ v1 = u'))).mono ?_
  rintro e u ⟨rfl, rfl⟩
  refine hK _ _ (Below.refl _ _) ?_
  clear hK K
  try simp only [Act.put]
  first | refine mix_pure ?_ | refine mix_pureB ?_
  simp only [List.takeWhile, List.dropWhile, isPure]
  repeat (go_big_quiet_step (fail))
  refine wpQuiet_nil ?_
  first | refine mix_call rfl (fun K hK => ?_) | refine mix_callB rfl (fun K hK => ?_)
  go_simp
  refine (rsleft_any g2 _ r2 v1 HX.out).mono ?_
  rintro e u ⟨rfl, rfl⟩
  refine hK _ _ (Below.refl _ _) ?_
  clear hK K
  try simp only [Act.put]
  first | refine mix_pure ?_ | refine mix_pureB ?_
  simp only [List.takeWhile, List.dropWhile, isPure]
  repeat (go_big_quiet_step (fail))
  refine wpQuiet_nil ?_
  unfold wpMix
  go_wp2_with fail
  go_roundw
  case rel => exact ⟨j + 1, r2, by go_num, by omega, HS, HX, HB⟩
  case measure => simp [intOf]; omega

set_option maxRecDepth 100000 in
theorem lifted (os : Os) (started : os.Started) (H : Type) (enc : TypeId × Value → H) :
  ReturnsInHanded {} Tryz.checked os 6 .any (Rows.entryReadsSpec.pre6 enc Tryz.prog Tryz.f6 Rows.entryReadsRow.domain false) (Rows.entryReadsSpec.post enc Tryz.prog Tryz.f6 false true false false) := by
 refine returnsInHanded_of_change_sized (C := Tryz.checked) own started (by kernel_rfl) Tryz.func6
  (ChangeSpec.witness6 (enc := enc) (C := Tryz.checked) false ⟨#[], #[.slice none 0 0, .int .i64 0], []⟩ 8 (by kernel_rfl) (by kernel_rfl) (by kernel_rfl) (by kernel_rfl)) ?_
 intro W base args ds gs before hval0 hW hcnd hsz0 _
 have hval : ∀ (j : Nat) t v, Tryz.f6.params[j]? = some t → args[j]? = some v → Value.okWide Tryz.prog W .any base t v := hval0
 have hsz : (DataW.weightsEach Tryz.prog (Tryz.f6.params.toList ++ Rows.entryReadsSpec.plain.varTypes Tryz.prog) (ds ++ gs)).all (· ≤ reachBytes) = true := hsz0
 have hW' := hW
 obtain ⟨p, q, hA0, hV, rfl, hfz, hnd⟩ := hW
 have hA : DataW.TrodAll enc Tryz.prog W 0 (fun _ => true) true Tryz.f6.params.toList args.toList ds p := hA0
 rw [Tryz.params6] at hA hval hsz
 obtain ⟨v0, v1, d0, d1, p0, p1, rfl, rfl, rfl, h0, h1⟩ := trodAll_two hA
 obtain ⟨rfl, rfl⟩ := trodVars_none hV
 obtain ⟨A0, n0, c0, rfl⟩ := okWide_slice Tryz.underlying35 (hval 0 35 v0 rfl rfl)
 have k0 := h0
 have lt0 : ∀ x ∈ p0, x.block < W.heap.size := by obtain ⟨m, hm⟩ := k0; exact DataW.trod_lt m _ _ _ hm
 obtain ⟨a1, rfl, rfl, rfl, wa1⟩ := open_int Tryz.underlying3 (hval 1 3 v1 rfl rfl) h1
 clear hA0 hval0
 obtain ⟨l0, hll0, hrd0, hln0⟩ : ∃ l : List UInt8, n0 = l.length ∧ Rd W W.heap.size (.slice A0 l.length c0) l ∧ n0 ≤ 140737488351232 := by
  obtain ⟨fuel, hf⟩ := k0
  obtain ⟨⟨l, hll, hrd⟩, hshape⟩ := open_bytes hf
  refine ⟨l, hll, hrd, ?_⟩
  rcases hshape with h0 | ⟨es, rs, hd, hes⟩
  ·omega
  ·simp only [] at hd
   subst hd
   have h3 := sized_slice hsz (j := 0) (t := 35) (e := 5) rfl rfl Tryz.underlying35
   have hb : Tryz.prog.bytesOf 5 = 1 := by kernel_rfl
   rw [hb] at h3
   simp only [reachBytes] at h3
   omega
 subst hll0
 have ha1 := in64_of_wf wa1
 refine (walk A0 c0 l0 a1 W hrd0 hln0 ha1.1 ha1.2).mono fun e W' ⟨he, bel⟩ => ?_
 subst he
 exact ⟨_, rfl, _, _, _, [], _, [], hW', trodAll_mk1 (shut_bool Tryz.underlying4 _), trodAll_mk2 (Below.trod laidOut (by kernel_rfl) (of_decide_eq_true (by kernel_rfl)) k0 bel lt0) (shut_int Tryz.underlying3 wa1), rfl, bel.frame _, fun h => by cases h⟩

theorem proved : Rows.EntryReadsSaid :=
 OpenClaim.holds_of_wide 6 Tryz.f6 rfl rfl rfl rfl rfl rfl rfl ⟨rfl, rfl, rfl, rfl, rfl⟩ rfl rfl rfl rfl rfl (by kernel_rfl) Tryz.func6 (by kernel_rfl)
  (of_decide_eq_true (by kernel_rfl)) (by unfold Func.isWrapper; first | (rw [if_pos (by decide +kernel)]; kernel_rfl) | (rw [if_neg (by decide +kernel)]; exact ⟨rfl, rfl⟩))
  (fun os started H enc _ => lifted os started H enc)

end Go.Proofs.YtpcdngpppjdgcaaGreat.EReads
