/- Whether two entries that may be are the same: as the document says. No conditions. -/
import Derived.Test.YtpcdngpppjdgcaaGreatKEnY
import Derived.SizedLaws
import Derived.ProofKit
import Derived.OpenShut
import Derived.ShutString
import Derived.ChangeOld
import Derived.Below
namespace Go.Proofs.YtpcdngpppjdgcaaGreat.ESames
set_option linter.unusedVariables false
set_option linter.unusedSimpArgs false
open Go.ChangeShapes Go.WideShapes Go.ChangeAt Go.RowKit Go.Joins
set_option linter.unusedVariables false
set_option maxRecDepth 100000
theorem own : ownKnob Tryz.prog.godebug = none := by kernel_rfl
theorem laidOut : laidOutB Tryz.prog = true := by kernel_rfl
theorem same_of {a b : EntT} {r d : Bool} (h : r = true ↔ a = b) (k : d = true ↔ a = b) : r = d := by
  cases r <;> cases d <;> simp_all
set_option maxHeartbeats 32000000 in
theorem walk (a b : EntT) (cs ds : Array Value) (w : World) (h : EntL w (fun b => b < w.heap.size) a cs) (k : EntL w (fun b => b < w.heap.size) b ds) : Calls Tryz.prog 7 #[.agg cs, .agg ds] w fun q w' => q = .returned (.bool true) ∧ Below w.heap.size w w' := by
  have HSMF := Lib.hid (And.intro (fun q => (small_ent h q).1) (fun q => (small_ent k q).1))
  have HFIN := Lib.hid (And.intro (fine_ent h) (fine_ent k))
  obtain ⟨IA, ic, IA', ic', DA, dc, DA', dc', LA, lc, rfl, hat⟩ := h.at
  obtain ⟨JA, jc, JA', jc', FA, fc, FA', fc', MA, mc, rfl, kat⟩ := k.at
  obtain ⟨v1, hv1⟩ : ∃ W, W = w.alloc (.cells #[.int .i64 a.term, .int .i64 a.kind, .string a.coll, .string a.to, .int .i64 a.id.kind, .int .i64 a.id.num, .string a.id.text, .slice IA a.id.items.length ic, .slice IA' a.id.names.length ic', .int .i64 a.doc.kind, .int .i64 a.doc.num, .string a.doc.text, .slice DA a.doc.items.length dc, .slice DA' a.doc.names.length dc', .slice LA a.dels.length lc, .int .i64 a.session, .int .i64 a.number] 28) := ⟨_, rfl⟩
  obtain ⟨w1, hw1⟩ : ∃ W, W = v1.alloc (.cells #[.int .i64 b.term, .int .i64 b.kind, .string b.coll, .string b.to, .int .i64 b.id.kind, .int .i64 b.id.num, .string b.id.text, .slice JA b.id.items.length jc, .slice JA' b.id.names.length jc', .int .i64 b.doc.kind, .int .i64 b.doc.num, .string b.doc.text, .slice FA b.doc.items.length fc, .slice FA' b.doc.names.length fc', .slice MA b.dels.length mc, .int .i64 b.session, .int .i64 b.number] 28) := ⟨_, rfl⟩
  have hb1 : Below w.heap.size w v1 := by rw [hv1]; exact below_box _
  have hb2 : Below v1.heap.size v1 w1 := by rw [hw1]; exact below_box _
  have hz1 : v1.heap.size = w.heap.size + 1 := by rw [hv1]; simp
  have HK : Hid (EBox w1 w.heap.size a IA ic IA' ic' DA dc DA' dc' LA lc) := Lib.hid ((hb2.block _ (by omega)).trans (by rw [hv1]; exact heap_alloc_new w _))
  have HJ : Hid (EBox w1 (w.heap.size + 1) b JA jc JA' jc' FA fc FA' fc' MA mc) := Lib.hid (by rw [← hz1, hw1]; exact heap_alloc_new v1 _)
  have HB : Hid (Below w.heap.size w w1) := Lib.hid (hb1.trans (hb2.mono (by omega)))
  have HA := Lib.hid (hat.up HB.out)
  have HC := Lib.hid (kat.up HB.out)
  clear hb1 hb2 hz1 h k hat kat
  go_enter Tryz.func7, Tryz.ntmps7
  go_wp2_with fail
  rw [← hv1, ← hw1]
  clear hv1 hw1
  have HCL := Lib.hid (r13large_any (fun b => b < w1.heap.size) a _ w1 (fun b hb => hb) HA.out.l)
  go_wp2_with (first | (refine wpList_load_ent (by rfl) _ rfl w.heap.size rfl _ _ HK.out rfl ?_; simp only [Act.put, List.setIfInBounds_toArray, List.set_cons_succ, List.set_cons_zero]) | (refine wpList_load_ent (by rfl) _ rfl (w.heap.size + 1) rfl _ _ HJ.out rfl ?_; simp only [Act.put, List.setIfInBounds_toArray, List.set_cons_succ, List.set_cons_zero]))
  refine HCL.out.mono ?_
  rintro q w2 ⟨rfl, hb⟩
  have HB := Lib.hid (HB.out.trans (hb.mono HB.out.size))
  have HK := Lib.hid (HK.out.below hb)
  have HJ := Lib.hid (HJ.out.below hb)
  have HA := Lib.hid (HA.out.up hb)
  have HC := Lib.hid (HC.out.up hb)
  clear hb HCL
  cases hq : largeE a
  case true =>
    clear hq
    go_wp2_with fail
    refine (lives13_any _).mono ?_
    rintro q v9 ⟨rfl, hb⟩
    have HF := Lib.hid (HB.out.trans (hb.mono HB.out.size))
    clear hb
    go_wp2_with fail
    go_ret
    exact ⟨rfl, HF.out⟩
  have HSA := Lib.hid (HSMF.out.1 hq)
  clear hq
  have HCL := Lib.hid (r13large_any (fun b => b < w2.heap.size) b _ w2 (fun b hb => hb) HC.out.l)
  go_wp2_with (first | (refine wpList_load_ent (by rfl) _ rfl w.heap.size rfl _ _ HK.out rfl ?_; simp only [Act.put, List.setIfInBounds_toArray, List.set_cons_succ, List.set_cons_zero]) | (refine wpList_load_ent (by rfl) _ rfl (w.heap.size + 1) rfl _ _ HJ.out rfl ?_; simp only [Act.put, List.setIfInBounds_toArray, List.set_cons_succ, List.set_cons_zero]))
  refine HCL.out.mono ?_
  rintro q w3 ⟨rfl, hb⟩
  have HB := Lib.hid (HB.out.trans (hb.mono HB.out.size))
  have HK := Lib.hid (HK.out.below hb)
  have HJ := Lib.hid (HJ.out.below hb)
  have HA := Lib.hid (HA.out.up hb)
  have HC := Lib.hid (HC.out.up hb)
  clear hb HCL
  cases hq : largeE b
  case true =>
    clear hq
    go_wp2_with fail
    refine (lives13_any _).mono ?_
    rintro q v9 ⟨rfl, hb⟩
    have HF := Lib.hid (HB.out.trans (hb.mono HB.out.size))
    clear hb
    go_wp2_with fail
    go_ret
    exact ⟨rfl, HF.out⟩
  have HSB := Lib.hid (HSMF.out.2 hq)
  clear hq
  have HCL := Lib.hid (r13may_any (fun b => b < w3.heap.size) a _ w3 (fun b hb => hb) HA.out.l HSA.out)
  go_wp2_with (first | (refine wpList_load_ent (by rfl) _ rfl w.heap.size rfl _ _ HK.out rfl ?_; simp only [Act.put, List.setIfInBounds_toArray, List.set_cons_succ, List.set_cons_zero]) | (refine wpList_load_ent (by rfl) _ rfl (w.heap.size + 1) rfl _ _ HJ.out rfl ?_; simp only [Act.put, List.setIfInBounds_toArray, List.set_cons_succ, List.set_cons_zero]))
  refine HCL.out.mono ?_
  rintro q w4 ⟨rfl, hb⟩
  have HB := Lib.hid (HB.out.trans (hb.mono HB.out.size))
  have HK := Lib.hid (HK.out.below hb)
  have HJ := Lib.hid (HJ.out.below hb)
  have HA := Lib.hid (HA.out.up hb)
  have HC := Lib.hid (HC.out.up hb)
  clear hb HCL
  cases hq : mayE a
  case false =>
    clear hq
    go_wp2_with fail
    refine (lives13_any _).mono ?_
    rintro q v9 ⟨rfl, hb⟩
    have HF := Lib.hid (HB.out.trans (hb.mono HB.out.size))
    clear hb
    go_wp2_with fail
    go_ret
    exact ⟨rfl, HF.out⟩
  have HMA := Lib.hid hq
  clear hq
  have HCL := Lib.hid (r13may_any (fun b => b < w4.heap.size) b _ w4 (fun b hb => hb) HC.out.l HSB.out)
  go_wp2_with (first | (refine wpList_load_ent (by rfl) _ rfl w.heap.size rfl _ _ HK.out rfl ?_; simp only [Act.put, List.setIfInBounds_toArray, List.set_cons_succ, List.set_cons_zero]) | (refine wpList_load_ent (by rfl) _ rfl (w.heap.size + 1) rfl _ _ HJ.out rfl ?_; simp only [Act.put, List.setIfInBounds_toArray, List.set_cons_succ, List.set_cons_zero]))
  refine HCL.out.mono ?_
  rintro q w5 ⟨rfl, hb⟩
  have HB := Lib.hid (HB.out.trans (hb.mono HB.out.size))
  have HK := Lib.hid (HK.out.below hb)
  have HJ := Lib.hid (HJ.out.below hb)
  have HA := Lib.hid (HA.out.up hb)
  have HC := Lib.hid (HC.out.up hb)
  clear hb HCL
  cases hq : mayE b
  case false =>
    clear hq
    go_wp2_with fail
    refine (lives13_any _).mono ?_
    rintro q v9 ⟨rfl, hb⟩
    have HF := Lib.hid (HB.out.trans (hb.mono HB.out.size))
    clear hb
    go_wp2_with fail
    go_ret
    exact ⟨rfl, HF.out⟩
  have HMB := Lib.hid hq
  clear hq
  have HFA := Lib.hid (HFIN.out.1 HSA.out HMA.out)
  have HFB := Lib.hid (HFIN.out.2 HSB.out HMB.out)
  obtain ⟨d, hd⟩ : ∃ d, d = sameC a b := ⟨_, rfl⟩
  have HD1 : Hid (d = true ↔ a = b) := Lib.hid (by rw [hd]; exact sameC_iff HMA.out HMB.out HFA.out HFB.out)
  have HD2 : Hid (sameC b a = d) := Lib.hid (same_of ((sameC_iff HMB.out HMA.out HFB.out HFA.out).trans ⟨Eq.symm, Eq.symm⟩) HD1.out)
  have HD3 : Hid (sameC a a = true) := Lib.hid ((sameC_iff HMA.out HMA.out HFA.out HFA.out).2 rfl)
  have HD0 := Lib.hid hd.symm
  clear hd HSMF HFIN
  go_wp2_with fail
  refine wp_region_mix [0, 1, 2, 3, 5, 6, 4, 7, 8, 9, 10, 11, 12, 14, 15, 13, 16, 17, 18, 19, 20, 21, 22, 23, 24] (by kernel_rfl) (by kernel_rfl) (fun _ d _ _ _ h => by cases d <;> exact h) ?_
  simp only [atR]
  have hb : Below w5.heap.size w5 w5.drew := (Below.refl _ _).drew
  have HB := Lib.hid (HB.out.trans (hb.mono HB.out.size))
  have HK := Lib.hid (HK.out.below hb)
  have HJ := Lib.hid (HJ.out.below hb)
  have HA := Lib.hid (HA.out.up hb)
  have HC := Lib.hid (HC.out.up hb)
  clear hb
  generalize w5.drew = u0 at *
  first | refine mix_call rfl (fun K hK => ?_) | refine mix_callB rfl (fun K hK => ?_)
  go_simp
  refine (lives13_any u0).mono ?_
  rintro q u1 ⟨rfl, hb⟩
  refine hK _ _ (hb) ?_
  clear hK K
  try simp only [Act.put]
  have HB := Lib.hid (HB.out.trans (hb.mono HB.out.size))
  have HK := Lib.hid (HK.out.below hb)
  have HJ := Lib.hid (HJ.out.below hb)
  have HA := Lib.hid (HA.out.up hb)
  have HC := Lib.hid (HC.out.up hb)
  clear hb
  first | refine mix_pure ?_ | refine mix_pureB ?_
  simp only [List.takeWhile, List.dropWhile, isPure, Nat.reduceBNe]
  repeat (first | (refine wpQuiet_load_ent rfl (by rfl) _ rfl w.heap.size rfl _ HK.out.later rfl ?_; simp only [Act.put, List.setIfInBounds_toArray, List.set_cons_succ, List.set_cons_zero]) | (refine wpQuiet_load_ent rfl (by rfl) _ rfl (w.heap.size + 1) rfl _ HJ.out.later rfl ?_; simp only [Act.put, List.setIfInBounds_toArray, List.set_cons_succ, List.set_cons_zero]) | go_big_quiet_step (fail))
  refine wpQuiet_nil ?_
  first | refine mix_call rfl (fun K hK => ?_) | refine mix_callB rfl (fun K hK => ?_)
  go_simp
  refine (esame_any (fun b => b < u1.heap.size) (fun b => b < u1.heap.size) a b _ _ u1 (fun b hb => hb) (fun b hb => hb) HA.out.l HC.out.l HSA.out HSB.out).mono ?_
  rintro q u2 ⟨rfl, hb⟩
  refine hK _ _ (hb) ?_
  clear hK K
  try simp only [Act.put]
  rw [HD0.out]
  have HB := Lib.hid (HB.out.trans (hb.mono HB.out.size))
  have HK := Lib.hid (HK.out.below hb)
  have HJ := Lib.hid (HJ.out.below hb)
  have HA := Lib.hid (HA.out.up hb)
  have HC := Lib.hid (HC.out.up hb)
  clear hb
  first | refine mix_call rfl (fun K hK => ?_) | refine mix_callB rfl (fun K hK => ?_)
  go_simp
  refine (r13same_any (fun b => b < u2.heap.size) a b _ _ u2 (fun b hb => hb) HA.out.l HC.out.l).mono ?_
  rintro q u3 ⟨⟨r, rfl, hr⟩, hb⟩
  refine hK _ _ (hb) ?_
  clear hK K
  try simp only [Act.put]
  obtain rfl := same_of hr HD1.out
  have HB := Lib.hid (HB.out.trans (hb.mono HB.out.size))
  have HK := Lib.hid (HK.out.below hb)
  have HJ := Lib.hid (HJ.out.below hb)
  have HA := Lib.hid (HA.out.up hb)
  have HC := Lib.hid (HC.out.up hb)
  clear hb hr
  have e3 : (r == r) = true := by simp
  first | refine mix_pure ?_ | refine mix_pureB ?_
  simp only [List.takeWhile, List.dropWhile, isPure, Nat.reduceBNe]
  repeat (first | (refine wpQuiet_load_ent rfl (by rfl) _ rfl w.heap.size rfl _ HK.out.later rfl ?_; simp only [Act.put, List.setIfInBounds_toArray, List.set_cons_succ, List.set_cons_zero]) | (refine wpQuiet_load_ent rfl (by rfl) _ rfl (w.heap.size + 1) rfl _ HJ.out.later rfl ?_; simp only [Act.put, List.setIfInBounds_toArray, List.set_cons_succ, List.set_cons_zero]) | go_big_quiet_step (fail))
  refine wpQuiet_nil ?_
  first | refine mix_call rfl (fun K hK => ?_) | refine mix_callB rfl (fun K hK => ?_)
  go_simp
  refine (esame_any (fun b => b < u3.heap.size) (fun b => b < u3.heap.size) b a _ _ u3 (fun b hb => hb) (fun b hb => hb) HC.out.l HA.out.l HSB.out HSA.out).mono ?_
  rintro q u4 ⟨rfl, hb⟩
  refine hK _ _ (hb) ?_
  clear hK K
  try simp only [Act.put]
  rw [HD2.out]
  have HB := Lib.hid (HB.out.trans (hb.mono HB.out.size))
  have HK := Lib.hid (HK.out.below hb)
  have HJ := Lib.hid (HJ.out.below hb)
  have HA := Lib.hid (HA.out.up hb)
  have HC := Lib.hid (HC.out.up hb)
  clear hb
  first | refine mix_call rfl (fun K hK => ?_) | refine mix_callB rfl (fun K hK => ?_)
  go_simp
  refine (r13same_any (fun b => b < u4.heap.size) a b _ _ u4 (fun b hb => hb) HA.out.l HC.out.l).mono ?_
  rintro q u5 ⟨⟨r2, rfl, hr⟩, hb⟩
  refine hK _ _ (hb) ?_
  clear hK K
  try simp only [Act.put]
  obtain rfl := same_of hr HD1.out
  have HB := Lib.hid (HB.out.trans (hb.mono HB.out.size))
  have HK := Lib.hid (HK.out.below hb)
  have HJ := Lib.hid (HJ.out.below hb)
  have HA := Lib.hid (HA.out.up hb)
  have HC := Lib.hid (HC.out.up hb)
  clear hb hr
  first | refine mix_pure ?_ | refine mix_pureB ?_
  simp only [List.takeWhile, List.dropWhile, isPure, Nat.reduceBNe]
  repeat (first | (refine wpQuiet_load_ent rfl (by rfl) _ rfl w.heap.size rfl _ HK.out.later rfl ?_; simp only [Act.put, List.setIfInBounds_toArray, List.set_cons_succ, List.set_cons_zero]) | (refine wpQuiet_load_ent rfl (by rfl) _ rfl (w.heap.size + 1) rfl _ HJ.out.later rfl ?_; simp only [Act.put, List.setIfInBounds_toArray, List.set_cons_succ, List.set_cons_zero]) | go_big_quiet_step (fail))
  refine wpQuiet_nil ?_
  clear e3
  first | refine mix_call rfl (fun K hK => ?_) | refine mix_callB rfl (fun K hK => ?_)
  go_simp
  refine (esame_any (fun b => b < u5.heap.size) (fun b => b < u5.heap.size) a a _ _ u5 (fun b hb => hb) (fun b hb => hb) HA.out.l HA.out.l HSA.out HSA.out).mono ?_
  rintro q u6 ⟨rfl, hb⟩
  refine hK _ _ (hb) ?_
  clear hK K
  try simp only [Act.put]
  rw [HD3.out]
  have HB := Lib.hid (HB.out.trans (hb.mono HB.out.size))
  have HK := Lib.hid (HK.out.below hb)
  have HJ := Lib.hid (HJ.out.below hb)
  have HA := Lib.hid (HA.out.up hb)
  have HC := Lib.hid (HC.out.up hb)
  clear hb
  first | refine mix_pure ?_ | refine mix_pureB ?_
  simp only [List.takeWhile, List.dropWhile, isPure]
  repeat (go_big_quiet_step (fail))
  refine wpQuiet_nil ?_
  unfold wpMix
  go_wp2_with fail
  go_ret
  exact ⟨by simp, HB.out⟩
set_option maxRecDepth 100000 in
theorem lifted (os : Os) (started : os.Started) (H : Type) (enc : TypeId × Value → H) :
    ReturnsInHanded {} Tryz.checked os 7 .any (Rows.entrySamesSpec.pre6 enc Tryz.prog Tryz.f7 Rows.entrySamesRow.domain false) (Rows.entrySamesSpec.post enc Tryz.prog Tryz.f7 false true false false) := by
  refine returnsInHanded_of_change_sized (C := Tryz.checked) own started (by kernel_rfl) Tryz.func7
    (ChangeSpec.witness6 (enc := enc) (C := Tryz.checked) false ⟨#[], #[.agg #[.int .i64 0, .int .i64 0, .string ByteArray.empty, .string ByteArray.empty, .int .i64 0, .int .i64 0, .string ByteArray.empty, .slice none 0 0, .slice none 0 0, .int .i64 0, .int .i64 0, .string ByteArray.empty, .slice none 0 0, .slice none 0 0, .slice none 0 0, .int .i64 0, .int .i64 0], .agg #[.int .i64 0, .int .i64 0, .string ByteArray.empty, .string ByteArray.empty, .int .i64 0, .int .i64 0, .string ByteArray.empty, .slice none 0 0, .slice none 0 0, .int .i64 0, .int .i64 0, .string ByteArray.empty, .slice none 0 0, .slice none 0 0, .slice none 0 0, .int .i64 0, .int .i64 0]], []⟩ 8 (by kernel_rfl) (by kernel_rfl) (by kernel_rfl) (by kernel_rfl)) ?_
  intro W base args ds gs before hval0 hW hcnd hsz0 _
  have hval : ∀ (j : Nat) t v, Tryz.f7.params[j]? = some t → args[j]? = some v → Value.okWide Tryz.prog W .any base t v := hval0
  have hsz : (DataW.weightsEach Tryz.prog (Tryz.f7.params.toList ++ Rows.entrySamesSpec.plain.varTypes Tryz.prog) (ds ++ gs)).all (· ≤ reachBytes) = true := hsz0
  have hW' := hW
  obtain ⟨p, q, hA0, hV, rfl, hfz, hnd⟩ := hW
  have hA : DataW.TrodAll enc Tryz.prog W 0 (fun _ => true) true Tryz.f7.params.toList args.toList ds p := hA0
  rw [Tryz.params7] at hA hval hsz
  obtain ⟨v0, v1, d0, d1, p0, p1, rfl, rfl, rfl, h0, h1⟩ := trodAll_two hA
  obtain ⟨rfl, rfl⟩ := trodVars_none hV
  obtain ⟨a0, rfl, -⟩ := okWide_struct Tryz.underlying28 (hval 0 28 v0 rfl rfl)
  have k0 := h0
  have lt0 : ∀ x ∈ p0, x.block < W.heap.size := by obtain ⟨m, hm⟩ := k0; exact DataW.trod_lt m _ _ _ hm
  have wt0 : ∀ n ∈ d0.weights Tryz.prog 28, n ≤ reachBytes := fun n hn => by have := List.all_eq_true.1 hsz n (DataW.weights_mem_each (j := 0) rfl rfl n hn); simpa using this
  obtain ⟨a1, rfl, -⟩ := okWide_struct Tryz.underlying28 (hval 1 28 v1 rfl rfl)
  have k1 := h1
  have lt1 : ∀ x ∈ p1, x.block < W.heap.size := by obtain ⟨m, hm⟩ := k1; exact DataW.trod_lt m _ _ _ hm
  have wt1 : ∀ n ∈ d1.weights Tryz.prog 28, n ≤ reachBytes := fun n hn => by have := List.all_eq_true.1 hsz n (DataW.weights_mem_each (j := 1) rfl rfl n hn); simpa using this
  clear hA0 hval0
  obtain ⟨en0, hen0⟩ : ∃ e : EntT, EntL W (fun b => b < W.heap.size) e a0 := by
    obtain ⟨m, hm⟩ := k0
    obtain ⟨s, h3⟩ := open_ent hm wt0
    exact ⟨s, by simpa [Value.cells] using h3⟩
  obtain ⟨en1, hen1⟩ : ∃ e : EntT, EntL W (fun b => b < W.heap.size) e a1 := by
    obtain ⟨m, hm⟩ := k1
    obtain ⟨s, h3⟩ := open_ent hm wt1
    exact ⟨s, by simpa [Value.cells] using h3⟩
  refine (walk en0 en1 a0 a1 W hen0 hen1).mono fun e W' ⟨he, bel⟩ => ?_
  subst he
  exact ⟨_, rfl, _, _, _, [], _, [], hW', trodAll_mk1 (shut_bool Tryz.underlying4 _), trodAll_mk2 (Below.trod laidOut (by kernel_rfl) (of_decide_eq_true (by kernel_rfl)) k0 bel lt0) (Below.trod laidOut (by kernel_rfl) (of_decide_eq_true (by kernel_rfl)) k1 bel lt1), rfl, bel.frame _, fun h => by cases h⟩

theorem proved : Rows.EntrySamesSaid :=
  OpenClaim.holds_of_wide 7 Tryz.f7 rfl rfl rfl rfl rfl rfl rfl ⟨rfl, rfl, rfl, rfl, rfl⟩ rfl rfl rfl rfl rfl (by kernel_rfl) Tryz.func7 (by kernel_rfl)
    (of_decide_eq_true (by kernel_rfl)) (by unfold Func.isWrapper; first | (rw [if_pos (by decide +kernel)]; kernel_rfl) | (rw [if_neg (by decide +kernel)]; exact ⟨rfl, rfl⟩))
    (fun os started H enc _ => lifted os started H enc)

end Go.Proofs.YtpcdngpppjdgcaaGreat.ESames
