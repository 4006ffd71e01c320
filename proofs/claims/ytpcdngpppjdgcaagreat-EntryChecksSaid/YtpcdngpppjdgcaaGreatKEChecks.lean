/- Which entries may be; a copy; which texts may be names: as the document says. No conditions. -/
import Derived.Test.YtpcdngpppjdgcaaGreatKEnY
import Derived.SizedLaws
import Derived.ProofKit
import Derived.OpenShut
import Derived.ShutString
import Derived.ChangeOld
import Derived.ChangeMaps5
import Derived.Below
namespace Go.Proofs.YtpcdngpppjdgcaaGreat.EChecks
set_option linter.unusedVariables false
set_option linter.unusedSimpArgs false
open Go.ChangeShapes Go.WideShapes Go.ChangeAt Go.RowKit Go.Joins
open Go.ChangeMaps (open_string shut_string)
set_option linter.unusedVariables false
set_option maxRecDepth 100000
theorem own : ownKnob Tryz.prog.godebug = none := by kernel_rfl
theorem laidOut : laidOutB Tryz.prog = true := by kernel_rfl
set_option maxHeartbeats 16000000 in
theorem walk (e : EntT) (cs : Array Value) (s : ByteArray) (w : World) (h : EntL w (fun b => b < w.heap.size) e cs) (hs : s.size ≤ 140737488351232) : Calls Tryz.prog 3 #[.agg cs, .string s] w fun q w' => q = .returned (.bool true) ∧ Below w.heap.size w w' := by
  have HSMF := Lib.hid (small_ent h)
  have HS := Lib.hid hs
  obtain ⟨IA, ic, IA', ic', DA, dc, DA', dc', LA, lc, rfl, hat⟩ := h.at
  obtain ⟨w1, hw1⟩ : ∃ W, W = w.alloc (.cells #[.int .i64 e.term, .int .i64 e.kind, .string e.coll, .string e.to, .int .i64 e.id.kind, .int .i64 e.id.num, .string e.id.text, .slice IA e.id.items.length ic, .slice IA' e.id.names.length ic', .int .i64 e.doc.kind, .int .i64 e.doc.num, .string e.doc.text, .slice DA e.doc.items.length dc, .slice DA' e.doc.names.length dc', .slice LA e.dels.length lc, .int .i64 e.session, .int .i64 e.number] 28) := ⟨_, rfl⟩
  have HK1 : Hid (EBox w1 w.heap.size e IA ic IA' ic' DA dc DA' dc' LA lc) := Lib.hid (by rw [hw1]; exact heap_alloc_new w _)
  have HB1 : Hid (Below w.heap.size w w1) := Lib.hid (by rw [hw1]; exact below_box _)
  have HA1 := Lib.hid (hat.up HB1.out)
  have HLG := Lib.hid (r13large_any (fun b => b < w1.heap.size) e _ w1 (fun b hb => hb) HA1.out.l)
  clear h hat hs
  go_enter Tryz.func3, Tryz.ntmps3
  go_wp2_with fail
  rw [← hw1]
  clear hw1
  go_wp2_with (refine wpList_load_ent (by rfl) _ rfl w.heap.size rfl _ _ HK1.out rfl ?_; simp only [Act.put, List.setIfInBounds_toArray, List.set_cons_succ, List.set_cons_zero])
  refine HLG.out.mono ?_
  rintro q w2 ⟨rfl, hb⟩
  have HB2 := Lib.hid (HB1.out.trans (hb.mono HB1.out.size))
  have HK2 := Lib.hid (HK1.out.below hb)
  have HA2 := Lib.hid (HA1.out.up hb)
  clear hb HLG HB1 HK1 HA1
  cases hlg : largeE e with
  | true =>
    clear hlg
    go_wp2_with fail
    refine (lives13_any _).mono ?_
    rintro q v9 ⟨rfl, hb⟩
    have HF := Lib.hid (HB2.out.trans (hb.mono HB2.out.size))
    clear hb
    go_wp2_with fail
    go_ret
    exact ⟨rfl, HF.out⟩
  | false =>
  have HSM := Lib.hid (HSMF.out hlg)
  clear hlg HSMF
  go_wp2_with fail
  refine wp_region_mix [0, 1, 2, 4, 3, 5, 6, 7, 8, 9, 11, 10, 12, 13, 14, 15, 17, 16, 18, 19, 20, 21] (by kernel_rfl) (by kernel_rfl) (fun _ d _ _ _ h => by cases d <;> exact h) ?_
  simp only [atR]
  have hdr : Below w2.heap.size w2 w2.drew := (Below.refl _ _).drew
  have HB := Lib.hid (HB2.out.trans (hdr.mono HB2.out.size))
  have HK := Lib.hid (HK2.out.below hdr)
  have HA := Lib.hid (HA2.out.up hdr)
  clear hdr HB2 HK2 HA2
  generalize w2.drew = u0 at *
  first | refine mix_call rfl (fun K hK => ?_) | refine mix_callB rfl (fun K hK => ?_)
  go_simp
  refine (lives13_any u0).mono ?_
  rintro q u1 ⟨rfl, hb⟩
  refine hK _ _ (hb) ?_
  clear hK K
  try simp only [Act.put]
  have HB := Lib.hid (HB.out.trans (hb.mono HB.out.size))
  have HK := Lib.hid (HK.out.below hb)
  have HA := Lib.hid (HA.out.up hb)
  clear hb
  first | refine mix_pure ?_ | refine mix_pureB ?_
  simp only [List.takeWhile, List.dropWhile, isPure, Nat.reduceBNe]
  repeat (first | (refine wpQuiet_load_ent rfl (by rfl) _ rfl w.heap.size rfl _ HK.out.later rfl ?_; simp only [Act.put, List.setIfInBounds_toArray, List.set_cons_succ, List.set_cons_zero]) | go_big_quiet_step (fail))
  refine wpQuiet_nil ?_
  first | refine mix_call rfl (fun K hK => ?_) | refine mix_callB rfl (fun K hK => ?_)
  go_simp
  refine (emay_any (fun b => b < u1.heap.size) e _ u1 (fun b hb => hb) HA.out.l HSM.out.1).mono ?_
  rintro q u2 ⟨rfl, hb⟩
  refine hK _ _ (hb) ?_
  clear hK K
  try simp only [Act.put]
  have HB := Lib.hid (HB.out.trans (hb.mono HB.out.size))
  have HK := Lib.hid (HK.out.below hb)
  have HA := Lib.hid (HA.out.up hb)
  clear hb
  first | refine mix_call rfl (fun K hK => ?_) | refine mix_callB rfl (fun K hK => ?_)
  go_simp
  refine (r13may_any (fun b => b < u2.heap.size) e _ u2 (fun b hb => hb) HA.out.l HSM.out.1).mono ?_
  rintro q u3 ⟨rfl, hb⟩
  refine hK _ _ (hb) ?_
  clear hK K
  try simp only [Act.put]
  have HB := Lib.hid (HB.out.trans (hb.mono HB.out.size))
  have HK := Lib.hid (HK.out.below hb)
  have HA := Lib.hid (HA.out.up hb)
  clear hb
  generalize mayE e = m
  have e3 : (m == m) = true := by simp
  first | refine mix_pure ?_ | refine mix_pureB ?_
  simp only [List.takeWhile, List.dropWhile, isPure, Nat.reduceBNe]
  repeat (first | (refine wpQuiet_load_ent rfl (by rfl) _ rfl w.heap.size rfl _ HK.out.later rfl ?_; simp only [Act.put, List.setIfInBounds_toArray, List.set_cons_succ, List.set_cons_zero]) | go_big_quiet_step (fail))
  refine wpQuiet_nil ?_
  clear e3
  first | refine mix_call rfl (fun K hK => ?_) | refine mix_callB rfl (fun K hK => ?_)
  go_simp
  refine (eclone_any (fun b => b < u3.heap.size) e _ u3 (fun b hb => hb) HA.out.l (by have := HSM.out.2; omega)).mono ?_
  rintro q u4 ⟨ds, rfl, hd, hb⟩
  refine hK _ _ (hb) ?_
  clear hK K
  try simp only [Act.put]
  have HB := Lib.hid (HB.out.trans (hb.mono HB.out.size))
  have HK := Lib.hid (HK.out.below hb)
  have HA := Lib.hid (HA.out.up hb)
  have HD := Lib.hid hd
  clear hb hd
  first | refine mix_call rfl (fun K hK => ?_) | refine mix_callB rfl (fun K hK => ?_)
  go_simp
  refine (same_true HD.out HA.out.l).mono ?_
  rintro q u5 ⟨rfl, hb⟩
  refine hK _ _ (hb) ?_
  clear hK K
  try simp only [Act.put]
  have HB := Lib.hid (HB.out.trans (hb.mono HB.out.size))
  have HK := Lib.hid (HK.out.below hb)
  have HA := Lib.hid (HA.out.up hb)
  clear hb HD
  first | refine mix_pure ?_ | refine mix_pureB ?_
  simp only [List.takeWhile, List.dropWhile, isPure]
  repeat (go_big_quiet_step (fail))
  refine wpQuiet_nil ?_
  first | refine mix_call rfl (fun K hK => ?_) | refine mix_callB rfl (fun K hK => ?_)
  go_simp
  refine (ename_any s u5).mono ?_
  rintro q u6 ⟨rfl, hb⟩
  refine hK _ _ (hb) ?_
  clear hK K
  try simp only [Act.put]
  have HB := Lib.hid (HB.out.trans (hb.mono HB.out.size))
  have HK := Lib.hid (HK.out.below hb)
  have HA := Lib.hid (HA.out.up hb)
  clear hb
  first | refine mix_call rfl (fun K hK => ?_) | refine mix_callB rfl (fun K hK => ?_)
  go_simp
  refine (r13name_any s u6 HS.out).mono ?_
  rintro q u7 ⟨rfl, hw⟩
  refine hK _ _ (hw ▸ Below.refl _ _) ?_
  clear hK K
  try simp only [Act.put]
  subst hw
  generalize nameC s = m2
  have e3 : (m2 == m2) = true := by simp
  first | refine mix_pure ?_ | refine mix_pureB ?_
  simp only [List.takeWhile, List.dropWhile, isPure]
  repeat (go_big_quiet_step (fail))
  refine wpQuiet_nil ?_
  unfold wpMix
  go_wp2_with fail
  go_ret
  exact ⟨by simp, HB.out⟩
set_option maxRecDepth 100000 in
theorem lifted (os : Os) (started : os.Started) (H : Type) (enc : TypeId × Value → H) :
    ReturnsInHanded {} Tryz.checked os 3 .any (Rows.entryChecksSpec.pre6 enc Tryz.prog Tryz.f3 Rows.entryChecksRow.domain false) (Rows.entryChecksSpec.post enc Tryz.prog Tryz.f3 false true false false) := by
  refine returnsInHanded_of_change_sized (C := Tryz.checked) own started (by kernel_rfl) Tryz.func3
    (ChangeSpec.witness6 (enc := enc) (C := Tryz.checked) false ⟨#[], #[.agg #[.int .i64 0, .int .i64 0, .string ByteArray.empty, .string ByteArray.empty, .int .i64 0, .int .i64 0, .string ByteArray.empty, .slice none 0 0, .slice none 0 0, .int .i64 0, .int .i64 0, .string ByteArray.empty, .slice none 0 0, .slice none 0 0, .slice none 0 0, .int .i64 0, .int .i64 0], .string ByteArray.empty], []⟩ 8 (by kernel_rfl) (by kernel_rfl) (by kernel_rfl) (by kernel_rfl)) ?_
  intro W base args ds gs before hval0 hW hcnd hsz0 _
  have hval : ∀ (j : Nat) t v, Tryz.f3.params[j]? = some t → args[j]? = some v → Value.okWide Tryz.prog W .any base t v := hval0
  have hsz : (DataW.weightsEach Tryz.prog (Tryz.f3.params.toList ++ Rows.entryChecksSpec.plain.varTypes Tryz.prog) (ds ++ gs)).all (· ≤ reachBytes) = true := hsz0
  have hW' := hW
  obtain ⟨p, q, hA0, hV, rfl, hfz, hnd⟩ := hW
  have hA : DataW.TrodAll enc Tryz.prog W 0 (fun _ => true) true Tryz.f3.params.toList args.toList ds p := hA0
  rw [Tryz.params3] at hA hval hsz
  obtain ⟨v0, v1, d0, d1, p0, p1, rfl, rfl, rfl, h0, h1⟩ := trodAll_two hA
  obtain ⟨rfl, rfl⟩ := trodVars_none hV
  obtain ⟨a0, rfl, -⟩ := okWide_struct Tryz.underlying28 (hval 0 28 v0 rfl rfl)
  have k0 := h0
  have lt0 : ∀ x ∈ p0, x.block < W.heap.size := by obtain ⟨m, hm⟩ := k0; exact DataW.trod_lt m _ _ _ hm
  have wt0 : ∀ n ∈ d0.weights Tryz.prog 28, n ≤ reachBytes := fun n hn => by have := List.all_eq_true.1 hsz n (DataW.weights_mem_each (j := 0) rfl rfl n hn); simpa using this
  obtain ⟨a1, rfl, rfl, rfl, wa1⟩ := open_string Tryz.underlying9 (hval 1 9 v1 rfl rfl) h1
  clear hA0 hval0
  obtain ⟨en0, hen0⟩ : ∃ e : EntT, EntL W (fun b => b < W.heap.size) e a0 := by
    obtain ⟨m, hm⟩ := k0
    obtain ⟨s, h3⟩ := open_ent hm wt0
    exact ⟨s, by simpa [Value.cells] using h3⟩
  have hs1 : a1.size ≤ 140737488351232 := by
    have h3 := sized_string hsz (j := 1) (t := 9) rfl rfl
    simpa [reachBytes] using h3
  refine (walk en0 a0 a1 W hen0 hs1).mono fun e W' ⟨he, bel⟩ => ?_
  subst he
  exact ⟨_, rfl, _, _, _, [], _, [], hW', trodAll_mk1 (shut_bool Tryz.underlying4 _), trodAll_mk2 (Below.trod laidOut (by kernel_rfl) (of_decide_eq_true (by kernel_rfl)) k0 bel lt0) (shut_string Tryz.underlying9 wa1), rfl, bel.frame _, fun h => by cases h⟩

theorem proved : Rows.EntryChecksSaid :=
  OpenClaim.holds_of_wide 3 Tryz.f3 rfl rfl rfl rfl rfl rfl rfl ⟨rfl, rfl, rfl, rfl, rfl⟩ rfl rfl rfl rfl rfl (by kernel_rfl) Tryz.func3 (by kernel_rfl)
    (of_decide_eq_true (by kernel_rfl)) (by unfold Func.isWrapper; first | (rw [if_pos (by decide +kernel)]; kernel_rfl) | (rw [if_neg (by decide +kernel)]; exact ⟨rfl, rfl⟩))
    (fun os started H enc _ => lifted os started H enc)

end Go.Proofs.YtpcdngpppjdgcaaGreat.EChecks
