/- Whether any entry matches any filter, and ends its stream: as the document says. No conditions. -/
import Derived.Test.YtlipkmdjpligeaaGreatKEnY
import Derived.SizedLaws
import Derived.ProofKit
import Derived.OpenShut
import Derived.ShutString
import Derived.ChangeOld
import Derived.ChangeMaps5
import Derived.Below
namespace Go.Proofs.YtlipkmdjpligeaaGreat.FMatches
set_option linter.unusedVariables false
set_option linter.unusedSimpArgs false
open Go.ChangeShapes Go.WideShapes Go.ChangeAt Go.RowKit Go.Joins
set_option linter.unusedVariables false
set_option maxRecDepth 100000
theorem own : ownKnob Tryz.prog.godebug = none := by kernel_rfl
theorem laidOut : laidOutB Tryz.prog = true := by kernel_rfl
set_option maxHeartbeats 16000000 in
theorem walk (f : FilT) (PA : Option Addr) (pc : Nat) (e : EntT) (cs : Array Value) (w : World) (hf : FilAt w (fun b => b < w.heap.size) f PA pc) (h : EntL w (fun b => b < w.heap.size) e cs) : Calls Tryz.prog 3 #[.agg #[.string f.coll, .slice PA f.path.length pc, .int .i64 f.kinds], .agg cs] w fun q w' => q = .returned (.bool true) ∧ Below w.heap.size w w' := by
 have HSMF := Lib.hid (small_ent h)
 obtain ⟨IA, ic, IA', ic', DA, dc, DA', dc', LA, lc, rfl, hat⟩ := h.at
 obtain ⟨w2, hw2⟩ : ∃ W, W = (w.alloc (.cells #[.string f.coll, .slice PA f.path.length pc, .int .i64 f.kinds] 24)).alloc (.cells #[.int .i64 e.term, .int .i64 e.kind, .string e.coll, .string e.to, .int .i64 e.id.kind, .int .i64 e.id.num, .string e.id.text, .slice IA e.id.items.length ic, .slice IA' e.id.names.length ic', .int .i64 e.doc.kind, .int .i64 e.doc.num, .string e.doc.text, .slice DA e.doc.items.length dc, .slice DA' e.doc.names.length dc', .slice LA e.dels.length lc, .int .i64 e.session, .int .i64 e.number] 30) := ⟨_, rfl⟩
 have hz1 : (w.alloc (.cells #[.string f.coll, .slice PA f.path.length pc, .int .i64 f.kinds] 24)).heap.size = w.heap.size + 1 := by simp
 have hb2 : Below w.heap.size w w2 := by rw [hw2]; exact (below_box _).alloc (by omega) _
 have HK0 : Hid (EBox ((w.alloc (.cells #[.string f.coll, .slice PA f.path.length pc, .int .i64 f.kinds] 24)).alloc (.cells #[.int .i64 e.term, .int .i64 e.kind, .string e.coll, .string e.to, .int .i64 e.id.kind, .int .i64 e.id.num, .string e.id.text, .slice IA e.id.items.length ic, .slice IA' e.id.names.length ic', .int .i64 e.doc.kind, .int .i64 e.doc.num, .string e.doc.text, .slice DA e.doc.items.length dc, .slice DA' e.doc.names.length dc', .slice LA e.dels.length lc, .int .i64 e.session, .int .i64 e.number] 30)) (w.heap.size + 1) e IA ic IA' ic' DA dc DA' dc' LA lc) := Lib.hid (by unfold EBox; rw [← hz1]; exact heap_alloc_new _ _)
 have HF : Hid (FBox w2 w.heap.size f PA pc) := Lib.hid (by unfold FBox; rw [hw2, Below.heap_alloc _ _ _ (by omega)]; exact heap_alloc_new w _)
 have HK : Hid (EBox w2 (w.heap.size + 1) e IA ic IA' ic' DA dc DA' dc' LA lc) := Lib.hid (by rw [hw2]; exact HK0.out)
 have HB := Lib.hid hb2
 have HA := Lib.hid (hat.up hb2)
 have HFA : Hid (FilAt w2 (fun b => b < w2.heap.size) f PA pc) := Lib.hid ((hf.below (fun b hb => hb) hb2).imp fun b hb => Nat.lt_of_lt_of_le hb hb2.size)
 have HLG := Lib.hid (large19_any (fun b => b < w2.heap.size) f PA pc e _ w2 (fun b hb => hb) HA.out.l)
 clear h hf hat hb2 hz1
 go_enter Tryz.func3, Tryz.ntmps3
 go_wp2_with (refine wpList_load_ent (by rfl) _ rfl (w.heap.size + 1) rfl _ _ HK0.out rfl ?_; simp only [acR, Act.put])
 rw [← hw2]
 clear hw2 HK0
 refine HLG.out.mono ?_
 rintro q w3 ⟨rfl, hb⟩
 have HB := Lib.hid (HB.out.trans (hb.mono HB.out.size))
 have HF := Lib.hid (HF.out.below hb)
 have HK := Lib.hid (HK.out.below hb)
 have HA := Lib.hid (HA.out.up hb)
 have HFA := Lib.hid (fil_up HFA.out hb)
 clear hb
 clear HLG
 cases hlg : largeF f e with
 | true =>
  clear hlg
  go_wp2_with fail
  refine (lives19_any _).mono ?_
  rintro q v9 ⟨rfl, hb⟩
  have HZ := Lib.hid (HB.out.trans (hb.mono HB.out.size))
  clear hb
  go_wp2_with fail
  go_ret
  exact ⟨rfl, HZ.out⟩
 | false =>
 have HSM := Lib.hid (HSMF.out (large_part hlg)).1
 clear hlg HSMF
 go_wp2_with fail
 refine wp_region_mix [0, 1, 2, 4, 3, 5, 6, 7, 8, 9, 10, 12, 13, 11, 14, 15, 16, 17, 18, 19, 21, 22, 20, 23, 24, 25, 26] (by kernel_rfl) (by kernel_rfl) (fun _ d _ _ _ h => by cases d <;> exact h) ?_
 simp only [atR]
 have hb : Below w3.heap.size w3 w3.drew := (Below.refl _ _).drew
 have HB := Lib.hid (HB.out.trans (hb.mono HB.out.size))
 have HF := Lib.hid (HF.out.below hb)
 have HK := Lib.hid (HK.out.below hb)
 have HA := Lib.hid (HA.out.up hb)
 have HFA := Lib.hid (fil_up HFA.out hb)
 clear hb
 generalize w3.drew = u10 at *
 first | refine mix_call rfl (fun K hK => ?_) | refine mix_callB rfl (fun K hK => ?_)
 go_simp
 refine (lives19_any u10).mono ?_
 rintro q u11 ⟨rfl, hb⟩
 refine hK _ _ (hb) ?_
 clear hK K
 try simp only [Act.put]
 have HB := Lib.hid (HB.out.trans (hb.mono HB.out.size))
 have HF := Lib.hid (HF.out.below hb)
 have HK := Lib.hid (HK.out.below hb)
 have HA := Lib.hid (HA.out.up hb)
 have HFA := Lib.hid (fil_up HFA.out hb)
 clear hb
 have u0 := cell_later (B := u11.heap.size) (w := u11) HF.out.g0 HF.out.lt
 have u1 := cell_later (B := u11.heap.size) (w := u11) HF.out.g1 HF.out.lt
 have u2 := cell_later (B := u11.heap.size) (w := u11) HF.out.g2 HF.out.lt
 first | refine mix_pure ?_ | refine mix_pureB ?_
 simp only [List.takeWhile, List.dropWhile, isPure, Nat.reduceBNe]
 repeat (first | (refine wpQuiet_load_ent rfl (by rfl) _ rfl (w.heap.size + 1) rfl _ HK.out.later rfl ?_; simp only [acR, Act.put]) | go_big_quiet_step (fail))
 refine wpQuiet_nil ?_
 clear u0 u1 u2
 first | refine mix_call rfl (fun K hK => ?_) | refine mix_callB rfl (fun K hK => ?_)
 go_simp
 refine (fmay_any (fun b => b < u11.heap.size) f PA pc u11 (fun b hb => hb) HFA.out).mono ?_
 rintro q u12 ⟨rfl, hb⟩
 refine hK _ _ (hb) ?_
 clear hK K
 try simp only [Act.put]
 have HB := Lib.hid (HB.out.trans (hb.mono HB.out.size))
 have HF := Lib.hid (HF.out.below hb)
 have HK := Lib.hid (HK.out.below hb)
 have HA := Lib.hid (HA.out.up hb)
 have HFA := Lib.hid (fil_up HFA.out hb)
 clear hb
 first | refine mix_call rfl (fun K hK => ?_) | refine mix_callB rfl (fun K hK => ?_)
 go_simp
 refine (r19may_any (fun b => b < u12.heap.size) f PA pc u12 (fun b hb => hb) HFA.out).mono ?_
 rintro q u13 ⟨rfl, hb⟩
 refine hK _ _ (hb) ?_
 clear hK K
 try simp only [Act.put]
 have HB := Lib.hid (HB.out.trans (hb.mono HB.out.size))
 have HF := Lib.hid (HF.out.below hb)
 have HK := Lib.hid (HK.out.below hb)
 have HA := Lib.hid (HA.out.up hb)
 have HFA := Lib.hid (fil_up HFA.out hb)
 clear hb
 generalize mayFl f = m1
 have e3 : (m1 == m1) = true := by simp
 have u0 := cell_later (B := u13.heap.size) (w := u13) HF.out.g0 HF.out.lt
 have u1 := cell_later (B := u13.heap.size) (w := u13) HF.out.g1 HF.out.lt
 have u2 := cell_later (B := u13.heap.size) (w := u13) HF.out.g2 HF.out.lt
 first | refine mix_pure ?_ | refine mix_pureB ?_
 simp only [List.takeWhile, List.dropWhile, isPure, Nat.reduceBNe]
 repeat (first | (refine wpQuiet_load_ent rfl (by rfl) _ rfl (w.heap.size + 1) rfl _ HK.out.later rfl ?_; simp only [acR, Act.put]) | go_big_quiet_step (fail))
 refine wpQuiet_nil ?_
 clear u0 u1 u2
 clear e3
 first | refine mix_call rfl (fun K hK => ?_) | refine mix_callB rfl (fun K hK => ?_)
 go_simp
 refine (fmatch_any (fun b => b < u13.heap.size) f PA pc e _ u13 (fun b hb => hb) HFA.out HA.out.l HSM.out).mono ?_
 rintro q u14 ⟨rfl, hb⟩
 refine hK _ _ (hb) ?_
 clear hK K
 try simp only [Act.put]
 have HB := Lib.hid (HB.out.trans (hb.mono HB.out.size))
 have HF := Lib.hid (HF.out.below hb)
 have HK := Lib.hid (HK.out.below hb)
 have HA := Lib.hid (HA.out.up hb)
 have HFA := Lib.hid (fil_up HFA.out hb)
 clear hb
 have u0 := cell_later (B := u14.heap.size) (w := u14) HF.out.g0 HF.out.lt
 have u1 := cell_later (B := u14.heap.size) (w := u14) HF.out.g1 HF.out.lt
 have u2 := cell_later (B := u14.heap.size) (w := u14) HF.out.g2 HF.out.lt
 first | refine mix_pure ?_ | refine mix_pureB ?_
 simp only [List.takeWhile, List.dropWhile, isPure, Nat.reduceBNe]
 repeat (first | (refine wpQuiet_load_ent rfl (by rfl) _ rfl (w.heap.size + 1) rfl _ HK.out.later rfl ?_; simp only [acR, Act.put]) | go_big_quiet_step (fail))
 refine wpQuiet_nil ?_
 clear u0 u1 u2
 first | refine mix_call rfl (fun K hK => ?_) | refine mix_callB rfl (fun K hK => ?_)
 go_simp
 refine (r19match_any (fun b => b < u14.heap.size) f PA pc e _ u14 (fun b hb => hb) HFA.out HA.out.l HSM.out).mono ?_
 rintro q u15 ⟨rfl, hb⟩
 refine hK _ _ (hb) ?_
 clear hK K
 try simp only [Act.put]
 have HB := Lib.hid (HB.out.trans (hb.mono HB.out.size))
 have HF := Lib.hid (HF.out.below hb)
 have HK := Lib.hid (HK.out.below hb)
 have HA := Lib.hid (HA.out.up hb)
 have HFA := Lib.hid (fil_up HFA.out hb)
 clear hb
 generalize matchFl f e = m2
 have e3 : (m2 == m2) = true := by simp
 have u0 := cell_later (B := u15.heap.size) (w := u15) HF.out.g0 HF.out.lt
 have u1 := cell_later (B := u15.heap.size) (w := u15) HF.out.g1 HF.out.lt
 have u2 := cell_later (B := u15.heap.size) (w := u15) HF.out.g2 HF.out.lt
 first | refine mix_pure ?_ | refine mix_pureB ?_
 simp only [List.takeWhile, List.dropWhile, isPure, Nat.reduceBNe]
 repeat (first | (refine wpQuiet_load_ent rfl (by rfl) _ rfl (w.heap.size + 1) rfl _ HK.out.later rfl ?_; simp only [acR, Act.put]) | go_big_quiet_step (fail))
 refine wpQuiet_nil ?_
 clear u0 u1 u2
 clear e3
 first | refine mix_call rfl (fun K hK => ?_) | refine mix_callB rfl (fun K hK => ?_)
 go_simp
 refine (fends_any (fun b => b < u15.heap.size) f PA pc e _ u15 (fun b hb => hb) HFA.out HA.out.l HSM.out).mono ?_
 rintro q u16 ⟨rfl, hb⟩
 refine hK _ _ (hb) ?_
 clear hK K
 try simp only [Act.put]
 have HB := Lib.hid (HB.out.trans (hb.mono HB.out.size))
 have HF := Lib.hid (HF.out.below hb)
 have HK := Lib.hid (HK.out.below hb)
 have HA := Lib.hid (HA.out.up hb)
 have HFA := Lib.hid (fil_up HFA.out hb)
 clear hb
 have u0 := cell_later (B := u16.heap.size) (w := u16) HF.out.g0 HF.out.lt
 have u1 := cell_later (B := u16.heap.size) (w := u16) HF.out.g1 HF.out.lt
 have u2 := cell_later (B := u16.heap.size) (w := u16) HF.out.g2 HF.out.lt
 first | refine mix_pure ?_ | refine mix_pureB ?_
 simp only [List.takeWhile, List.dropWhile, isPure, Nat.reduceBNe]
 repeat (first | (refine wpQuiet_load_ent rfl (by rfl) _ rfl (w.heap.size + 1) rfl _ HK.out.later rfl ?_; simp only [acR, Act.put]) | go_big_quiet_step (fail))
 refine wpQuiet_nil ?_
 clear u0 u1 u2
 first | refine mix_call rfl (fun K hK => ?_) | refine mix_callB rfl (fun K hK => ?_)
 go_simp
 refine (r19ends_any (fun b => b < u16.heap.size) f PA pc e _ u16 (fun b hb => hb) HFA.out HA.out.l HSM.out).mono ?_
 rintro q u17 ⟨rfl, hb⟩
 refine hK _ _ (hb) ?_
 clear hK K
 try simp only [Act.put]
 have HB := Lib.hid (HB.out.trans (hb.mono HB.out.size))
 have HF := Lib.hid (HF.out.below hb)
 have HK := Lib.hid (HK.out.below hb)
 have HA := Lib.hid (HA.out.up hb)
 have HFA := Lib.hid (fil_up HFA.out hb)
 clear hb
 generalize endsFl f e = m3
 have e3 : (m3 == m3) = true := by simp
 first | refine mix_pure ?_ | refine mix_pureB ?_
 simp only [List.takeWhile, List.dropWhile, isPure]
 repeat (go_big_quiet_step (fail))
 refine wpQuiet_nil ?_
 unfold wpMix
 go_wp2_with fail
 go_ret
 exact ⟨by simp, HB.out⟩
set_option maxRecDepth 100000 in
theorem lifted (os : Os) (started : os.Started) (H : Type) (enc : TypeId × Value → H) :
  ReturnsInHanded {} Tryz.checked os 3 .any (Rows.filterMatchesSpec.pre6 enc Tryz.prog Tryz.f3 Rows.filterMatchesRow.domain false) (Rows.filterMatchesSpec.post enc Tryz.prog Tryz.f3 false true false false) := by
 refine returnsInHanded_of_change_sized (C := Tryz.checked) own started (by kernel_rfl) Tryz.func3
  (ChangeSpec.witness6 (enc := enc) (C := Tryz.checked) false ⟨#[], #[.agg #[.string ByteArray.empty, .slice none 0 0, .int .i64 0], .agg #[.int .i64 0, .int .i64 0, .string ByteArray.empty, .string ByteArray.empty, .int .i64 0, .int .i64 0, .string ByteArray.empty, .slice none 0 0, .slice none 0 0, .int .i64 0, .int .i64 0, .string ByteArray.empty, .slice none 0 0, .slice none 0 0, .slice none 0 0, .int .i64 0, .int .i64 0]], []⟩ 8 (by kernel_rfl) (by kernel_rfl) (by kernel_rfl) (by kernel_rfl)) ?_
 intro W base args ds gs before hval0 hW hcnd hsz0 _
 have hval : ∀ (j : Nat) t v, Tryz.f3.params[j]? = some t → args[j]? = some v → Value.okWide Tryz.prog W .any base t v := hval0
 have hsz : (DataW.weightsEach Tryz.prog (Tryz.f3.params.toList ++ Rows.filterMatchesSpec.plain.varTypes Tryz.prog) (ds ++ gs)).all (· ≤ reachBytes) = true := hsz0
 have hW' := hW
 obtain ⟨p, q, hA0, hV, rfl, hfz, hnd⟩ := hW
 have hA : DataW.TrodAll enc Tryz.prog W 0 (fun _ => true) true Tryz.f3.params.toList args.toList ds p := hA0
 rw [Tryz.params3] at hA hval hsz
 obtain ⟨v0, v1, d0, d1, p0, p1, rfl, rfl, rfl, h0, h1⟩ := trodAll_two hA
 obtain ⟨rfl, rfl⟩ := trodVars_none hV
 obtain ⟨a0, rfl, -⟩ := okWide_struct Tryz.underlying24 (hval 0 24 v0 rfl rfl)
 have k0 := h0
 have lt0 : ∀ x ∈ p0, x.block < W.heap.size := by obtain ⟨m, hm⟩ := k0; exact DataW.trod_lt m _ _ _ hm
 have wt0 : ∀ n ∈ d0.weights Tryz.prog 24, n ≤ reachBytes := fun n hn => by have := List.all_eq_true.1 hsz n (DataW.weights_mem_each (j := 0) rfl rfl n hn); simpa using this
 obtain ⟨a1, rfl, -⟩ := okWide_struct Tryz.underlying30 (hval 1 30 v1 rfl rfl)
 have k1 := h1
 have lt1 : ∀ x ∈ p1, x.block < W.heap.size := by obtain ⟨m, hm⟩ := k1; exact DataW.trod_lt m _ _ _ hm
 have wt1 : ∀ n ∈ d1.weights Tryz.prog 30, n ≤ reachBytes := fun n hn => by have := List.all_eq_true.1 hsz n (DataW.weights_mem_each (j := 1) rfl rfl n hn); simpa using this
 clear hA0 hval0
 obtain ⟨fl0, PA0, pc0, ha0, hfl0⟩ : ∃ (f : FilT) (PA : Option Addr) (pc : Nat), a0 = #[.string f.coll, .slice PA f.path.length pc, .int .i64 f.kinds] ∧ FilAt W (fun b => b < W.heap.size) f PA pc := by
  obtain ⟨m, hm⟩ := k0
  obtain ⟨f, PA, pc, e, r⟩ := open_fil hm wt0
  refine ⟨f, PA, pc, ?_, r⟩
  have e2 : a0.toList = [.string f.coll, .slice PA f.path.length pc, .int .i64 f.kinds] := by simpa [Value.cells] using e
  rw [← Array.toArray_toList (xs := a0), e2]
 subst ha0
 obtain ⟨en1, hen1⟩ : ∃ e : EntT, EntL W (fun b => b < W.heap.size) e a1 := by
  obtain ⟨m, hm⟩ := k1
  obtain ⟨s, h3⟩ := open_ent hm wt1
  exact ⟨s, by simpa [Value.cells] using h3⟩
 refine (walk fl0 PA0 pc0 en1 a1 W hfl0 hen1).mono fun e W' ⟨he, bel⟩ => ?_
 subst he
 exact ⟨_, rfl, _, _, _, [], _, [], hW', trodAll_mk1 (shut_bool Tryz.underlying4 _), trodAll_mk2 (Below.trod laidOut (by kernel_rfl) (of_decide_eq_true (by kernel_rfl)) k0 bel lt0) (Below.trod laidOut (by kernel_rfl) (of_decide_eq_true (by kernel_rfl)) k1 bel lt1), rfl, bel.frame _, fun h => by cases h⟩

theorem proved : Rows.FilterMatchesSaid :=
 OpenClaim.holds_of_wide 3 Tryz.f3 rfl rfl rfl rfl rfl rfl rfl ⟨rfl, rfl, rfl, rfl, rfl⟩ rfl rfl rfl rfl rfl (by kernel_rfl) Tryz.func3 (by kernel_rfl)
  (of_decide_eq_true (by kernel_rfl)) (by unfold Func.isWrapper; first | (rw [if_pos (by decide +kernel)]; kernel_rfl) | (rw [if_neg (by decide +kernel)]; exact ⟨rfl, rfl⟩))
  (fun os started H enc _ => lifted os started H enc)

end Go.Proofs.YtlipkmdjpligeaaGreat.FMatches
