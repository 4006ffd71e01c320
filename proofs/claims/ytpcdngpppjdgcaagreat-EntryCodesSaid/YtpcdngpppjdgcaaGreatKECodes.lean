/- The code of any entry, and what it is decoded as: as the document says. No conditions. -/
import Derived.Test.YtpcdngpppjdgcaaGreatKEnQ
import Derived.SizedLaws
import Derived.ProofKit
import Derived.OpenShut
import Derived.ShutString
import Derived.ChangeOld
import Derived.Below
namespace Go.Proofs.YtpcdngpppjdgcaaGreat.ECodes
set_option linter.unusedVariables false
set_option linter.unusedSimpArgs false
open Go.ChangeShapes Go.WideShapes Go.ChangeAt Go.RowKit Go.Joins
set_option linter.unusedVariables false
set_option maxRecDepth 100000
theorem own : ownKnob Tryz.prog.godebug = none := by kernel_rfl
theorem laidOut : laidOutB Tryz.prog = true := by kernel_rfl
set_option maxHeartbeats 16000000 in
theorem walk (e : EntT) (cs : Array Value) (w : World) (h : EntL w (fun b => b < w.heap.size) e cs) : Calls Tryz.prog 4 #[.agg cs] w fun q w' => q = .returned (.bool true) ∧ Below w.heap.size w w' := by
  have HSMF := Lib.hid (small_ent h)
  have HFIN := Lib.hid (fine_ent h)
  obtain ⟨IA, ic, IA', ic', DA, dc, DA', dc', LA, lc, rfl, hat⟩ := h.at
  obtain ⟨w1, hw1⟩ : ∃ W, W = w.alloc (.cells #[.int .i64 e.term, .int .i64 e.kind, .string e.coll, .string e.to, .int .i64 e.id.kind, .int .i64 e.id.num, .string e.id.text, .slice IA e.id.items.length ic, .slice IA' e.id.names.length ic', .int .i64 e.doc.kind, .int .i64 e.doc.num, .string e.doc.text, .slice DA e.doc.items.length dc, .slice DA' e.doc.names.length dc', .slice LA e.dels.length lc, .int .i64 e.session, .int .i64 e.number] 28) := ⟨_, rfl⟩
  have HK1 : Hid (EBox w1 w.heap.size e IA ic IA' ic' DA dc DA' dc' LA lc) := Lib.hid (by rw [hw1]; exact heap_alloc_new w _)
  have HB1 : Hid (Below w.heap.size w w1) := Lib.hid (by rw [hw1]; exact below_box _)
  have HA1 := Lib.hid (hat.up HB1.out)
  have HLG := Lib.hid (r13large_any (fun b => b < w1.heap.size) e _ w1 (fun b hb => hb) HA1.out.l)
  clear h hat
  go_enter Tryz.func4, Tryz.ntmps4
  go_wp2_with fail
  rw [← hw1]
  clear hw1
  go_wp2_with (refine wpList_load_ent (by rfl) _ rfl w.heap.size rfl _ _ HK1.out rfl ?_; simp only [Act.put, List.setIfInBounds_toArray, List.set_cons_succ, List.set_cons_zero])
  refine HLG.out.mono ?_
  rintro q w2 ⟨rfl, hb⟩
  have HB2 := Lib.hid (HB1.out.trans (hb.mono HB1.out.size))
  have HK2 := Lib.hid (HK1.out.below hb)
  have HA2 := Lib.hid (HA1.out.up hb)
  clear hb HLG HB1 HK1 HA1
  cases hlg : largeE e with
  | true =>
    clear hlg
    go_wp2_with fail
    refine (lives13_any _).mono ?_
    rintro q v9 ⟨rfl, hb⟩
    have HF := Lib.hid (HB2.out.trans (hb.mono HB2.out.size))
    clear hb
    go_wp2_with fail
    go_ret
    exact ⟨rfl, HF.out⟩
  | false =>
  have HSM := Lib.hid (HSMF.out hlg).1
  have HEN := Lib.hid (eencode_any (fun b => b < w2.heap.size) e _ w2 (fun b hb => hb) HA2.out.l HSM.out)
  clear hlg HSMF
  go_wp2_with (refine wpList_load_ent (by rfl) _ rfl w.heap.size rfl _ _ HK2.out rfl ?_; simp only [Act.put, List.setIfInBounds_toArray, List.set_cons_succ, List.set_cons_zero])
  refine HEN.out.mono ?_
  rintro q w3 ⟨v, rfl, ho, hb⟩
  have HB3 := Lib.hid (HB2.out.trans (hb.mono HB2.out.size))
  have HK3 := Lib.hid (HK2.out.below hb)
  have HA3 := Lib.hid (HA2.out.up hb)
  have HO3 := Lib.hid (ho.base HB2.out.size)
  clear hb ho HEN HB2 HK2 HA2
  go_wp2_with fail
  refine (lives13_any _).mono ?_
  rintro q w4 ⟨rfl, hb⟩
  have HB4 := Lib.hid (HB3.out.trans (hb.mono HB3.out.size))
  have HK4 := Lib.hid (HK3.out.below hb)
  have HA4 := Lib.hid (HA3.out.up hb)
  have HO4 := Lib.hid (HO3.out.below hb)
  have HMY := Lib.hid (r13may_any (fun b => b < w4.heap.size) e _ w4 (fun b hb => hb) HA4.out.l HSM.out)
  clear hb HO3 HB3 HK3 HA3
  go_wp2_with (refine wpList_load_ent (by rfl) _ rfl w.heap.size rfl _ _ HK4.out rfl ?_; simp only [Act.put, List.setIfInBounds_toArray, List.set_cons_succ, List.set_cons_zero])
  refine HMY.out.mono ?_
  rintro q w5 ⟨rfl, hb⟩
  have HB5 := Lib.hid (HB4.out.trans (hb.mono HB4.out.size))
  have HK5 := Lib.hid (HK4.out.below hb)
  have HA5 := Lib.hid (HA4.out.up hb)
  have ho5 := HO4.out.below hb
  clear hb HMY HO4 HB4 HK4 HA4
  cases hm : mayE e with
  | false =>
    rw [(encE_not hm).1] at ho5
    rw [(encE_not hm).2]
    obtain ⟨A, c, hv⟩ := ho5.slice
    have hv' : v = .slice A 0 c := hv
    subst hv'
    clear hv ho5 hm
    go_wp2_with fail
    go_ret
    exact ⟨by simp, HB5.out⟩
  | true =>
  rw [(encE_may hm).1] at ho5
  rw [(encE_may hm).2]
  have HM := Lib.hid hm
  have HDC := Lib.hid (dec_code hm (HFIN.out HSM.out hm))
  have HO5 := Lib.hid ho5
  have HD := Lib.hid (edecode_any v (codeE e) w5 ho5.rdY ho5.rdY.lenE)
  clear hm ho5 HFIN
  go_wp2_with fail
  refine HD.out.mono ?_
  rintro q w6 ⟨ds, rfl, hd, hb⟩
  rw [HDC.out.1]
  rw [HDC.out.2] at hd
  obtain ⟨JA, jc, JA', jc', FA, fc, FA', fc', MA, mc, rfl, dat⟩ := hd.at
  obtain ⟨w7, hw7⟩ : ∃ W, W = w6.alloc (.cells #[.int .i64 e.term, .int .i64 e.kind, .string e.coll, .string e.to, .int .i64 e.id.kind, .int .i64 e.id.num, .string e.id.text, .slice JA e.id.items.length jc, .slice JA' e.id.names.length jc', .int .i64 e.doc.kind, .int .i64 e.doc.num, .string e.doc.text, .slice FA e.doc.items.length fc, .slice FA' e.doc.names.length fc', .slice MA e.dels.length mc, .int .i64 e.session, .int .i64 e.number] 28) := ⟨_, rfl⟩
  have hb7 : Below w6.heap.size w6 w7 := by rw [hw7]; exact below_box _
  obtain ⟨z, hz⟩ : ∃ z, z = w6.heap.size := ⟨_, rfl⟩
  have hb57 : Below w5.heap.size w5 w7 := hb.trans (hb7.mono hb.size)
  have HX : Hid (EBox w7 z e JA jc JA' jc' FA fc FA' fc' MA mc ∧ EntAt w7 (fun b => b < w7.heap.size) e JA jc JA' jc' FA fc FA' fc' MA mc) := Lib.hid ⟨by rw [hw7, hz]; exact heap_alloc_new w6 _, (dat.imp fun b hb' => hb'.2).up hb7⟩
  have HB7 := Lib.hid (HB5.out.trans (hb57.mono HB5.out.size))
  have HK7 := Lib.hid (HK5.out.below hb57)
  have HA7 := Lib.hid (HA5.out.up hb57)
  have HO7 := Lib.hid (HO5.out.below hb57)
  clear hd dat hb hb7 hb57 HD HB5 HK5 HA5 HO5 HDC
  go_wp2_with fail
  rw [← hw7]
  try rw [← hz]
  clear hw7 hz
  try simp only [List.append_eq, List.cons_append, List.nil_append]
  refine wp_region_lex (by kernel_rfl) (by kernel_rfl) (fun _ d _ _ _ h => by cases d <;> exact h) ?_
  have hdr : Below w7.heap.size w7 w7.drew := (Below.refl _ _).drew
  have HB := Lib.hid (HB7.out.trans (hdr.mono HB7.out.size))
  have HK := Lib.hid (HK7.out.below hdr)
  have HA := Lib.hid (HA7.out.up hdr)
  have HO := Lib.hid ((HO7.out.below hdr).rdY)
  have HK2 := Lib.hid (HX.out.1.below hdr)
  have HA2 := Lib.hid (HX.out.2.up hdr)
  clear hdr HB7 HK7 HA7 HO7 HX
  generalize w7.drew = u0 at *
  obtain ⟨x, hx⟩ : ∃ x : ByteArray, x = ⟨(codeE e).toArray⟩ := ⟨_, rfl⟩
  have HXX := Lib.hid hx
  have f1 : ∀ p : Later u0.heap.size u0, (convert 35 9 v).run Tryz.prog p.u = .ok (.string x) p.u := fun p => by rw [hx]; exact (HO.out.keep p.h).strY
  clear hx
  first | refine mix_pure ?_ | refine mix_pureB ?_
  simp only [List.takeWhile, List.dropWhile, isPure, Nat.reduceBNe]
  repeat (first | (refine wpQuiet_load_ent rfl (by rfl) _ rfl w.heap.size rfl _ HK.out.later rfl ?_; simp only [Act.put, List.setIfInBounds_toArray, List.set_cons_succ, List.set_cons_zero]) | go_big_quiet_step (fail))
  refine wpQuiet_nil ?_
  clear f1 HO
  first | refine mix_call rfl (fun K hK => ?_) | refine mix_callB rfl (fun K hK => ?_)
  go_simp
  refine (r13code_any (fun b => b < u0.heap.size) e _ u0 (fun b hb => hb) HA.out.l HSM.out HM.out).mono ?_
  rintro q u1 ⟨v2, rfl, ho, hb⟩
  refine hK _ _ (hb) ?_
  clear hK K
  try simp only [Act.put]
  have HB := Lib.hid (HB.out.trans (hb.mono HB.out.size))
  have HK := Lib.hid (HK.out.below hb)
  have HA := Lib.hid (HA.out.up hb)
  have HK2 := Lib.hid (HK2.out.below hb)
  have HA2 := Lib.hid (HA2.out.up hb)
  have hor := ho.rdY
  have f1 : ∀ p : Later u1.heap.size u1, (convert 35 9 v2).run Tryz.prog p.u = .ok (.string x) p.u := fun p => by rw [HXX.out]; exact (hor.keep p.h).strY
  have e3 : (x.toList == x.toList) = true := by simp
  clear ho hb
  first | refine mix_pure ?_ | refine mix_pureB ?_
  simp only [List.takeWhile, List.dropWhile, isPure, Nat.reduceBNe]
  repeat (first | (refine wpQuiet_load_ent rfl (by rfl) _ rfl w.heap.size rfl _ HK.out.later rfl ?_; simp only [Act.put, List.setIfInBounds_toArray, List.set_cons_succ, List.set_cons_zero]) | (refine wpQuiet_load_ent rfl (by rfl) _ rfl z rfl _ HK2.out.later rfl ?_; simp only [Act.put, List.setIfInBounds_toArray, List.set_cons_succ, List.set_cons_zero]) | go_big_quiet_step (fail))
  refine wpQuiet_nil ?_
  clear f1 hor e3
  first | refine mix_call rfl (fun K hK => ?_) | refine mix_callB rfl (fun K hK => ?_)
  go_simp
  refine (same_true HA2.out.l HA.out.l).mono ?_
  rintro q u2 ⟨rfl, hb⟩
  refine hK _ _ (hb) ?_
  clear hK K
  try simp only [Act.put]
  have HB := Lib.hid (HB.out.trans (hb.mono HB.out.size))
  clear hb HK HA HK2 HA2
  first | refine mix_pure ?_ | refine mix_pureB ?_
  simp only [List.takeWhile, List.dropWhile, isPure, Nat.reduceBNe]
  repeat (go_big_quiet_step (fail))
  refine wpQuiet_nil ?_
  unfold wpMix
  go_wp2_with fail
  go_ret
  exact ⟨by simp, HB.out⟩
set_option maxRecDepth 100000 in
theorem lifted (os : Os) (started : os.Started) (H : Type) (enc : TypeId × Value → H) :
    ReturnsInHanded {} Tryz.checked os 4 .any (Rows.entryCodesSpec.pre6 enc Tryz.prog Tryz.f4 Rows.entryCodesRow.domain false) (Rows.entryCodesSpec.post enc Tryz.prog Tryz.f4 false true false false) := by
  refine returnsInHanded_of_change_sized (C := Tryz.checked) own started (by kernel_rfl) Tryz.func4
    (ChangeSpec.witness6 (enc := enc) (C := Tryz.checked) false ⟨#[], #[.agg #[.int .i64 0, .int .i64 0, .string ByteArray.empty, .string ByteArray.empty, .int .i64 0, .int .i64 0, .string ByteArray.empty, .slice none 0 0, .slice none 0 0, .int .i64 0, .int .i64 0, .string ByteArray.empty, .slice none 0 0, .slice none 0 0, .slice none 0 0, .int .i64 0, .int .i64 0]], []⟩ 8 (by kernel_rfl) (by kernel_rfl) (by kernel_rfl) (by kernel_rfl)) ?_
  intro W base args ds gs before hval0 hW hcnd hsz0 _
  have hval : ∀ (j : Nat) t v, Tryz.f4.params[j]? = some t → args[j]? = some v → Value.okWide Tryz.prog W .any base t v := hval0
  have hsz : (DataW.weightsEach Tryz.prog (Tryz.f4.params.toList ++ Rows.entryCodesSpec.plain.varTypes Tryz.prog) (ds ++ gs)).all (· ≤ reachBytes) = true := hsz0
  have hW' := hW
  obtain ⟨p, q, hA0, hV, rfl, hfz, hnd⟩ := hW
  have hA : DataW.TrodAll enc Tryz.prog W 0 (fun _ => true) true Tryz.f4.params.toList args.toList ds p := hA0
  rw [Tryz.params4] at hA hval hsz
  obtain ⟨v0, d0, rfl, rfl, h0⟩ := trodAll_one hA
  obtain ⟨rfl, rfl⟩ := trodVars_none hV
  obtain ⟨a0, rfl, -⟩ := okWide_struct Tryz.underlying28 (hval 0 28 v0 rfl rfl)
  have k0 := h0
  have lt0 : ∀ x ∈ p, x.block < W.heap.size := by obtain ⟨m, hm⟩ := k0; exact DataW.trod_lt m _ _ _ hm
  have wt0 : ∀ n ∈ d0.weights Tryz.prog 28, n ≤ reachBytes := fun n hn => by have := List.all_eq_true.1 hsz n (DataW.weights_mem_each (j := 0) rfl rfl n hn); simpa using this
  clear hA0 hval0
  obtain ⟨en0, hen0⟩ : ∃ e : EntT, EntL W (fun b => b < W.heap.size) e a0 := by
    obtain ⟨m, hm⟩ := k0
    obtain ⟨s, h3⟩ := open_ent hm wt0
    exact ⟨s, by simpa [Value.cells] using h3⟩
  refine (walk en0 a0 W hen0).mono fun e W' ⟨he, bel⟩ => ?_
  subst he
  exact ⟨_, rfl, _, _, _, [], _, [], hW', trodAll_mk1 (shut_bool Tryz.underlying4 _), trodAll_mk1 (Below.trod laidOut (by kernel_rfl) (of_decide_eq_true (by kernel_rfl)) k0 bel lt0), rfl, bel.frame _, fun h => by cases h⟩

theorem proved : Rows.EntryCodesSaid :=
  OpenClaim.holds_of_wide 4 Tryz.f4 rfl rfl rfl rfl rfl rfl rfl ⟨rfl, rfl, rfl, rfl, rfl⟩ rfl rfl rfl rfl rfl (by kernel_rfl) Tryz.func4 (by kernel_rfl)
    (of_decide_eq_true (by kernel_rfl)) (by unfold Func.isWrapper; first | (rw [if_pos (by decide +kernel)]; kernel_rfl) | (rw [if_neg (by decide +kernel)]; exact ⟨rfl, rfl⟩))
    (fun os started H enc _ => lifted os started H enc)

end Go.Proofs.YtpcdngpppjdgcaaGreat.ECodes
