/- The code of any list of changes, put behind any bytes, is the document's, and it is read; where the two arguments hold together at most 1048576 values and letters. -/
import Derived.Test.YtnamdlljdgllmaaGreatKDlR
import Derived.Test.YtnamdlljdgllmaaGreatKDmG
import Derived.Test.YtnamdlljdgllmaaGreatKCodM
import Derived.Test.YtnamdlljdgllmaaGreatKRegR
import Derived.OwnWalk
import Derived.JoinedCond
import Derived.Deep.CondSized
import Derived.SizedLaws
import Derived.ProofKit
import Derived.OpenShut
import Derived.ShutString
import Derived.ChangeOld
import Derived.Below
namespace Go.Proofs.YtnamdlljdgllmaaGreat.DCodes
set_option linter.unusedVariables false
set_option linter.unusedSimpArgs false
open Go.ChangeShapes Go.WideShapes Go.ChangeAt Go.RowKit Go.Joins OpenB
set_option linter.unusedVariables false

theorem own : ownKnob Tryz.prog.godebug = none := by kernel_rfl
theorem laidOut : laidOutB Tryz.prog = true := by kernel_rfl
theorem ba_app (l m : List UInt8) : (⟨l.toArray⟩ : ByteArray) ++ ⟨m.toArray⟩ = ⟨(l ++ m).toArray⟩ := by
  apply ByteArray.ext
  simp [ByteArray.data_append]
theorem codeDs_pos {l : List DelT} (h : checkD l = 0) : 1 ≤ (codeDs l).length := by
  have := (grp_length l.length).2
  unfold codeDs
  rw [if_pos h, List.length_append]
  omega
theorem codeDs_len {l : List DelT} (h : checkD l = 0) (hz : SmallZD l) : (codeDs l).length ≤ 134500000 := by
  obtain ⟨h64, hm⟩ := checkD_zero h
  have h3 := codeDs_small (l := l) fun o ho => ⟨hm o ho, hz o ho⟩
  have h4 := (grp_length l.length).1
  unfold codeDs
  rw [if_pos h, List.length_append]
  omega
set_option maxHeartbeats 4000000 in
set_option maxRecDepth 100000 in
theorem r6check_w (S : Nat → Prop) (A : Option Addr) (c : Nat) (l : List DelT) (w : World) (hS : ∀ b, S b → b < w.heap.size) (h : DelsL w S A l) (hn : l.length ≤ 140737488351232) (hd : l.length ≤ 64 → SmallD l) :
    Calls Tryz.prog 14 #[.slice A l.length c] w fun e w' => e = .returned (.int .i64 (checkD l)) ∧ Below w.heap.size w w' := by
  by_cases h64 : 64 < l.length
  · have hr : checkD l = 3 := by unfold checkD; rw [if_pos h64]
    rw [hr]
    have d1 : decide ((l.length : Int) > 64) = true := decide_eq_true (by omega)
    clear h hS hd hr
    go_enter Tryz.func14, Tryz.ntmps14
    go_wp2_with fail
    go_ret
    exact ⟨rfl, Below.refl _ _⟩
  · exact r6check_any S A c l w hS h hn (hd (by omega))
set_option maxHeartbeats 16000000 in
set_option maxRecDepth 100000 in
theorem walk (ds : List DelT) (D : Option Addr) (dc : Nat) (A : Option Addr) (cap : Nat) (l : List UInt8) (w : World) (h : DelsL w (fun b => b < w.heap.size) D ds) (hds : ds.length ≤ 1172812402961) (hr : Rd w w.heap.size (.slice A l.length cap) l) (hl : l.length ≤ 1048576) :
    Calls Tryz.prog 6 #[.slice D ds.length dc, .slice A l.length cap] w fun e w' => e = .returned (.bool true) ∧ Below w.heap.size w w' := by
  obtain ⟨i0, hi, hz0, hz1, hz2⟩ := info_parts Tryz.infoU8
  have HL := Lib.hid h
  have hn2 : ds.length ≤ 140737488351232 := by omega
  have HLG := Lib.hid (r6large_any (fun b => b < w.heap.size) D dc ds w (fun b hb => hb) h hn2)
  have HLL := Lib.hid hl
  obtain ⟨n, hn⟩ : ∃ n, n = l.length := ⟨_, rfl⟩
  have HN := Lib.hid hn
  rw [← hn] at hr hl ⊢
  have HR := Lib.hid hr
  clear h hr hn
  go_enter Tryz.func6, Tryz.ntmps6
  go_wp2_with fail
  refine HLG.out.mono ?_
  rintro e w2 ⟨rfl, hb⟩
  have HB2 := Lib.hid hb
  clear hb HLG
  cases hlg : largeD ds with
  | true =>
    clear hlg
    go_wp2_with fail
    refine (lives6_any _).mono ?_
    rintro e v9 ⟨rfl, hb⟩
    have HF := Lib.hid (HB2.out.trans (hb.mono HB2.out.size))
    clear hb
    go_wp2_with fail
    go_ret
    exact ⟨rfl, HF.out⟩
  | false =>
  have HSM := Lib.hid (dels_small HL.out hlg)
  have HRN := Lib.hid HL.out.rng
  have hsz2 := HB2.out.size
  clear hlg
  go_wp2_with (at_make; go_must (refine wpList_make_own _ rfl _ _ 46 rfl w.heap.size 5 i0 (.int .u8 0) 1 Tryz.underlying46 hi hz0 hz1 _ _ _ (n + 9) rfl rfl ?b0 ?b1 ?b2 ?b3 ?_))
  case b0 => first | rfl | omega | simp
  case b1 => rw [hz2]; omega
  case b2 => unfold maxLen; omega
  first | (case b3 => exact hsz2) | skip
  intro w4 hown hg
  have HB4 := Lib.hid (HB2.out.grown hg hsz2 (fun k hk => by cases hk))
  have HO4 : Hid (OwnB w4 w.heap.size (.slice (some ⟨w2.heap.size, 0, none⟩) 0 (n + 9)) []) := Lib.hid hown
  have HR4 := Lib.hid (HR.out.keep HB4.out)
  have hz4 := HB4.out.size
  clear hown hg
  go_wp2_with (at_builtin; go_must (refine wpList_append_bytes rfl _ _ rfl w.heap.size _ [] rfl HO4.out w.heap.size _ l rfl HR4.out hz4 (by have := HLL.out; simp only [List.length_nil]; omega) ?_))
  intro v5 w5 hv5 hg5
  try rw [List.nil_append] at hv5
  have HB5 := Lib.hid (below_own HB4.out HO4.out hz4 hg5)
  have HP5 := Lib.hid (dlput_any (fun b => b < w.heap.size) D dc ds v5 l w5 (fun b hb => Nat.lt_of_lt_of_le hb HB5.out.size) (HL.out.below (fun _ h => h) HB5.out) hn2 (fun h => ⟨(HSM.out h).1, (HSM.out h).2.1⟩) hv5.rd (by have := HLL.out; omega))
  obtain ⟨A5, c5, rfl⟩ := hv5.slice
  rw [← HN.out] at HP5 ⊢
  clear hv5 hg5 HB4 HO4 HR4 hz4 hsz2 HB2
  go_wp2_with fail
  refine HP5.out.mono ?_
  rintro e w6 ⟨v6, rfl, hv6, hb⟩
  have HB6 := Lib.hid (HB5.out.trans (hb.mono HB5.out.size))
  have HV6 := Lib.hid (hv6.base HB5.out.size)
  clear hv6 hb HP5 HB5
  go_wp2_with fail
  refine (lives6_any _).mono ?_
  rintro e w7 ⟨rfl, hb⟩
  have HB7 := Lib.hid (HB6.out.trans (hb.mono HB6.out.size))
  have HV7 := Lib.hid (HV6.out.below hb)
  have HC7 := Lib.hid (r6check_w (fun b => b < w.heap.size) D dc ds w7 (fun b hb => Nat.lt_of_lt_of_le hb HB7.out.size) (HL.out.below (fun _ h => h) HB7.out) hn2 (fun h => (HSM.out h).1))
  clear hb HB6 HV6
  go_wp2_with fail
  refine HC7.out.mono ?_
  rintro e w8 ⟨rfl, hb⟩
  have HB8 := Lib.hid (HB7.out.trans (hb.mono HB7.out.size))
  have HV8 := Lib.hid (HV7.out.below hb)
  have HR8 := Lib.hid (HR.out.keep HB8.out)
  obtain ⟨x, hx⟩ : ∃ x, x = checkD ds := ⟨_, rfl⟩
  rw [← hx]
  have HXC := Lib.hid hx
  clear hb HB7 HV7 HC7 hx
  by_cases hx0 : x = 0
  rotate_left
  · have hne : (x != 0) = true := bne_iff_ne.2 hx0
    have e1 := rd_str6 HV8.out.rd
    rw [show l ++ codeDs ds = l from by unfold codeDs; rw [if_neg (fun h => hx0 (HXC.out.trans h)), List.append_nil]] at e1
    have e2 := rd_str6 HR8.out
    have e3 : ((⟨l.toArray⟩ : ByteArray).toList == (⟨l.toArray⟩ : ByteArray).toList) = true := by simp
    obtain ⟨xs, hxs⟩ : ∃ x, x = (⟨l.toArray⟩ : ByteArray) := ⟨_, rfl⟩
    rw [← hxs] at e1 e2 e3
    clear hx0 hxs
    go_wp2_with fail
    go_ret
    exact ⟨by simp, HB8.out⟩
  subst hx0
  have HCK : Hid (checkD ds = 0) := Lib.hid HXC.out.symm
  have HSQ := Lib.hid (HSM.out (checkD_zero HCK.out).1)
  obtain ⟨C, hC⟩ : ∃ C, C = codeDs ds := ⟨_, rfl⟩
  have HC := Lib.hid hC
  rw [← hC] at HV8
  have hcl : C.length ≤ 134500000 := by rw [hC]; exact codeDs_len HCK.out HSQ.out.2.1
  have hcp : 1 ≤ C.length := by rw [hC]; exact codeDs_pos HCK.out
  have HCL := Lib.hid (And.intro hcp hcl)
  clear hC hcp hcl
  go_wp2_with fail
  refine wp_region_mix [0, 1, 2, 3, 4, 5, 6, 7, 8] (by kernel_rfl) (by kernel_rfl) (fun _ d _ _ _ h => by cases d <;> exact h) ?_
  simp only [atNats, List.filterMap_cons, List.filterMap_nil, List.getElem?_toArray, List.getElem?_cons_succ, List.getElem?_cons_zero]
  have HBD : Hid (Below w.heap.size w w8.drew) := Lib.hid HB8.out.drew
  have cv1 := run_later (B := w8.heap.size) (w := w8.drew) (s := convert 46 9 v6) fun u hu => rd_str6 (HV8.out.below (show Below w8.heap.size w8 u from ⟨hu.os, hu.tape, hu.output, hu.size, hu.block⟩)).rd
  have cv2 := run_later (B := w8.heap.size) (w := w8.drew) (s := convert 46 9 (.slice A n cap)) fun u hu => rd_str6 (HR8.out.keep (Below.mono (show Below w8.heap.size w8 u from ⟨hu.os, hu.tape, hu.output, hu.size, hu.block⟩) HB8.out.size))
  first | refine mix_pure ?_ | refine mix_pureB ?_
  simp only [List.takeWhile, List.dropWhile, isPure, Nat.reduceBNe]
  repeat (go_big_quiet_step (fail))
  refine wpQuiet_nil ?_
  clear cv1 cv2
  first | refine mix_call rfl (fun K hK => ?_) | refine mix_callB rfl (fun K hK => ?_)
  go_simp
  refine (r6code_any _ D dc ds w8.drew (fun b hb => Nat.lt_of_lt_of_le hb HB8.out.size) (HL.out.below (fun _ h => h) HBD.out) HSQ.out.2.1 HCK.out).mono ?_
  rintro e w9 ⟨v9, rfl, hv9, hb⟩
  refine hK _ _ hb ?_
  clear hK K
  try simp only [Act.put]
  have HB9 := Lib.hid (HBD.out.trans (hb.mono HBD.out.size))
  have HV9 := Lib.hid ((show OwnB w8.drew w.heap.size v6 (l ++ C) from HV8.out).below hb)
  have HR9 := Lib.hid (HR.out.keep HB9.out)
  rw [← HC.out] at hv9
  have cv := run_later (B := w9.heap.size) (w := w9) (s := convert 46 9 v9) fun u hu => rd_str6 (hv9.below hu).rd
  have happ := ba_app l C
  have e3 : ((⟨(l ++ C).toArray⟩ : ByteArray).toList != (⟨(l ++ C).toArray⟩ : ByteArray).toList) = false := by simp
  obtain ⟨xs, hxs⟩ : ∃ x, x = (⟨(l ++ C).toArray⟩ : ByteArray) := ⟨_, rfl⟩
  obtain ⟨yl, hyl⟩ : ∃ x, x = (⟨l.toArray⟩ : ByteArray) := ⟨_, rfl⟩
  obtain ⟨zl, hzl⟩ : ∃ x, x = (⟨C.toArray⟩ : ByteArray) := ⟨_, rfl⟩
  have hys : yl.size ≤ 1048576 := by rw [hyl, size_mk]; exact HLL.out
  have hzs : zl.size ≤ 134500000 := by rw [hzl, size_mk]; exact HCL.out.2
  rw [← hzl] at cv
  rw [← hxs, ← hyl, ← hzl] at happ
  rw [← hxs, ← hyl]
  rw [← hxs] at e3
  clear hv9 hb hxs hyl hzl HB8 HV8 HR8 HBD
  first | refine mix_pure ?_ | refine mix_pureB ?_
  simp only [List.takeWhile, List.dropWhile, isPure, Nat.reduceBNe]
  repeat (go_big_quiet_step (fail))
  refine wpQuiet_nil ?_
  unfold wpMix
  clear cv happ e3 hys hzs
  obtain ⟨g, vc, hv6e, hgB, hgl, hgc⟩ := HV9.out.shape (by rw [List.length_append]; have := HCL.out.1; omega)
  obtain ⟨q, hq⟩ : ∃ q, q = C.length := ⟨_, rfl⟩
  have hN : (l ++ C).length = n + q := by rw [List.length_append, HN.out, hq]
  have hq1 : 1 ≤ q ∧ q ≤ 134500000 := by rw [hq]; exact HCL.out
  have hcap : n + q ≤ vc := by
    obtain ⟨A', c', e1, e2, -⟩ := HV9.out.rd
    rw [hv6e] at e1
    injection e1 with e3 e4 e5
    omega
  have hcut : Rd w9 w9.heap.size (.slice (some ⟨g, n, none⟩) q (vc - n)) C := by
    have h0 := HV9.out.rd
    rw [hv6e] at h0
    have h1 := h0.cutAny (k := l.length) (by simp)
    rw [if_neg (by rw [← HN.out]; omega), List.drop_left' rfl, hN, ← HN.out] at h1
    rw [show n + q - n = q by omega] at h1
    have h2 : ((some ⟨g, 0, none⟩ : Option Addr).map fun x => x.add n) = some ⟨g, n, none⟩ := by
      simp only [Option.map_some, Addr.add]
      split <;> simp_all
    rw [h2] at h1
    exact h1
  rw [hN] at hv6e
  subst hv6e
  have HF := Lib.hid (from_any _ ⟨C.toArray⟩ w9 (rd_str6 hcut))
  have hql : q ≤ 134500000 := hq1.2
  have hvn : ¬ vc = n := by omega
  have hnq : n ≤ n + q := by omega
  have hqi : ((n + q : Nat) : Int) - (n : Int) = (q : Int) := by omega
  have hsub : n + q - n = q := by omega
  have HCQ := Lib.hid hq
  clear hgB hgl hgc hN hq1 hcut hq
  go_wp2_with fail
  refine HF.out.mono ?_
  rintro e wa ⟨rfl, hsa, hb⟩
  have HBa := Lib.hid (HB9.out.trans (hb.mono HB9.out.size))
  have hsl : SrcL wa w9.heap.size (some C) := ⟨hsa, by have := HCL.out.2; omega⟩
  have hgl := hsl.lt
  have hw9 := HB9.out.size
  have HSL := Lib.hid hsl
  obtain ⟨g9, hg9⟩ : ∃ g, g = w9.heap.size := ⟨_, rfl⟩
  rw [← hg9] at HSL hgl hw9 ⊢
  have HRD := Lib.hid (dlread_any g9 (some C) wa HSL.out)
  have HG9 := Lib.hid hw9
  clear hb hsa hsl HF HB9 HV9 HR9 hg9
  go_wp2_with fail
  refine HRD.out.mono ?_
  rintro e wb ⟨A', c', rfl, hL', -, -, hs', ho'⟩
  have hrdc : rdDl (some C) = (ds, some []) := by
    have h := rdDl_code HCK.out HSQ.out.2.1 HRN.out []
    rw [List.append_nil, ← HC.out] at h
    exact h
  rw [hrdc] at hL' hs' ⊢
  replace hL' : DelsL wb (NewB wa.heap.size wb) A' ds := hL'
  replace hs' : SrcL wb g9 (some []) := hs'
  have HBb : Hid (Below w.heap.size w wb) := Lib.hid (HBa.out.trans (ho'.below HBa.out.size HG9.out))
  have HSA := Lib.hid (r6same_any (fun b => b < wb.heap.size) A' c' ds D dc ds wb (fun b hb => hb) (hL'.imp fun b hb => hb.2) ((HL.out.below (fun _ h => h) HBb.out).imp fun b hb => Nat.lt_of_lt_of_le hb HBb.out.size) hn2 hn2)
  have HSB := Lib.hid hs'
  clear hL' hs' ho' hrdc HRD HSL HBa hgl
  go_wp2_with fail
  refine HSA.out.mono ?_
  rintro e wc ⟨⟨r, rfl, hr⟩, hb⟩
  obtain rfl : r = true := hr.2 trivial
  have HBc := Lib.hid (HBb.out.trans (hb.mono HBb.out.size))
  have HSC := Lib.hid (HSB.out.of (hb.block g9 HSB.out.lt))
  clear hb hr HSA HBb HSB
  go_wp2_with fail
  refine (sdone_st g9 (some []) wc HSC.out).mono ?_
  rintro e wd ⟨rfl, rfl⟩
  rw [show doneOf (some []) = 0 from rfl]
  go_wp2_with fail
  go_ret
  exact ⟨rfl, HBc.out⟩

theorem bulk_one {H : Type} (d : DataW H) : 1 ≤ Rows.uptoBulk d := by
  cases d with
  | lit l => cases l <;> simp [Rows.uptoBulk]
  | nil => simp [Rows.uptoBulk]
  | ptr d => simp [Rows.uptoBulk]
  | slice elems spare => simp [Rows.uptoBulk]
  | agg parts => simp [Rows.uptoBulk]
  | iface t d => simp [Rows.uptoBulk]
  | map entries => simp [Rows.uptoBulk]
  | held h => simp [Rows.uptoBulk]
theorem bulk_length {H : Type} (l : List (DataW H)) : l.length ≤ Rows.uptoBulkAll l := by
  induction l with
  | nil => simp [Rows.uptoBulkAll]
  | cons x r ih => have := bulk_one x; simp only [Rows.uptoBulkAll, List.length_cons]; omega
theorem bulk_slice {H : Type} (es rs : List (DataW H)) : es.length + 1 ≤ Rows.uptoBulk (.slice es rs) := by
  have := bulk_length es
  simp only [Rows.uptoBulk]
  omega

set_option maxRecDepth 100000 in
theorem lifted (os : Os) (started : os.Started) (H : Type) (enc : TypeId × Value → H) (F : Stop.Interp) :
    ReturnsInHanded {} Tryz.checked os 6 .any ((Rows.OpenSpec.upto Rows.deltaCodesSpec).pre6 enc Tryz.prog Tryz.f6 Rows.deltaCodesUptoRow.domain false) (((Rows.OpenSpec.upto Rows.deltaCodesSpec).at F).post enc Tryz.prog Tryz.f6 false true false false) := by
  refine returnsInHanded_of_cond_sized (C := Tryz.checked) (s := Rows.OpenSpec.upto Rows.deltaCodesSpec) (k := Rows.uptoSmall) rfl own started (by kernel_rfl) Tryz.func6
    (OpenSpec.witness (enc := enc) (C := Tryz.checked) (s := Rows.OpenSpec.upto Rows.deltaCodesSpec) (k := Rows.uptoSmall) rfl false ⟨#[], #[.slice none 0 0, .slice none 0 0], []⟩ 8 (by kernel_rfl) (by kernel_rfl) (by kernel_rfl)
      (x := ([.nil, .nil], [], [])) (by kernel_rfl) rfl (by kernel_rfl)) ?_
  intro W base args ds gs before hval0 hW hcnd hk hsz0 _
  have hval : ∀ (j : Nat) t v, Tryz.f6.params[j]? = some t → args[j]? = some v → Value.okWide Tryz.prog W .any base t v := hval0
  have hsz : (DataW.weightsEach Tryz.prog (Tryz.f6.params.toList ++ Rows.deltaCodesSpec.plain.varTypes Tryz.prog) (ds ++ gs)).all (· ≤ reachBytes) = true := hsz0
  have hW' := hW
  obtain ⟨p, q, hA0, hV, rfl, hfz, hnd⟩ := hW
  have hA : DataW.TrodAll enc Tryz.prog W 0 (fun _ => true) true Tryz.f6.params.toList args.toList ds p := hA0
  rw [Tryz.params6] at hA hval hsz
  obtain ⟨v0, v1, d0, d1, p0, p1, rfl, rfl, rfl, h0, h1⟩ := trodAll_two hA
  obtain ⟨rfl, rfl⟩ := trodVars_none hV
  obtain ⟨A0, n0, c0, rfl⟩ := okWide_slice Tryz.underlying22 (hval 0 22 v0 rfl rfl)
  have k0 := h0
  have lt0 : ∀ x ∈ p0, x.block < W.heap.size := by obtain ⟨m, hm⟩ := k0; exact DataW.trod_lt m _ _ _ hm
  have wt0 : ∀ n ∈ d0.weights Tryz.prog 22, n ≤ reachBytes := fun n hn => by have := List.all_eq_true.1 hsz n (DataW.weights_mem_each (j := 0) rfl rfl n hn); simpa using this
  obtain ⟨A1, n1, c1, rfl⟩ := okWide_slice Tryz.underlying46 (hval 1 46 v1 rfl rfl)
  have k1 := h1
  have lt1 : ∀ x ∈ p1, x.block < W.heap.size := by obtain ⟨m, hm⟩ := k1; exact DataW.trod_lt m _ _ _ hm
  clear hA0 hval0
  obtain ⟨os0, hn0, ho0, hc0, hl0, hos0, hcp0⟩ : ∃ os : List DelT, n0 = os.length ∧ (A0 = none → c0 = 0 ∧ os = []) ∧ os.length ≤ c0 ∧ os.length ≤ 1172812402961 ∧ DelsL W (fun b => b < W.heap.size) A0 os ∧ CapsD W A0 os := by
    obtain ⟨m, hm⟩ := k0
    obtain ⟨B, e, os, he, g0, g1, g2, g3, g4⟩ := open_dels hm wt0
    have he' : [Value.slice A0 n0 c0] = [Value.slice B os.length e] := he
    simp only [List.cons.injEq, Value.slice.injEq, and_true] at he'
    obtain ⟨rfl, rfl, rfl⟩ := he'
    exact ⟨os, rfl, g0, g1, g2, g3, g4⟩
  subst hn0
  obtain ⟨l1, hll1, hrd1, hln1⟩ : ∃ l : List UInt8, n1 = l.length ∧ Rd W W.heap.size (.slice A1 l.length c1) l ∧ n1 ≤ 140737488351232 := by
    obtain ⟨fuel, hf⟩ := k1
    obtain ⟨⟨l, hll, hrd⟩, hshape⟩ := open_bytes hf
    refine ⟨l, hll, hrd, ?_⟩
    rcases hshape with h0 | ⟨es, rs, hd, hes⟩
    · omega
    · simp only [] at hd
      subst hd
      have h3 := sized_slice hsz (j := 1) (t := 46) (e := 5) rfl rfl Tryz.underlying46
      have hb : Tryz.prog.bytesOf 5 = 1 := by kernel_rfl
      rw [hb] at h3
      simp only [reachBytes] at h3
      omega
  subst hll1
  have hk2 : Rows.uptoBulkAll ([d0, d1] ++ []) ≤ 1048576 := of_decide_eq_true hk
  simp only [List.cons_append, List.nil_append, Rows.uptoBulkAll] at hk2
  have hb1 : l1.length ≤ 1048576 := by
    obtain ⟨fuel, hf⟩ := k1
    rcases (open_bytes hf).2 with h0 | ⟨es, rs, hd, hes⟩
    · omega
    · simp only [] at hd
      subst hd
      have h1 := bulk_slice es rs
      omega
  refine (walk os0 A0 c0 A1 c1 l1 W hos0 hl0 hrd1 hb1).mono fun e W' ⟨he, bel⟩ => ?_
  subst he
  exact ⟨_, rfl, _, _, _, [], _, [], hW', trodAll_mk1 (shut_bool Tryz.underlying4 _), trodAll_mk2 (Below.trod laidOut (by kernel_rfl) (of_decide_eq_true (by kernel_rfl)) k0 bel lt0) (Below.trod laidOut (by kernel_rfl) (of_decide_eq_true (by kernel_rfl)) k1 bel lt1), rfl, bel.frame _, fun h => by cases h⟩

theorem proved : Rows.DeltaCodesUptoSaid :=
  OpenClaim.holds_of_cond 6 Tryz.f6 rfl rfl rfl rfl rfl rfl rfl ⟨rfl, rfl, rfl, rfl, rfl⟩ rfl rfl rfl rfl rfl (by kernel_rfl) Tryz.func6 (by kernel_rfl)
    (of_decide_eq_true (by kernel_rfl)) (by unfold Func.isWrapper; first | (rw [if_pos (by decide +kernel)]; kernel_rfl) | (rw [if_neg (by decide +kernel)]; exact ⟨rfl, rfl⟩))
    (fun os started H enc _ F => lifted os started H enc F)

end Go.Proofs.YtnamdlljdgllmaaGreat.DCodes
