/- What any bytes are as an entry; what was decoded has that code: as the document says. No conditions. -/
import Derived.Test.YtpcdngpppjdgcaaGreatKEnX
import Derived.Test.YtpcdngpppjdgcaaGreatKEnC
import Derived.SizedLaws
import Derived.ProofKit
import Derived.OpenShut
import Derived.ShutString
import Derived.ChangeOld
import Derived.ChangeMaps5
import Derived.Below
namespace Go.Proofs.YtpcdngpppjdgcaaGreat.EDecodes
set_option linter.unusedVariables false
set_option linter.unusedSimpArgs false
open Go.ChangeShapes Go.WideShapes Go.ChangeAt Go.RowKit Go.Joins OpenB
set_option linter.unusedVariables false
set_option maxRecDepth 100000
theorem own : ownKnob Tryz.prog.godebug = none := by kernel_rfl
theorem laidOut : laidOutB Tryz.prog = true := by kernel_rfl
theorem own_zeroE (w : World) : OwnB (w.alloc (.cells #[] 5)) w.heap.size (.slice (some ⟨w.heap.size, 0, none⟩) 0 0) [] := ⟨rfl, .inr ⟨_, 0, #[], rfl, Nat.le_refl _, heap_alloc_new w _, Nat.le_refl _, by decide, rfl, rfl⟩⟩
theorem dec_read {l : List UInt8} (hl : l.length ≤ 9223372036854775807) (h : decEC l = 0) : mayE (decEE l) = true ∧ codeE (decEE l) = l ∧ SmE (decEE l) := by
 have hE : decEE l = (rdE (some l)).1 := by unfold decEE; rw [if_pos h]
 unfold decEC at h
 cases h2 : (rdE (some l)).2 with
 | none => rw [h2] at h; exact absurd h (by decide)
 | some r =>
  rw [h2] at h
  have hr : r = [] := by
   by_cases he : r.isEmpty = true
   ·exact List.isEmpty_iff.1 he
   ·exact absurd (show (if r.isEmpty = true then (0 : Int) else 10) = 0 from h) (by rw [if_neg he]; decide)
  subst hr
  obtain ⟨E, hEE⟩ : ∃ E, E = (rdE (some l)).1 := ⟨_, rfl⟩
  have h3 : rdE (some l) = (E, some []) := by rw [hEE, ← h2]
  obtain ⟨h4, h5⟩ := rdE_inv hl h3
  have h6 := sm_read (st := some l) (fun m e => by injection e with e; subst e; exact hl)
  have h7 : E = (rdE1 (some l)).1 := by
   rw [rdE_pick] at h3
   cases h8 : (rdE1 (some l)).2 with
   | none => rw [h8] at h3; cases h3
   | some r =>
    rw [h8] at h3
    have h9 : (if mayE (rdE1 (some l)).1 = true then ((rdE1 (some l)).1, some r) else (emptyE, none)) = (E, some []) := h3
    split at h9
    ·injection h9 with h9 _; exact h9.symm
    ·cases h9
  rw [hE, ← hEE]
  exact ⟨h5, by rw [List.append_nil] at h4; exact h4.symm, by rw [h7]; exact h6⟩
set_option maxHeartbeats 16000000 in
theorem walk (A : Option Addr) (cap : Nat) (l : List UInt8) (w : World) (hr : Rd w w.heap.size (.slice A l.length cap) l) (hl : l.length ≤ 140737488351232) :
  Calls Tryz.prog 5 #[.slice A l.length cap] w fun e w' => e = .returned (.bool true) ∧ Below w.heap.size w w' := by
 have HLL := Lib.hid hl
 obtain ⟨n, hn⟩ : ∃ n, n = l.length := ⟨_, rfl⟩
 have HN := Lib.hid hn
 rw [← hn] at hr hl ⊢
 have HR := Lib.hid hr
 clear hr hn
 go_enter Tryz.func5, Tryz.ntmps5
 by_cases hbig : (n : Int) > 20000
 ·have hbig2 : decide ((n : Int) > 20000) = true := decide_eq_true hbig
  go_wp2_with fail
  refine (lives13_any _).mono ?_
  rintro e v9 ⟨rfl, hb⟩
  have HF := Lib.hid hb
  clear hb
  go_wp2_with fail
  go_ret
  exact ⟨rfl, HF.out⟩
 have hbig2 : decide ((n : Int) > 20000) = false := decide_eq_false hbig
 have hb0 := below_box (w := w) (.cells #[] 5)
 have HO0 := Lib.hid (own_zeroE w)
 have HR0 := Lib.hid (HR.out.keep hb0)
 have HB0 := Lib.hid hb0
 have hz0 := hb0.size
 clear hb0
 go_wp2_with (at_builtin; go_must (refine wpList_append_bytes rfl _ _ rfl w.heap.size _ [] rfl HO0.out _ _ l rfl HR0.out hz0 (by have := HN.out; have := HLL.out; simp only [List.length_nil]; omega) ?_))
 intro v1 w1 hv1 hg1
 have HB1 := Lib.hid (below_own HB0.out HO0.out hz0 hg1)
 have HD := Lib.hid (edecode_any v1 l w1 (show OwnB w1 w.heap.size v1 l from hv1).rdY (by have := HLL.out; omega))
 clear hv1 hg1 HO0 HR0 HB0 hz0 hbig hbig2
 go_wp2_with fail
 refine HD.out.mono ?_
 rintro q w2 ⟨cs, rfl, he, hb⟩
 have HRD := Lib.hid (dec_read (l := l) (by have := HLL.out; omega))
 obtain ⟨E, hE⟩ : ∃ E, E = decEE l := ⟨_, rfl⟩
 obtain ⟨x, hx⟩ : ∃ x, x = decEC l := ⟨_, rfl⟩
 have HDR := Lib.hid (fun (w : World) (h : Rd w w.heap.size (.slice A n cap) l) => r13decode_any _ l w h)
 unfold DecRE at HDR
 rw [← hE, ← hx] at HRD HDR
 rw [← hE] at he
 rw [← hx]
 clear hE hx
 obtain ⟨IA, ic, IA', ic', DA, dc, DA', dc', LA, lc, rfl, hat⟩ := he.at
 obtain ⟨w3, hw3⟩ : ∃ W, W = w2.alloc (.cells #[.int .i64 E.term, .int .i64 E.kind, .string E.coll, .string E.to, .int .i64 E.id.kind, .int .i64 E.id.num, .string E.id.text, .slice IA E.id.items.length ic, .slice IA' E.id.names.length ic', .int .i64 E.doc.kind, .int .i64 E.doc.num, .string E.doc.text, .slice DA E.doc.items.length dc, .slice DA' E.doc.names.length dc', .slice LA E.dels.length lc, .int .i64 E.session, .int .i64 E.number] 28) := ⟨_, rfl⟩
 obtain ⟨z1, hz1⟩ : ∃ z, z = w2.heap.size := ⟨_, rfl⟩
 have hb3 : Below w2.heap.size w2 w3 := by rw [hw3]; exact below_box _
 have HK3 : Hid (EBox w3 z1 E IA ic IA' ic' DA dc DA' dc' LA lc) := Lib.hid (by rw [hw3, hz1]; exact heap_alloc_new w2 _)
 have HA3 := Lib.hid ((hat.imp fun b hb' => hb'.2).up hb3)
 have HB3 := Lib.hid ((HB1.out.trans (hb.mono HB1.out.size)).trans (hb3.mono (by have := HB1.out.size; have := hb.size; omega)))
 clear he hat hb hb3 HB1 HD
 go_wp2_with fail
 rw [← hw3]
 try rw [← hz1]
 clear hw3 hz1
 refine (HDR.out _ ((HR.out.keep HB3.out).upE HB3.out.size)).mono ?_
 rintro q w4 ⟨ds, rfl, he, hb⟩
 obtain ⟨JA, jc, JA', jc', FA, fc, FA', fc', MA, mc, rfl, hat⟩ := he.at
 obtain ⟨w5, hw5⟩ : ∃ W, W = w4.alloc (.cells #[.int .i64 E.term, .int .i64 E.kind, .string E.coll, .string E.to, .int .i64 E.id.kind, .int .i64 E.id.num, .string E.id.text, .slice JA E.id.items.length jc, .slice JA' E.id.names.length jc', .int .i64 E.doc.kind, .int .i64 E.doc.num, .string E.doc.text, .slice FA E.doc.items.length fc, .slice FA' E.doc.names.length fc', .slice MA E.dels.length mc, .int .i64 E.session, .int .i64 E.number] 28) := ⟨_, rfl⟩
 obtain ⟨z2, hz2⟩ : ∃ z, z = w4.heap.size := ⟨_, rfl⟩
 have hb5 : Below w4.heap.size w4 w5 := by rw [hw5]; exact below_box _
 have hb35 : Below w3.heap.size w3 w5 := hb.trans (hb5.mono hb.size)
 have HJ5 : Hid (EBox w5 z2 E JA jc JA' jc' FA fc FA' fc' MA mc) := Lib.hid (by rw [hw5, hz2]; exact heap_alloc_new w4 _)
 have HC5 := Lib.hid ((hat.imp fun b hb' => hb'.2).up hb5)
 have HK5 := Lib.hid (HK3.out.below hb35)
 have HA5 := Lib.hid (HA3.out.up hb35)
 have HB5 := Lib.hid (HB3.out.trans (hb35.mono HB3.out.size))
 clear he hat hb hb5 hb35 HK3 HA3 HB3 HDR
 go_wp2_with fail
 rw [← hw5]
 try rw [← hz2]
 clear hw5 hz2
 refine (lives13_any _).mono ?_
 rintro q w6 ⟨rfl, hb⟩
 have HJ6 := Lib.hid (HJ5.out.below hb)
 have HC6 := Lib.hid (HC5.out.up hb)
 have HK6 := Lib.hid (HK5.out.below hb)
 have HA6 := Lib.hid (HA5.out.up hb)
 have HB6 := Lib.hid (HB5.out.trans (hb.mono HB5.out.size))
 have e1 : (x != x) = false := by simp
 have HS6 := Lib.hid (same_true HA6.out.l HC6.out.l)
 clear hb HJ5 HC5 HK5 HA5 HB5
 go_wp2_with (first | (refine wpList_load_ent (by rfl) _ rfl z1 rfl _ _ HK6.out rfl ?_; simp only [acR, Act.put]) | (refine wpList_load_ent (by rfl) _ rfl z2 rfl _ _ HJ6.out rfl ?_; simp only [acR, Act.put]))
 refine HS6.out.mono ?_
 rintro q w7 ⟨rfl, hb⟩
 have HK7 := Lib.hid (HK6.out.below hb)
 have HA7 := Lib.hid (HA6.out.up hb)
 have HB7 := Lib.hid (HB6.out.trans (hb.mono HB6.out.size))
 clear hb HJ6 HC6 HK6 HA6 HB6 HS6 e1
 by_cases h0 : x = 0
 rotate_left
 ·have h1 : (x != 0) = true := bne_iff_ne.2 h0
  have h2 : (x == 0) = false := beq_false_of_ne h0
  clear h0
  go_wp2_with fail
  go_ret
  exact ⟨by simp, HB7.out⟩
 obtain ⟨hm, hc, hsm⟩ := HRD.out h0
 have HEN := Lib.hid (eencode_any (fun b => b < w7.heap.size) E _ w7 (fun b hb => hb) HA7.out.l hsm)
 have HEE : Hid (encE E = l ∧ errE E = 0) := Lib.hid ⟨(encE_may hm).1.trans hc, (encE_may hm).2⟩
 subst h0
 clear hm hc hsm HRD
 go_wp2_with (refine wpList_load_ent (by rfl) _ rfl z1 rfl _ _ HK7.out rfl ?_; simp only [acR, Act.put])
 refine HEN.out.mono ?_
 rintro q w8 ⟨v, rfl, ho, hb⟩
 rw [HEE.out.1] at ho
 rw [HEE.out.2]
 have HB8 := Lib.hid (HB7.out.trans (hb.mono HB7.out.size))
 have e1 := ho.rdY.strY
 have e2 := (HR.out.keep HB8.out).strY
 have e3 : ((⟨l.toArray⟩ : ByteArray).toList == (⟨l.toArray⟩ : ByteArray).toList) = true := by simp
 obtain ⟨xs, hxs⟩ : ∃ x, x = (⟨l.toArray⟩ : ByteArray) := ⟨_, rfl⟩
 rw [← hxs] at e1 e2 e3
 clear ho hb hxs HEN HK7 HA7 HB7
 go_wp2_with fail
 go_ret
 exact ⟨by simp, HB8.out⟩
set_option maxRecDepth 100000 in
theorem lifted (os : Os) (started : os.Started) (H : Type) (enc : TypeId × Value → H) :
  ReturnsInHanded {} Tryz.checked os 5 .any (Rows.entryDecodesSpec.pre6 enc Tryz.prog Tryz.f5 Rows.entryDecodesRow.domain false) (Rows.entryDecodesSpec.post enc Tryz.prog Tryz.f5 false true false false) := by
 refine returnsInHanded_of_change_sized (C := Tryz.checked) own started (by kernel_rfl) Tryz.func5
  (ChangeSpec.witness6 (enc := enc) (C := Tryz.checked) false ⟨#[], #[.slice none 0 0], []⟩ 8 (by kernel_rfl) (by kernel_rfl) (by kernel_rfl) (by kernel_rfl)) ?_
 intro W base args ds gs before hval0 hW hcnd hsz0 _
 have hval : ∀ (j : Nat) t v, Tryz.f5.params[j]? = some t → args[j]? = some v → Value.okWide Tryz.prog W .any base t v := hval0
 have hsz : (DataW.weightsEach Tryz.prog (Tryz.f5.params.toList ++ Rows.entryDecodesSpec.plain.varTypes Tryz.prog) (ds ++ gs)).all (· ≤ reachBytes) = true := hsz0
 have hW' := hW
 obtain ⟨p, q, hA0, hV, rfl, hfz, hnd⟩ := hW
 have hA : DataW.TrodAll enc Tryz.prog W 0 (fun _ => true) true Tryz.f5.params.toList args.toList ds p := hA0
 rw [Tryz.params5] at hA hval hsz
 obtain ⟨v0, d0, rfl, rfl, h0⟩ := trodAll_one hA
 obtain ⟨rfl, rfl⟩ := trodVars_none hV
 obtain ⟨A0, n0, c0, rfl⟩ := okWide_slice Tryz.underlying35 (hval 0 35 v0 rfl rfl)
 have k0 := h0
 have lt0 : ∀ x ∈ p, x.block < W.heap.size := by obtain ⟨m, hm⟩ := k0; exact DataW.trod_lt m _ _ _ hm
 clear hA0 hval0
 obtain ⟨l0, hll0, hrd0, hln0⟩ : ∃ l : List UInt8, n0 = l.length ∧ Rd W W.heap.size (.slice A0 l.length c0) l ∧ n0 ≤ 140737488351232 := by
  obtain ⟨fuel, hf⟩ := k0
  obtain ⟨⟨l, hll, hrd⟩, hshape⟩ := open_bytes hf
  refine ⟨l, hll, hrd, ?_⟩
  rcases hshape with h0 | ⟨es, rs, hd, hes⟩
  ·omega
  ·simp only [] at hd
   subst hd
   have h3 := sized_slice hsz (j := 0) (t := 35) (e := 5) rfl rfl Tryz.underlying35
   have hb : Tryz.prog.bytesOf 5 = 1 := by kernel_rfl
   rw [hb] at h3
   simp only [reachBytes] at h3
   omega
 subst hll0
 refine (walk A0 c0 l0 W hrd0 hln0).mono fun e W' ⟨he, bel⟩ => ?_
 subst he
 exact ⟨_, rfl, _, _, _, [], _, [], hW', trodAll_mk1 (shut_bool Tryz.underlying4 _), trodAll_mk1 (Below.trod laidOut (by kernel_rfl) (of_decide_eq_true (by kernel_rfl)) k0 bel lt0), rfl, bel.frame _, fun h => by cases h⟩

theorem proved : Rows.EntryDecodesSaid :=
 OpenClaim.holds_of_wide 5 Tryz.f5 rfl rfl rfl rfl rfl rfl rfl ⟨rfl, rfl, rfl, rfl, rfl⟩ rfl rfl rfl rfl rfl (by kernel_rfl) Tryz.func5 (by kernel_rfl)
  (of_decide_eq_true (by kernel_rfl)) (by unfold Func.isWrapper; first | (rw [if_pos (by decide +kernel)]; kernel_rfl) | (rw [if_neg (by decide +kernel)]; exact ⟨rfl, rfl⟩))
  (fun os started H enc _ => lifted os started H enc)

end Go.Proofs.YtpcdngpppjdgcaaGreat.EDecodes
