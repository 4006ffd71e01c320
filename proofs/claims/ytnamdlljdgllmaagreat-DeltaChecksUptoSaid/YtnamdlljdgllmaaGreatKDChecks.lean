/- Which changes, and lists, may be, whether they are free, which paths they touch, and a copy: as the document says; where the two arguments hold together at most 1048576 values and letters. -/
import Derived.Test.YtnamdlljdgllmaaGreatKDlR
import Derived.Test.YtnamdlljdgllmaaGreatKDmG
import Derived.Test.YtnamdlljdgllmaaGreatKOpenDl
import Derived.Test.YtnamdlljdgllmaaGreatKOpenDD
import Derived.JoinedCond
import Derived.Deep.CondSized
import Derived.SizedLaws
import Derived.ProofKit
import Derived.OpenShut
import Derived.ShutString
import Derived.ChangeOld
import Derived.Below
import Derived.Deep.Slices
namespace Go.Proofs.YtnamdlljdgllmaaGreat.DChecks
set_option linter.unusedVariables false
set_option linter.unusedSimpArgs false
open Go.ChangeShapes Go.WideShapes Go.ChangeAt Go.RowKit Go.Joins Go.Deep
set_option linter.unusedVariables false

theorem own : ownKnob Tryz.prog.godebug = none := by kernel_rfl
theorem laidOut : laidOutB Tryz.prog = true := by kernel_rfl
set_option maxRecDepth 100000
theorem touch_take {l : List DelT} {p : List ByteArray} {k : Nat} (hk : k < l.length) : touchD (l.take (k + 1)) p = (touchD (l.take k) p || (begP l[k].path p || begP p l[k].path)) := by
  unfold touchD
  rw [List.take_succ_eq_append_getElem hk, List.any_append]
  simp [meetP]
set_option maxHeartbeats 16000000 in
theorem walk (l : List DelT) (D : Option Addr) (dc : Nat) (A : Option Addr) (c : Nat) (q : List ByteArray) (w : World) (h : DelsL w (fun b => b < w.heap.size) D l) (hD : D = none → dc = 0 ∧ l = []) (hn : l.length ≤ 1172812402961) (hdp : ∀ d ∈ l, depthT d.val ≤ 1048576) (hq1 : q.length ≤ 8796093021952) (hq : StrsAt w (fun b => b < w.heap.size) A q) (hqc : q.length ≤ c) :
    Calls Tryz.prog 3 #[.slice D l.length dc, .slice A q.length c] w fun e w' => e = .returned (.bool true) ∧ Below w.heap.size w w' := by
  have HL := Lib.hid h
  have HQ := Lib.hid hq
  have HDN := Lib.hid hD
  have hn2 : l.length ≤ 140737488351232 := by omega
  have hql : q.length ≤ 140737488351232 := by omega
  have HSD : Hid (SmallD l) := Lib.hid fun d hd => by have := hdp d hd; omega
  have HLG := Lib.hid (r6large_any (fun b => b < w.heap.size) D dc l w (fun b hb => hb) h hn2)
  clear h hq hD hdp
  go_enter Tryz.func3, Tryz.ntmps3
  go_wp2_with fail
  refine HLG.out.mono ?_
  rintro e w2 ⟨rfl, hb⟩
  have HB2 := Lib.hid hb
  clear hb HLG
  cases hlg : largeD l with
  | true =>
    clear hlg
    go_wp2_with fail
    refine (lives6_any _).mono ?_
    rintro e v9 ⟨rfl, hb⟩
    have HF := Lib.hid (toStart HB2.out hb)
    clear hb
    go_wp2_with fail
    go_ret
    exact ⟨rfl, HF.out⟩
  | false =>
  have h100 : l.length ≤ 100 := (largeD_small hlg).1
  clear hlg
  by_cases h50 : 50 < q.length
  · have d1 : decide ((q.length : Int) > 50) = true := decide_eq_true (by omega)
    go_wp2_with fail
    refine (lives6_any _).mono ?_
    rintro e v9 ⟨rfl, hb⟩
    have HF := Lib.hid (toStart HB2.out hb)
    clear hb
    go_wp2_with fail
    go_ret
    exact ⟨rfl, HF.out⟩
  have d1 : decide ((q.length : Int) > 50) = false := decide_eq_false (by omega)
  go_wp2_with fail
  go_loopw [5, 6] (fun a i wr => ∃ k : Nat, i = .int .i64 k ∧ k ≤ l.length ∧ a = .bool (touchD (l.take k) q) ∧ Hid (Below w.heap.size w wr)) (fun _ i _ => l.length - (intOf i).toNat)
  case atStart => exact ⟨0, rfl, by omega, rfl, HB2⟩
  case round =>
    clear HB2
    obtain ⟨k, rfl, hk, rfl, HB⟩ := hrel
    by_cases hlt : k < l.length
    · have d2 : decide ((k : Int) < (l.length : Int)) = true := decide_eq_true (by omega)
      obtain ⟨p, off, PA, pc, VA, vc, VA', vc', rfl, hpS, ho, x0, x1, x2, x3, x4, x5, x6, x7⟩ := HL.out.cells k hlt
      have hp := HB.out.block p hpS
      have hpl : p < wr.heap.size := Nat.lt_of_lt_of_le hpS HB.out.size
      have HOP : Hid (∀ W, Below w.heap.size w W → DelL W (fun b => b < w.heap.size) l[k] #[.int .i64 l[k].kind, .slice PA l[k].path.length pc, .int .i64 l[k].val.kind, .int .i64 l[k].val.num, .string l[k].val.text, .slice VA l[k].val.items.length vc, .slice VA' l[k].val.names.length vc', .int .i64 l[k].num]) := Lib.hid fun W hW => ho.keep fun b hb => hW.block b hb
      have HPS : Hid (∀ W, Below w.heap.size w W → StrsAt W (fun b => b < w.heap.size) PA l[k].path) := Lib.hid fun W hW => by
        obtain ⟨PA1, pc1, VA1, vc1, VA2, vc2, he, hv2, hp2, -⟩ := ho
        simp only [Array.mk.injEq, List.cons.injEq, Value.slice.injEq, true_and, and_true] at he
        obtain ⟨⟨rfl, rfl⟩, ⟨rfl, rfl⟩, ⟨rfl, rfl⟩⟩ := he
        exact hp2.keep fun b hb => hW.block b hb
      have hpn : l[k].path.length ≤ 8796093021952 ∧ l[k].path.length ≤ pc := by
        obtain ⟨PA1, pc1, VA1, vc1, VA2, vc2, he, hv2, hp2, h3, h4, h5, h6, h7⟩ := ho
        simp only [Array.mk.injEq, List.cons.injEq, Value.slice.injEq, true_and, and_true] at he
        obtain ⟨⟨rfl, rfl⟩, ⟨rfl, rfl⟩, ⟨rfl, rfl⟩⟩ := he
        exact ⟨h7, h3⟩
      have hdk := HSD.out _ (List.getElem_mem hlt)
      have HTT := Lib.hid (touch_take (p := q) hlt)
      obtain ⟨T, hT⟩ : ∃ T, T = touchD (l.take k) q := ⟨_, rfl⟩
      rw [← hT] at HTT ⊢
      obtain ⟨m, hm⟩ : ∃ m, m = mayD l[k] := ⟨_, rfl⟩
      have HM := Lib.hid hm
      have hmm : (m != m) = false := by simp
      have HX1 := Lib.hid (And.intro x1 hpl)
      have hrow : (wr.cell? ⟨p, off + k * 8 + 1, none⟩) = some (.slice PA l[k].path.length pc) := (World.cell?_of_block (a := ⟨p, off + k * 8 + 1, none⟩) hp).trans x1
      clear hT hm ho hrow
      go_wp2_with fail
      refine wp_region_mix [0, 1, 2, 3, 5, 6, 7, 8, 4, 9, 10] (by kernel_rfl) (by kernel_rfl) (fun _ d _ _ _ h => by cases d <;> exact h) ?_
      simp only [atNats, List.filterMap_cons, List.filterMap_nil, List.getElem?_toArray, List.getElem?_cons_succ, List.getElem?_cons_zero]
      have z0 := cell_later (B := wr.heap.size) (w := wr.drew) (show wr.drew.cell? ⟨p, off + k * 8, none⟩ = _ from (World.cell?_of_block (a := ⟨p, off + k * 8, none⟩) hp).trans x0) hpl
      have z1 := cell_later (B := wr.heap.size) (w := wr.drew) (show wr.drew.cell? ⟨p, off + k * 8 + 1, none⟩ = _ from (World.cell?_of_block (a := ⟨p, off + k * 8 + 1, none⟩) hp).trans x1) hpl
      have z2 := cell_later (B := wr.heap.size) (w := wr.drew) (show wr.drew.cell? ⟨p, off + k * 8 + 2, none⟩ = _ from (World.cell?_of_block (a := ⟨p, off + k * 8 + 2, none⟩) hp).trans x2) hpl
      have z3 := cell_later (B := wr.heap.size) (w := wr.drew) (show wr.drew.cell? ⟨p, off + k * 8 + 3, none⟩ = _ from (World.cell?_of_block (a := ⟨p, off + k * 8 + 3, none⟩) hp).trans x3) hpl
      have z4 := cell_later (B := wr.heap.size) (w := wr.drew) (show wr.drew.cell? ⟨p, off + k * 8 + 4, none⟩ = _ from (World.cell?_of_block (a := ⟨p, off + k * 8 + 4, none⟩) hp).trans x4) hpl
      have z5 := cell_later (B := wr.heap.size) (w := wr.drew) (show wr.drew.cell? ⟨p, off + k * 8 + 5, none⟩ = _ from (World.cell?_of_block (a := ⟨p, off + k * 8 + 5, none⟩) hp).trans x5) hpl
      have z6 := cell_later (B := wr.heap.size) (w := wr.drew) (show wr.drew.cell? ⟨p, off + k * 8 + 6, none⟩ = _ from (World.cell?_of_block (a := ⟨p, off + k * 8 + 6, none⟩) hp).trans x6) hpl
      have z7 := cell_later (B := wr.heap.size) (w := wr.drew) (show wr.drew.cell? ⟨p, off + k * 8 + 7, none⟩ = _ from (World.cell?_of_block (a := ⟨p, off + k * 8 + 7, none⟩) hp).trans x7) hpl
      have HBD : Hid (Below w.heap.size w wr.drew) := Lib.hid HB.out.drew
      first | refine mix_pure ?_ | refine mix_pureB ?_
      simp only [List.takeWhile, List.dropWhile, isPure, Nat.reduceBNe]
      repeat (go_big_quiet_step (fail))
      refine wpQuiet_nil ?_
      clear z0 z1 z2 z3 z4 z5 z6 z7 x0 x1 x2 x3 x4 x5 x6 x7 hp hpl HB
      first | refine mix_call rfl (fun K hK => ?_) | refine mix_callB rfl (fun K hK => ?_)
      go_simp
      refine (dlmay_any (fun b => b < w.heap.size) l[k] _ wr.drew (fun b hb => Nat.lt_of_lt_of_le hb HBD.out.size) (HOP.out _ HBD.out) hdk).mono ?_
      rintro e w3 ⟨rfl, hb⟩
      refine hK _ _ hb ?_
      clear hK K
      try simp only [Act.put]
      have HB3 := Lib.hid (HBD.out.trans (hb.mono HBD.out.size))
      clear hb HBD
      first | refine mix_call rfl (fun K hK => ?_) | refine mix_callB rfl (fun K hK => ?_)
      go_simp
      refine (r6may_any (fun b => b < w.heap.size) l[k] _ w3 (fun b hb => Nat.lt_of_lt_of_le hb HB3.out.size) (HOP.out _ HB3.out) hdk).mono ?_
      rintro e w4 ⟨rfl, hb⟩
      refine hK _ _ hb ?_
      clear hK K
      try simp only [Act.put]
      have HB4 := Lib.hid (HB3.out.trans (hb.mono HB3.out.size))
      clear hb HB3
      rw [← HM.out]
      first | refine mix_pure ?_ | refine mix_pureB ?_
      simp only [List.takeWhile, List.dropWhile, isPure, Nat.reduceBNe]
      repeat (go_big_quiet_step (fail))
      refine wpQuiet_nil ?_
      unfold wpMix
      have r1 : w4.cell? ⟨p, off + k * 8 + 1, none⟩ = some (.slice PA l[k].path.length pc) := (World.cell?_of_block (a := ⟨p, off + k * 8 + 1, none⟩) (HB4.out.block p hpS)).trans HX1.out.1
      cases T with
      | true =>
        go_wp2_with fail
        go_roundw
        case rel => exact ⟨k + 1, by go_num, by omega, by rw [HTT.out]; rfl, HB4⟩
        case measure => simp [intOf]; omega
      | false =>
        have HG1 := Lib.hid (rbegins_any PA A pc c l[k].path q w4 (fun b => b < w.heap.size) (fun b => b < w.heap.size) (HPS.out _ HB4.out) (HQ.out.keep fun b hb => HB4.out.block b hb) (fun b hb => Nat.lt_of_lt_of_le hb HB4.out.size) (fun b hb => Nat.lt_of_lt_of_le hb HB4.out.size) (by omega) (by omega))
        obtain ⟨b1, hb1⟩ : ∃ b, b = begP l[k].path q := ⟨_, rfl⟩
        obtain ⟨b2, hb2⟩ : ∃ b, b = begP q l[k].path := ⟨_, rfl⟩
        rw [← hb1] at HG1 HTT
        rw [← hb2] at HTT
        have HB22 := Lib.hid hb2
        clear hb1 hb2
        go_wp2_with fail
        refine HG1.out.mono ?_
        rintro e w5 ⟨rfl, hb⟩
        have HB5 := Lib.hid (HB4.out.trans (hb.mono HB4.out.size))
        clear hb HG1 HB4 r1
        cases b1 with
        | true =>
          go_wp2_with fail
          go_roundw
          case rel => exact ⟨k + 1, by go_num, by omega, by rw [HTT.out]; rfl, HB5⟩
          case measure => simp [intOf]; omega
        | false =>
          have r1 : w5.cell? ⟨p, off + k * 8 + 1, none⟩ = some (.slice PA l[k].path.length pc) := (World.cell?_of_block (a := ⟨p, off + k * 8 + 1, none⟩) (HB5.out.block p hpS)).trans HX1.out.1
          have HG2 := Lib.hid (rbegins_any A PA c pc q l[k].path w5 (fun b => b < w.heap.size) (fun b => b < w.heap.size) (HQ.out.keep fun b hb => HB5.out.block b hb) (HPS.out _ HB5.out) (fun b hb => Nat.lt_of_lt_of_le hb HB5.out.size) (fun b hb => Nat.lt_of_lt_of_le hb HB5.out.size) (by omega) (by omega))
          rw [← HB22.out] at HG2
          go_wp2_with fail
          refine HG2.out.mono ?_
          rintro e w6 ⟨rfl, hb⟩
          have HB6 := Lib.hid (HB5.out.trans (hb.mono HB5.out.size))
          clear hb HG2 HB5 r1
          go_wp2_with fail
          go_roundw
          case rel => exact ⟨k + 1, by go_num, by omega, by rw [HTT.out]; simp, HB6⟩
          case measure => simp [intOf]; omega
    · have hke : k = l.length := by omega
      have d2 : decide ((k : Int) < (l.length : Int)) = false := decide_eq_false (by omega)
      have htk : touchD (l.take k) q = touchD l q := by rw [hke, List.take_length]
      rw [htk]
      obtain ⟨T, hT⟩ : ∃ T, T = touchD l q := ⟨_, rfl⟩
      rw [← hT]
      have HTT := Lib.hid hT
      have HLV := Lib.hid (lives6_any wr)
      clear hke htk hT
      go_wp2_with fail
      refine HLV.out.mono ?_
      rintro e w3 ⟨rfl, hb⟩
      have HB3 := Lib.hid (toStart HB.out hb)
      have HC := Lib.hid (dlcheck_any (fun b => b < w.heap.size) D dc l w3 (fun b hb => Nat.lt_of_lt_of_le hb HB3.out.size) (HL.out.below (fun _ h => h) HB3.out) hn2 HSD.out)
      clear hb HLV HB
      go_wp2_with fail
      refine HC.out.mono ?_
      rintro e w4 ⟨rfl, hb⟩
      have HB4 := Lib.hid (toStart HB3.out hb)
      have HC2 := Lib.hid (r6check_any (fun b => b < w.heap.size) D dc l w4 (fun b hb => Nat.lt_of_lt_of_le hb HB4.out.size) (HL.out.below (fun _ h => h) HB4.out) hn2 HSD.out)
      clear hb HC HB3
      go_wp2_with fail
      refine HC2.out.mono ?_
      rintro e w5 ⟨rfl, hb⟩
      have HB5 := Lib.hid (toStart HB4.out hb)
      have HF := Lib.hid (dlfree_any (fun b => b < w.heap.size) D dc l w5 (fun b hb => Nat.lt_of_lt_of_le hb HB5.out.size) (HL.out.below (fun _ h => h) HB5.out) (by omega))
      obtain ⟨x, hx⟩ : ∃ x, x = checkD l := ⟨_, rfl⟩
      rw [← hx]
      have hxx : (x == x) = true := by simp
      clear hb HC2 HB4 hx
      go_wp2_with fail
      refine HF.out.mono ?_
      rintro e w6 ⟨rfl, hb⟩
      have HB6 := Lib.hid (toStart HB5.out hb)
      have HF2 := Lib.hid (r6free_any (fun b => b < w.heap.size) D dc l w6 (fun b hb => Nat.lt_of_lt_of_le hb HB6.out.size) (HL.out.below (fun _ h => h) HB6.out) hn2)
      clear hb HF HB5
      go_wp2_with fail
      refine HF2.out.mono ?_
      rintro e w7 ⟨rfl, hb⟩
      have HB7 := Lib.hid (toStart HB6.out hb)
      have HT := Lib.hid (dltouch_any (fun b => b < w.heap.size) D dc l A c q w7 (fun b hb => Nat.lt_of_lt_of_le hb HB7.out.size) (HL.out.below (fun _ h => h) HB7.out) hn2 (HQ.out.keep fun b hb => HB7.out.block b hb) hqc hq1)
      obtain ⟨y, hy⟩ : ∃ y, y = freeD l := ⟨_, rfl⟩
      rw [← hy]
      have hyy : (y == y) = true := by simp
      rw [← HTT.out] at HT
      clear hb HF2 HB6 hy
      go_wp2_with fail
      refine HT.out.mono ?_
      rintro e w8 ⟨rfl, hb⟩
      have HB8 := Lib.hid (toStart HB7.out hb)
      have HCL := Lib.hid (dlclone_any (fun b => b < w.heap.size) D dc l w8 (fun b hb => Nat.lt_of_lt_of_le hb HB8.out.size) (HL.out.below (fun _ h => h) HB8.out) HDN.out (by omega))
      have htt : (T == T) = true := by simp
      clear hb HT HB7
      go_wp2_with fail
      refine HCL.out.mono ?_
      rintro e w9 ⟨E, ec, rfl, -, -, hcl, hb⟩
      have HB9 := Lib.hid (toStart HB8.out hb)
      have HS1 := Lib.hid (r6same_any (fun b => b < w9.heap.size) E ec l D dc l w9 (fun b hb => hb) hcl ((HL.out.below (fun _ h => h) HB9.out).imp fun b hb => Nat.lt_of_lt_of_le hb HB9.out.size) hn2 hn2)
      clear hb hcl HCL HB8
      go_wp2_with fail
      refine HS1.out.mono ?_
      rintro e wa ⟨⟨r, rfl, hr⟩, hb⟩
      obtain rfl : r = true := hr.2 trivial
      have HBa := Lib.hid (toStart HB9.out hb)
      have HS2 := Lib.hid (dlsame_any (fun b => b < w.heap.size) D dc l D dc l wa (fun b hb => Nat.lt_of_lt_of_le hb HBa.out.size) (HL.out.below (fun _ h => h) HBa.out) (HL.out.below (fun _ h => h) HBa.out) hn2 hn2)
      clear hr hb HS1 HB9
      go_wp2_with fail
      refine HS2.out.mono ?_
      rintro e wb ⟨⟨r, rfl, hr⟩, hb⟩
      obtain rfl : r = true := hr.2 trivial
      have HBb := Lib.hid (toStart HBa.out hb)
      clear hr hb HS2 HBa
      go_wp2_with fail
      go_ret
      exact ⟨rfl, HBb.out⟩

theorem bulk_one {H : Type} (d : DataW H) : 1 ≤ Rows.uptoBulk d := by
  cases d with
  | lit l => cases l <;> simp [Rows.uptoBulk]
  | nil => simp [Rows.uptoBulk]
  | ptr d => simp [Rows.uptoBulk]
  | slice elems spare => simp [Rows.uptoBulk]
  | agg parts => simp [Rows.uptoBulk]
  | iface t d => simp [Rows.uptoBulk]
  | map entries => simp [Rows.uptoBulk]
  | held h => simp [Rows.uptoBulk]
theorem bulk_length {H : Type} (l : List (DataW H)) : l.length ≤ Rows.uptoBulkAll l := by
  induction l with
  | nil => simp [Rows.uptoBulkAll]
  | cons x r ih => have := bulk_one x; simp only [Rows.uptoBulkAll, List.length_cons]; omega
theorem bulk_slice {H : Type} (es rs : List (DataW H)) : es.length + 1 ≤ Rows.uptoBulk (.slice es rs) := by
  have := bulk_length es
  simp only [Rows.uptoBulk]
  omega

set_option maxRecDepth 100000 in
theorem lifted (os : Os) (started : os.Started) (H : Type) (enc : TypeId × Value → H) (F : Stop.Interp) :
    ReturnsInHanded {} Tryz.checked os 3 .any ((Rows.OpenSpec.upto Rows.deltaChecksSpec).pre6 enc Tryz.prog Tryz.f3 Rows.deltaChecksUptoRow.domain false) (((Rows.OpenSpec.upto Rows.deltaChecksSpec).at F).post enc Tryz.prog Tryz.f3 false true false false) := by
  refine returnsInHanded_of_cond_sized (C := Tryz.checked) (s := Rows.OpenSpec.upto Rows.deltaChecksSpec) (k := Rows.uptoSmall) rfl own started (by kernel_rfl) Tryz.func3
    (OpenSpec.witness (enc := enc) (C := Tryz.checked) (s := Rows.OpenSpec.upto Rows.deltaChecksSpec) (k := Rows.uptoSmall) rfl false ⟨#[], #[.slice none 0 0, .slice none 0 0], []⟩ 8 (by kernel_rfl) (by kernel_rfl) (by kernel_rfl)
      (x := ([.nil, .nil], [], [])) (by kernel_rfl) rfl (by kernel_rfl)) ?_
  intro W base args ds gs before hval0 hW hcnd hk hsz0 _
  have hval : ∀ (j : Nat) t v, Tryz.f3.params[j]? = some t → args[j]? = some v → Value.okWide Tryz.prog W .any base t v := hval0
  have hsz : (DataW.weightsEach Tryz.prog (Tryz.f3.params.toList ++ Rows.deltaChecksSpec.plain.varTypes Tryz.prog) (ds ++ gs)).all (· ≤ reachBytes) = true := hsz0
  have hW' := hW
  obtain ⟨p, q, hA0, hV, rfl, hfz, hnd⟩ := hW
  have hA : DataW.TrodAll enc Tryz.prog W 0 (fun _ => true) true Tryz.f3.params.toList args.toList ds p := hA0
  rw [Tryz.params3] at hA hval hsz
  obtain ⟨v0, v1, d0, d1, p0, p1, rfl, rfl, rfl, h0, h1⟩ := trodAll_two hA
  obtain ⟨rfl, rfl⟩ := trodVars_none hV
  obtain ⟨A0, n0, c0, rfl⟩ := okWide_slice Tryz.underlying22 (hval 0 22 v0 rfl rfl)
  have k0 := h0
  have lt0 : ∀ x ∈ p0, x.block < W.heap.size := by obtain ⟨m, hm⟩ := k0; exact DataW.trod_lt m _ _ _ hm
  have wt0 : ∀ n ∈ d0.weights Tryz.prog 22, n ≤ reachBytes := fun n hn => by have := List.all_eq_true.1 hsz n (DataW.weights_mem_each (j := 0) rfl rfl n hn); simpa using this
  obtain ⟨A1, n1, c1, rfl⟩ := okWide_slice Tryz.underlying23 (hval 1 23 v1 rfl rfl)
  have k1 := h1
  have lt1 : ∀ x ∈ p1, x.block < W.heap.size := by obtain ⟨m, hm⟩ := k1; exact DataW.trod_lt m _ _ _ hm
  have wt1 : ∀ n ∈ d1.weights Tryz.prog 23, n ≤ reachBytes := fun n hn => by have := List.all_eq_true.1 hsz n (DataW.weights_mem_each (j := 1) rfl rfl n hn); simpa using this
  clear hA0 hval0
  obtain ⟨os0, hn0, ho0, hc0, hl0, hos0, hdp0⟩ : ∃ os : List DelT, n0 = os.length ∧ (A0 = none → c0 = 0 ∧ os = []) ∧ os.length ≤ c0 ∧ os.length ≤ 1172812402961 ∧ DelsL W (fun b => b < W.heap.size) A0 os ∧ ∀ d ∈ os, depthT d.val ≤ Rows.uptoBulk d0 := by
    obtain ⟨m, hm⟩ := k0
    obtain ⟨B, e, os, he, g0, g1, g2, g3, g4⟩ := open_delsD hm wt0
    have he' : [Value.slice A0 n0 c0] = [Value.slice B os.length e] := he
    simp only [List.cons.injEq, Value.slice.injEq, and_true] at he'
    obtain ⟨rfl, rfl, rfl⟩ := he'
    exact ⟨os, rfl, g0, g1, g2, g3, g4⟩
  subst hn0
  obtain ⟨ys1, hn1, hc1, ho1, hy1, hz1⟩ : ∃ ys : List ByteArray, n1 = ys.length ∧ ys.length ≤ c1 ∧ (A1 = none → c1 = 0) ∧ ys.length ≤ 8796093021952 ∧ StrsAt W (fun b => b < W.heap.size) A1 ys := by
    obtain ⟨m, hm⟩ := k1
    obtain ⟨B, e, ys, he, g0, g00, g1, g2⟩ := open_names2 hm wt1
    have he' : [Value.slice A1 n1 c1] = [Value.slice B ys.length e] := he
    simp only [List.cons.injEq, Value.slice.injEq, and_true] at he'
    obtain ⟨rfl, rfl, rfl⟩ := he'
    exact ⟨ys, rfl, g0, g00, g1, g2⟩
  subst hn1
  have hk2 : Rows.uptoBulkAll ([d0, d1] ++ []) ≤ 1048576 := of_decide_eq_true hk
  simp only [List.cons_append, List.nil_append, Rows.uptoBulkAll] at hk2
  refine (walk os0 A0 c0 A1 c1 ys1 W hos0 ho0 hl0 (fun d hd => by have := hdp0 d hd; omega) hy1 hz1 hc1).mono fun e W' ⟨he, bel⟩ => ?_
  subst he
  exact ⟨_, rfl, _, _, _, [], _, [], hW', trodAll_mk1 (shut_bool Tryz.underlying4 _), trodAll_mk2 (Below.trod laidOut (by kernel_rfl) (of_decide_eq_true (by kernel_rfl)) k0 bel lt0) (Below.trod laidOut (by kernel_rfl) (of_decide_eq_true (by kernel_rfl)) k1 bel lt1), rfl, bel.frame _, fun h => by cases h⟩

theorem proved : Rows.DeltaChecksUptoSaid :=
  OpenClaim.holds_of_cond 3 Tryz.f3 rfl rfl rfl rfl rfl rfl rfl ⟨rfl, rfl, rfl, rfl, rfl⟩ rfl rfl rfl rfl rfl (by kernel_rfl) Tryz.func3 (by kernel_rfl)
    (of_decide_eq_true (by kernel_rfl)) (by unfold Func.isWrapper; first | (rw [if_pos (by decide +kernel)]; kernel_rfl) | (rw [if_neg (by decide +kernel)]; exact ⟨rfl, rfl⟩))
    (fun os started H enc _ F => lifted os started H enc F)

end Go.Proofs.YtnamdlljdgllmaaGreat.DChecks
