/- The lives of layer 13. -/
import Derived.Test.YtlipkmdjpligeaaGreatKFiG
import Derived.Test.YtlipkmdjpligeaaGreatKEnM
import Derived.Test.YtlipkmdjpligeaaGreatKOpenDl
import Derived.Test.YtlipkmdjpligeaaGreatKRefZ
import Derived.Test.YtlipkmdjpligeaaGreatKEnA
import Derived.Test.YtlipkmdjpligeaaGreatKDlS
import Derived.Test.YtlipkmdjpligeaaGreatKTrD
import Derived.Test.YtlipkmdjpligeaaGreatKPathA
import Derived.Test.YtlipkmdjpligeaaGreatKValF
import Derived.Test.YtlipkmdjpligeaaGreatKVr
import Derived.Test.YtlipkmdjpligeaaGreatKOpenS
import Derived.Test.YtlipkmdjpligeaaGreatKEnJ
import Derived.Test.YtlipkmdjpligeaaGreatKIdx
import Derived.Deep.MidRow
import Derived.Lib.Join
import Derived.Outline
import Derived.StillTailTactics
import Derived.Lib.DecodeN
import Derived.Laws.AppendOwnNone
import Derived.Lib.AppendZerosOnto
import Derived.Lib.AppendZeros
import Derived.Lib.SliceRun
import Derived.Lib.OthersKept
import Derived.Laws.OwnMore
import Derived.Laws.AppendOwn
import Derived.Laws.ResultCell
namespace Go.Proofs.YtlipkmdjpligeaaGreat
set_option linter.unusedVariables false
set_option linter.unusedSimpArgs false
open Go.RowKit
set_option maxRecDepth 100000
theorem smL (e : EntT) (h1 : e.id = noneV) (h2 : e.doc = noneV) (h3 : e.dels = []) : SmE e := by
 refine ⟨?_, ?_, ?_, ?_, fun _ => ?_⟩
 ·rw [h1]; exact Nat.le_trans (show depthT noneV ≤ 8 by decide) (by omega)
 ·rw [h2]; exact Nat.le_trans (show depthT noneV ≤ 8 by decide) (by omega)
 ·rw [h1]; exact Nat.le_trans (show sizeT noneV ≤ 8 by decide) (by omega)
 ·rw [h2]; exact Nat.le_trans (show sizeT noneV ≤ 8 by decide) (by omega)
 ·rw [h3]; exact ⟨fun d hd => absurd hd List.not_mem_nil, fun d hd => absurd hd List.not_mem_nil⟩
theorem wpQuiet_load_ent {P : Program} {ops : Array Oper} {C : World → Prop} {Q : Act → Prop} {rest : List Oper} {o : Oper} {a : Act} (hP : P = Tryz.prog) (hw : Region.wanted o (yielded ops a.tmps) = true) (x : Operand) (ho : o.op = .load 30 x)
  (g : Nat) (hx : a.eval x = .pointer (some ⟨g, 0, none⟩)) (cs : Array Value) (hg : ∀ u, C u → u.heap[g]? = some (.cells cs 30 (0, 0))) (hn : cs.size = 17)
  (h : wpQuiet P ops C Q rest (a.put o.dst (.agg cs))) : wpQuiet P ops C Q (o :: rest) a := by
 subst hP
 unfold wpQuiet
 rw [if_pos hw]
 refine ⟨.agg cs, fun u hu => ?_, h⟩
 have e := run_loadVar_row (P := Tryz.prog) u g 30 30 cs (0, 0) _ (hg u hu) Tryz.underlying30 rfl (by rw [hn]; kernel_rfl)
 unfold Oper.quietAt execOp
 simp only [ho, hx, Instr.loadAt, Instr.sureAddr, Sem.run_bind, Sem.run_pure, Result.andThen_ok, e]
 exact ⟨rfl, rfl⟩
open Lib (hid)
def fL19 : FilT := ⟨⟨#[99]⟩, [], 96⟩
def gL19 : FilT := ⟨⟨#[]⟩, [], 1⟩
def aL19 : EntT := ⟨0, 6, ⟨#[99]⟩, ⟨#[]⟩, noneV, noneV, [], 0, 0⟩
def bL19 : EntT := ⟨0, 5, ⟨#[100]⟩, ⟨#[]⟩, noneV, noneV, [], 0, 0⟩
theorem f19_may : mayFl fL19 = true := by decide +kernel
theorem g19_may : mayFl gL19 = false := by decide +kernel
theorem fa19 : matchFl fL19 aL19 = true := by decide +kernel
theorem fb19 : matchFl fL19 bL19 = false := by decide +kernel
theorem ea19 : endsFl fL19 aL19 = true := by decide +kernel
theorem eb19 : endsFl fL19 bL19 = false := by decide +kernel
theorem c19 : countFl fL19 [bL19, aL19, aL19] = 1 := by decide +kernel
theorem w65 : wantK [6, 5] = 96 := by decide +kernel
theorem w2 : wantK [2] = 4 := by decide +kernel
theorem bare_at (w : World) (S : Nat → Prop) (k : Int) (c : ByteArray) (hk : Rng k) (hc : c.size ≤ 140737488351232) : EntL w S ⟨0, k, c, ⟨#[]⟩, noneV, noneV, [], 0, 0⟩ #[.int .i64 0, .int .i64 k, .string c, .string ⟨#[]⟩, .int .i64 0, .int .i64 0, .string ⟨#[]⟩, .slice none 0 0, .slice none 0 0, .int .i64 0, .int .i64 0, .string ⟨#[]⟩, .slice none 0 0, .slice none 0 0, .slice none 0 0, .int .i64 0, .int .i64 0] :=
 ⟨none, 0, none, 0, none, 0, none, 0, none, 0, rfl, leaf_lv _ _ _ _ _ (by unfold Rng; omega) (by unfold Rng; omega) (by decide), leaf_lv _ _ _ _ _ (by unfold Rng; omega) (by unfold Rng; omega) (by decide), nil_dels _ _, by show 0 ≤ 0; omega, fun _ => rfl, by show 0 ≤ _; omega, by unfold Rng; simp only; omega, hk, by unfold Rng; simp only; omega, by unfold Rng; simp only; omega, hc, by show (⟨#[]⟩ : ByteArray).size ≤ _; decide⟩
theorem fil_at (w : World) (S : Nat → Prop) (c : ByteArray) (k : Int) (hk : Rng k) (hc : c.size ≤ 140737488351232) : FilAt w S ⟨c, [], k⟩ none 0 := ⟨strs_nil _ _ _, by show 0 ≤ _; omega, hc, hk, by show 0 ≤ 0; omega, by omega, fun _ => rfl⟩
theorem rng_lit {k : Int} (h0 : 0 ≤ k) (h1 : k ≤ 255) : Rng k := by unfold Rng; omega
theorem ints_two {w : World} {g : Nat} (h : w.heap[g]? = some (.cells #[.int .i64 6, .int .i64 5] 3 (0, 0))) : IntsL w (fun b => b = g) (some ⟨g, 0, none⟩) [6, 5] := fun _ => ⟨g, 0, rfl, rfl, fun i hi => by
 match i, hi with
 | 0, _ => exact ⟨#[.int .i64 6], fun j v hv => by
   obtain rfl : j = 0 := by have := (Array.getElem?_eq_some_iff.1 hv).1; simp at this; omega
   rw [Go.Joins.cell_of_block h]; exact hv, rfl, (show Rng 6 from rng_lit (by decide) (by decide))⟩
 | 1, _ => exact ⟨#[.int .i64 5], fun j v hv => by
   obtain rfl : j = 0 := by have := (Array.getElem?_eq_some_iff.1 hv).1; simp at this; omega
   rw [Go.Joins.cell_of_block h]; exact hv, rfl, (show Rng 5 from rng_lit (by decide) (by decide))⟩⟩
theorem ints_one {w : World} {g : Nat} (h : w.heap[g]? = some (.cells #[.int .i64 2] 3 (0, 0))) : IntsL w (fun b => b = g) (some ⟨g, 0, none⟩) [2] := fun _ => ⟨g, 0, rfl, rfl, fun i hi => by
 match i, hi with
 | 0, _ => exact ⟨#[.int .i64 2], fun j v hv => by
   obtain rfl : j = 0 := by have := (Array.getElem?_eq_some_iff.1 hv).1; simp at this; omega
   rw [Go.Joins.cell_of_block h]; exact hv, rfl, (show Rng 2 from rng_lit (by decide) (by decide))⟩⟩
theorem ents_three {w : World} {g : Nat} (h : w.heap[g]? = some (.cells #[.int .i64 bL19.term, .int .i64 bL19.kind, .string bL19.coll, .string bL19.to, .int .i64 bL19.id.kind, .int .i64 bL19.id.num, .string bL19.id.text, .slice none bL19.id.items.length 0, .slice none bL19.id.names.length 0, .int .i64 bL19.doc.kind, .int .i64 bL19.doc.num, .string bL19.doc.text, .slice none bL19.doc.items.length 0, .slice none bL19.doc.names.length 0, .slice none bL19.dels.length 0, .int .i64 bL19.session, .int .i64 bL19.number, .int .i64 aL19.term, .int .i64 aL19.kind, .string aL19.coll, .string aL19.to, .int .i64 aL19.id.kind, .int .i64 aL19.id.num, .string aL19.id.text, .slice none aL19.id.items.length 0, .slice none aL19.id.names.length 0, .int .i64 aL19.doc.kind, .int .i64 aL19.doc.num, .string aL19.doc.text, .slice none aL19.doc.items.length 0, .slice none aL19.doc.names.length 0, .slice none aL19.dels.length 0, .int .i64 aL19.session, .int .i64 aL19.number, .int .i64 aL19.term, .int .i64 aL19.kind, .string aL19.coll, .string aL19.to, .int .i64 aL19.id.kind, .int .i64 aL19.id.num, .string aL19.id.text, .slice none aL19.id.items.length 0, .slice none aL19.id.names.length 0, .int .i64 aL19.doc.kind, .int .i64 aL19.doc.num, .string aL19.doc.text, .slice none aL19.doc.items.length 0, .slice none aL19.doc.names.length 0, .slice none aL19.dels.length 0, .int .i64 aL19.session, .int .i64 aL19.number] 30 (0, 0))) : EntsL w (fun b => b = g) (some ⟨g, 0, none⟩) [bL19, aL19, aL19] := fun _ => ⟨g, 0, rfl, rfl, fun i hi => by
 match i, hi with
 | 0, _ => exact ⟨#[.int .i64 bL19.term, .int .i64 bL19.kind, .string bL19.coll, .string bL19.to, .int .i64 bL19.id.kind, .int .i64 bL19.id.num, .string bL19.id.text, .slice none bL19.id.items.length 0, .slice none bL19.id.names.length 0, .int .i64 bL19.doc.kind, .int .i64 bL19.doc.num, .string bL19.doc.text, .slice none bL19.doc.items.length 0, .slice none bL19.doc.names.length 0, .slice none bL19.dels.length 0, .int .i64 bL19.session, .int .i64 bL19.number], fun j v hv => by
   have hj : j < 17 := by have := (Array.getElem?_eq_some_iff.1 hv).1; simpa using this
   rw [Go.Joins.cell_of_block h]
   match j, hj with
   | 0, _ | 1, _ | 2, _ | 3, _ | 4, _ | 5, _ | 6, _ | 7, _ | 8, _ | 9, _ | 10, _ | 11, _ | 12, _ | 13, _ | 14, _ | 15, _ | 16, _ => exact hv, bare_at _ _ 5 ⟨#[100]⟩ (rng_lit (by decide) (by decide)) (by decide)⟩
 | 1, _ | 2, _ => exact ⟨#[.int .i64 aL19.term, .int .i64 aL19.kind, .string aL19.coll, .string aL19.to, .int .i64 aL19.id.kind, .int .i64 aL19.id.num, .string aL19.id.text, .slice none aL19.id.items.length 0, .slice none aL19.id.names.length 0, .int .i64 aL19.doc.kind, .int .i64 aL19.doc.num, .string aL19.doc.text, .slice none aL19.doc.items.length 0, .slice none aL19.doc.names.length 0, .slice none aL19.dels.length 0, .int .i64 aL19.session, .int .i64 aL19.number], fun j v hv => by
   have hj : j < 17 := by have := (Array.getElem?_eq_some_iff.1 hv).1; simpa using this
   rw [Go.Joins.cell_of_block h]
   match j, hj with
   | 0, _ | 1, _ | 2, _ | 3, _ | 4, _ | 5, _ | 6, _ | 7, _ | 8, _ | 9, _ | 10, _ | 11, _ | 12, _ | 13, _ | 14, _ | 15, _ | 16, _ => exact hv, bare_at _ _ 6 ⟨#[99]⟩ (rng_lit (by decide) (by decide)) (by decide)⟩⟩
set_option maxHeartbeats 32000000 in
theorem lives19_any (w : World) : Calls Tryz.prog 12 #[] w fun e w' => e = .returned (.bool true) ∧ Below w.heap.size w w' := by
 obtain ⟨w1, hw1⟩ : ∃ W, W = w.alloc (.cells #[.int .i64 6, .int .i64 5] 3) := ⟨_, rfl⟩
 have hb1 : Below w.heap.size w w1 := by rw [hw1]; exact below_box _
 have hg1 : w1.heap[w.heap.size]? = some (.cells #[.int .i64 6, .int .i64 5] 3 (0, 0)) := by rw [hw1]; exact heap_alloc_new w _
 have HO := hid (fof_any (fun b => b = w.heap.size) (some ⟨w.heap.size, 0, none⟩) 2 [6, 5] w1 (ints_two hg1) (by decide))
 have HB1 := hid hb1
 clear hb1 hg1
 go_enter Tryz.func12, Tryz.ntmps12
 go_wp2_with fail
 rw [← hw1]
 clear hw1
 refine HO.out.mono ?_
 rintro q u ⟨rfl, hw⟩
 replace hw := hw.symm
 subst hw
 rw [w65]
 obtain ⟨w4, hw4⟩ : ∃ W, W = ((w1.alloc (.cells #[.string ⟨#[99]⟩, .slice none 0 0, .int .i64 96] 24)).alloc (.cells #[.int .i64 0, .int .i64 6, .string ⟨#[99]⟩, .string ⟨#[]⟩, .int .i64 0, .int .i64 0, .string ⟨#[]⟩, .slice none 0 0, .slice none 0 0, .int .i64 0, .int .i64 0, .string ⟨#[]⟩, .slice none 0 0, .slice none 0 0, .slice none 0 0, .int .i64 0, .int .i64 0] 30)).alloc (.cells #[.int .i64 0, .int .i64 5, .string ⟨#[100]⟩, .string ⟨#[]⟩, .int .i64 0, .int .i64 0, .string ⟨#[]⟩, .slice none 0 0, .slice none 0 0, .int .i64 0, .int .i64 0, .string ⟨#[]⟩, .slice none 0 0, .slice none 0 0, .slice none 0 0, .int .i64 0, .int .i64 0] 30) := ⟨_, rfl⟩
 have hz1 : (w1.alloc (.cells #[.string ⟨#[99]⟩, .slice none 0 0, .int .i64 96] 24)).heap.size = w1.heap.size + 1 := by simp
 have hz2 : ((w1.alloc (.cells #[.string ⟨#[99]⟩, .slice none 0 0, .int .i64 96] 24)).alloc (.cells #[.int .i64 0, .int .i64 6, .string ⟨#[99]⟩, .string ⟨#[]⟩, .int .i64 0, .int .i64 0, .string ⟨#[]⟩, .slice none 0 0, .slice none 0 0, .int .i64 0, .int .i64 0, .string ⟨#[]⟩, .slice none 0 0, .slice none 0 0, .slice none 0 0, .int .i64 0, .int .i64 0] 30)).heap.size = w1.heap.size + 1 + 1 := by simp
 have hbb : Below w1.heap.size w1 w4 := by rw [hw4]; exact ((below_box _).alloc (by omega) _).alloc (by omega) _
 have HB4 := hid (HB1.out.trans (hbb.mono HB1.out.size))
 have HF4 : Hid (FBox w4 w1.heap.size fL19 none 0) := hid (by unfold FBox; rw [hw4, Below.heap_alloc _ _ _ (by omega), Below.heap_alloc _ _ _ (by omega)]; exact heap_alloc_new w1 _)
 have HKa4 : Hid (EBox w4 (w1.heap.size + 1) aL19 none 0 none 0 none 0 none 0 none 0) := hid (by unfold EBox; rw [hw4, Below.heap_alloc _ _ _ (by omega), ← hz1]; exact heap_alloc_new _ _)
 have HKb4 : Hid (EBox w4 (w1.heap.size + 1 + 1) bL19 none 0 none 0 none 0 none 0 none 0) := hid (by unfold EBox; rw [hw4, ← hz2]; exact heap_alloc_new _ _)
 clear HO hbb hz1 hz2 HB1
 go_wp2_with fail
 rw [← hw4]
 clear hw4
 refine (fmay_any (fun _ : Nat => False) fL19 none 0 w4 (fun _ h => h.elim) (fil_at _ _ ⟨#[99]⟩ 96 (rng_lit (by decide) (by decide)) (by decide))).mono ?_
 rintro q w5 ⟨rfl, hb⟩
 rw [f19_may]
 have HB5 := hid (HB4.out.trans (hb.mono HB4.out.size))
 have HF5 := hid (HF4.out.below hb)
 have HKa5 := hid (HKa4.out.below hb)
 have HKb5 := hid (HKb4.out.below hb)
 clear hb HB4 HF4 HKa4 HKb4
 go_wp2_with fail
 refine (fmay_any (fun _ : Nat => False) gL19 none 0 w5 (fun _ h => h.elim) (fil_at _ _ ⟨#[]⟩ 1 (rng_lit (by decide) (by decide)) (by decide))).mono ?_
 rintro q w6 ⟨rfl, hb⟩
 rw [g19_may]
 have HB6 := hid (HB5.out.trans (hb.mono HB5.out.size))
 have HF6 := hid (HF5.out.below hb)
 have HKa6 := hid (HKa5.out.below hb)
 have HKb6 := hid (HKb5.out.below hb)
 clear hb HB5 HF5 HKa5 HKb5
 have z0 := HF6.out.g0
 have z1 := HF6.out.g1
 have z2 := HF6.out.g2
 go_wp2_with (refine wpList_load_ent (by rfl) _ rfl (w1.heap.size + 1) rfl _ _ HKa6.out rfl ?_; simp only [acR, Act.put])
 refine (fmatch_any (fun _ : Nat => False) fL19 none 0 aL19 _ w6 (fun _ h => h.elim) (fil_at _ _ ⟨#[99]⟩ 96 (rng_lit (by decide) (by decide)) (by decide)) (bare_at _ _ 6 ⟨#[99]⟩ (rng_lit (by decide) (by decide)) (by decide)) (smL _ rfl rfl rfl)).mono ?_
 rintro q w7 ⟨rfl, hb⟩
 rw [fa19]
 clear z0 z1 z2
 have HB7 := hid (HB6.out.trans (hb.mono HB6.out.size))
 have HF7 := hid (HF6.out.below hb)
 have HKa7 := hid (HKa6.out.below hb)
 have HKb7 := hid (HKb6.out.below hb)
 clear hb HB6 HF6 HKa6 HKb6
 have z0 := HF7.out.g0
 have z1 := HF7.out.g1
 have z2 := HF7.out.g2
 go_wp2_with (refine wpList_load_ent (by rfl) _ rfl (w1.heap.size + 1 + 1) rfl _ _ HKb7.out rfl ?_; simp only [acR, Act.put])
 refine (fmatch_any (fun _ : Nat => False) fL19 none 0 bL19 _ w7 (fun _ h => h.elim) (fil_at _ _ ⟨#[99]⟩ 96 (rng_lit (by decide) (by decide)) (by decide)) (bare_at _ _ 5 ⟨#[100]⟩ (rng_lit (by decide) (by decide)) (by decide)) (smL _ rfl rfl rfl)).mono ?_
 rintro q w8 ⟨rfl, hb⟩
 rw [fb19]
 clear z0 z1 z2
 have HB8 := hid (HB7.out.trans (hb.mono HB7.out.size))
 have HF8 := hid (HF7.out.below hb)
 have HKa8 := hid (HKa7.out.below hb)
 have HKb8 := hid (HKb7.out.below hb)
 clear hb HB7 HF7 HKa7 HKb7
 have z0 := HF8.out.g0
 have z1 := HF8.out.g1
 have z2 := HF8.out.g2
 go_wp2_with (refine wpList_load_ent (by rfl) _ rfl (w1.heap.size + 1) rfl _ _ HKa8.out rfl ?_; simp only [acR, Act.put])
 refine (fends_any (fun _ : Nat => False) fL19 none 0 aL19 _ w8 (fun _ h => h.elim) (fil_at _ _ ⟨#[99]⟩ 96 (rng_lit (by decide) (by decide)) (by decide)) (bare_at _ _ 6 ⟨#[99]⟩ (rng_lit (by decide) (by decide)) (by decide)) (smL _ rfl rfl rfl)).mono ?_
 rintro q w9 ⟨rfl, hb⟩
 rw [ea19]
 clear z0 z1 z2
 have HB9 := hid (HB8.out.trans (hb.mono HB8.out.size))
 have HF9 := hid (HF8.out.below hb)
 have HKa9 := hid (HKa8.out.below hb)
 have HKb9 := hid (HKb8.out.below hb)
 clear hb HB8 HF8 HKa8 HKb8
 have z0 := HF9.out.g0
 have z1 := HF9.out.g1
 have z2 := HF9.out.g2
 go_wp2_with (refine wpList_load_ent (by rfl) _ rfl (w1.heap.size + 1 + 1) rfl _ _ HKb9.out rfl ?_; simp only [acR, Act.put])
 refine (fends_any (fun _ : Nat => False) fL19 none 0 bL19 _ w9 (fun _ h => h.elim) (fil_at _ _ ⟨#[99]⟩ 96 (rng_lit (by decide) (by decide)) (by decide)) (bare_at _ _ 5 ⟨#[100]⟩ (rng_lit (by decide) (by decide)) (by decide)) (smL _ rfl rfl rfl)).mono ?_
 rintro q w10 ⟨rfl, hb⟩
 rw [eb19]
 clear z0 z1 z2
 have HB10 := hid (HB9.out.trans (hb.mono HB9.out.size))
 have HF10 := hid (HF9.out.below hb)
 have HKa10 := hid (HKa9.out.below hb)
 have HKb10 := hid (HKb9.out.below hb)
 clear hb HB9 HF9 HKa9 HKb9
 have z0 := HF10.out.g0
 have z1 := HF10.out.g1
 have z2 := HF10.out.g2
 obtain ⟨wc, hwc⟩ : ∃ W, W = w10.alloc (.cells #[.int .i64 bL19.term, .int .i64 bL19.kind, .string bL19.coll, .string bL19.to, .int .i64 bL19.id.kind, .int .i64 bL19.id.num, .string bL19.id.text, .slice none bL19.id.items.length 0, .slice none bL19.id.names.length 0, .int .i64 bL19.doc.kind, .int .i64 bL19.doc.num, .string bL19.doc.text, .slice none bL19.doc.items.length 0, .slice none bL19.doc.names.length 0, .slice none bL19.dels.length 0, .int .i64 bL19.session, .int .i64 bL19.number, .int .i64 aL19.term, .int .i64 aL19.kind, .string aL19.coll, .string aL19.to, .int .i64 aL19.id.kind, .int .i64 aL19.id.num, .string aL19.id.text, .slice none aL19.id.items.length 0, .slice none aL19.id.names.length 0, .int .i64 aL19.doc.kind, .int .i64 aL19.doc.num, .string aL19.doc.text, .slice none aL19.doc.items.length 0, .slice none aL19.doc.names.length 0, .slice none aL19.dels.length 0, .int .i64 aL19.session, .int .i64 aL19.number, .int .i64 aL19.term, .int .i64 aL19.kind, .string aL19.coll, .string aL19.to, .int .i64 aL19.id.kind, .int .i64 aL19.id.num, .string aL19.id.text, .slice none aL19.id.items.length 0, .slice none aL19.id.names.length 0, .int .i64 aL19.doc.kind, .int .i64 aL19.doc.num, .string aL19.doc.text, .slice none aL19.doc.items.length 0, .slice none aL19.doc.names.length 0, .slice none aL19.dels.length 0, .int .i64 aL19.session, .int .i64 aL19.number] 30) := ⟨_, rfl⟩
 have hgc : wc.heap[w10.heap.size]? = some (.cells #[.int .i64 bL19.term, .int .i64 bL19.kind, .string bL19.coll, .string bL19.to, .int .i64 bL19.id.kind, .int .i64 bL19.id.num, .string bL19.id.text, .slice none bL19.id.items.length 0, .slice none bL19.id.names.length 0, .int .i64 bL19.doc.kind, .int .i64 bL19.doc.num, .string bL19.doc.text, .slice none bL19.doc.items.length 0, .slice none bL19.doc.names.length 0, .slice none bL19.dels.length 0, .int .i64 bL19.session, .int .i64 bL19.number, .int .i64 aL19.term, .int .i64 aL19.kind, .string aL19.coll, .string aL19.to, .int .i64 aL19.id.kind, .int .i64 aL19.id.num, .string aL19.id.text, .slice none aL19.id.items.length 0, .slice none aL19.id.names.length 0, .int .i64 aL19.doc.kind, .int .i64 aL19.doc.num, .string aL19.doc.text, .slice none aL19.doc.items.length 0, .slice none aL19.doc.names.length 0, .slice none aL19.dels.length 0, .int .i64 aL19.session, .int .i64 aL19.number, .int .i64 aL19.term, .int .i64 aL19.kind, .string aL19.coll, .string aL19.to, .int .i64 aL19.id.kind, .int .i64 aL19.id.num, .string aL19.id.text, .slice none aL19.id.items.length 0, .slice none aL19.id.names.length 0, .int .i64 aL19.doc.kind, .int .i64 aL19.doc.num, .string aL19.doc.text, .slice none aL19.doc.items.length 0, .slice none aL19.doc.names.length 0, .slice none aL19.dels.length 0, .int .i64 aL19.session, .int .i64 aL19.number] 30 (0, 0)) := by rw [hwc]; exact heap_alloc_new _ _
 have hbc : Below w10.heap.size w10 wc := by rw [hwc]; exact below_box _
 have HC := hid (fcount_any (fun b => b = w10.heap.size) fL19 none 0 (some ⟨w10.heap.size, 0, none⟩) 3 [bL19, aL19, aL19] wc (fun b hb => by rw [hb, hwc]; simp) (fil_at _ _ ⟨#[99]⟩ 96 (rng_lit (by decide) (by decide)) (by decide)) (ents_three hgc) (by decide) (fun e he => by
  simp only [List.mem_cons, List.not_mem_nil, or_false] at he
  rcases he with rfl | rfl | rfl <;> exact smL _ rfl rfl rfl))
 clear hgc
 go_wp2_with (first | (refine wpList_load_ent (by rfl) _ rfl (w1.heap.size + 1) rfl _ _ HKa10.out rfl ?_; simp only [acR, Act.put]) | (refine wpList_load_ent (by rfl) _ rfl (w1.heap.size + 1 + 1) rfl _ _ HKb10.out rfl ?_; simp only [acR, Act.put]))
 rw [← hwc]
 clear hwc
 refine HC.out.mono ?_
 rintro q wd ⟨rfl, hb0⟩
 rw [c19]
 have hb := hbc.trans (hb0.mono hbc.size)
 clear hb0 hbc HC z0 z1 z2
 have HBd := hid (HB10.out.trans (hb.mono HB10.out.size))
 clear hb HB10 HF10 HKa10 HKb10
 obtain ⟨we, hwe⟩ : ∃ W, W = wd.alloc (.cells #[.int .i64 2] 3) := ⟨_, rfl⟩
 have hge : we.heap[wd.heap.size]? = some (.cells #[.int .i64 2] 3 (0, 0)) := by rw [hwe]; exact heap_alloc_new _ _
 have hbe : Below wd.heap.size wd we := by rw [hwe]; exact below_box _
 have HBe := hid (HBd.out.trans (hbe.mono HBd.out.size))
 have HO := hid (fof_any (fun b => b = wd.heap.size) (some ⟨wd.heap.size, 0, none⟩) 1 [2] we (ints_one hge) (by decide))
 clear hge hbe HBd
 go_wp2_with fail
 rw [← hwe]
 clear hwe
 refine HO.out.mono ?_
 rintro q u ⟨rfl, hw⟩
 replace hw := hw.symm
 subst hw
 rw [w2]
 clear HO
 go_wp2_with fail
 go_ret
 exact ⟨rfl, HBe.out⟩
end Go.Proofs.YtlipkmdjpligeaaGreat

/- Numbers that came in, in a row. -/
namespace Go.Proofs.YtlipkmdjpligeaaGreat
set_option linter.unusedVariables false
set_option linter.unusedSimpArgs false
open Go.ChangeShapes Go.WideShapes Go.RowKit Go.Joins Go.Deep
set_option linter.unusedVariables false
set_option maxRecDepth 100000
theorem bytesInt : Tryz.prog.bytesOf 3 = 8 := by kernel_rfl
section
variable {H : Type} {enc : TypeId × Value → H} {W : World} {sp : Nat → Bool}
theorem open_ints {fuel : Nat} {cs : List Value} {x : DataW H × List MemPlace} (h : DataW.trod enc Tryz.prog W 0 sp true fuel 37 cs = some x) (hw : ∀ n ∈ x.1.weights Tryz.prog 37, n ≤ reachBytes) :
  ∃ A c, ∃ xs : List Int, cs = [.slice A xs.length c] ∧ (A = none → c = 0 ∧ xs = []) ∧ xs.length ≤ 17592186044416 ∧ IntsL W (fun b => b < W.heap.size) A xs := by
 rcases DataW.trod_slice Tryz.underlying37 h with ⟨e3, -⟩ | ⟨a, len, cap, elems, rest, m, hm, e3, x3, -, hlc, -, hel, hat, -, -⟩
 ·exact ⟨none, 0, [], e3, fun _ => ⟨rfl, rfl⟩, by simp, fun h => absurd h (by simp)⟩
 ·have hws := hw
  rw [x3] at hws
  simp only [DataW.weights, Tryz.underlying37] at hws
  have hl : len ≤ 17592186044416 := by
   have h1 := hws _ (List.mem_cons_self ..)
   rw [bytesInt] at h1
   simp only [List.length_map, hel, reachBytes] at h1
   omega
  have hT : ∀ j, ∃ o : Int, j < len → W.cell? (a.add (j * 1)) = some (.int .i64 o) ∧ Rng o := by
   intro j
   by_cases hj : j < len
   ·have h1 := hat j hj
    rw [cellsI, List.getElem?_eq_getElem (by omega)] at h1
    obtain ⟨cs', hc, ht⟩ := Option.bind_eq_some_iff.1 h1
    obtain ⟨-, hcl, hcat⟩ := World.cells?_some hc
    obtain ⟨k, e0, -, w0⟩ := DataW.trod_int Tryz.underlying3 ht
    subst e0
    refine ⟨k, fun _ => ⟨?_, in64_of_wf w0⟩⟩
    have := hcat 0 (by simp)
    simpa [Addr.add] using this
   ·exact ⟨0, fun h => absurd h hj⟩
  obtain ⟨T, hT⟩ := Classical.skolem.1 hT
  have hlm : ((List.range len).map T).length = len := by simp
  by_cases hp0 : 0 < len
  ·obtain ⟨b, off, spot⟩ := a
   obtain ⟨h0, -⟩ := hT 0 hp0
   obtain rfl : spot = none := by simpa [Addr.add] using World.cell?_spot h0
   refine ⟨some ⟨b, off, none⟩, cap, (List.range len).map T, by rw [hlm]; exact e3, (fun h => by cases h), by omega, fun hp => ?_⟩
   refine ⟨b, off, rfl, ?_, fun j hj => ?_⟩
   ·rw [addr_add6] at h0; exact World.block_lt_of_cell? W _ h0
   ·rw [hlm] at hj
    obtain ⟨h1, h2⟩ := hT j hj
    refine ⟨#[.int .i64 (T j)], fun i v hv => ?_, by simp, by simpa using h2⟩
    obtain rfl : i = 0 := by have := (Array.getElem?_eq_some_iff.1 hv).1; simp at this; omega
    rw [addr_add6] at h1
    rw [Nat.add_zero, h1]
    simpa using hv
  ·have hl0 : len = 0 := by omega
   subst hl0
   exact ⟨some a, cap, [], by simpa using e3, (fun h => by cases h), by simp, fun h => absurd h (by simp)⟩
end
set_option linter.unusedVariables false
theorem cellsFil : Tryz.prog.cellsOf 24 = 3 := by kernel_rfl
theorem fieldsFil : ∃ f0 f1 f2 : Field, Tryz.prog.underlying 24 = some (.struct #[f0, f1, f2]) ∧ (f0.type = 9 ∧ f1.type = 22 ∧ f2.type = 3) ∧ (f0.offset = 0 ∧ f1.offset = 1 ∧ f2.offset = 2) :=
 ⟨_, _, _, Tryz.underlying24, ⟨rfl, rfl, rfl⟩, ⟨rfl, rfl, rfl⟩⟩
section
variable {H : Type} {enc : TypeId × Value → H} {W : World} {sp : Nat → Bool}
theorem open_fil {fuel : Nat} {cs : List Value} {x : DataW H × List MemPlace} (h : DataW.trod enc Tryz.prog W 0 sp true fuel 24 cs = some x) (hw : ∀ n ∈ x.1.weights Tryz.prog 24, n ≤ reachBytes) :
  ∃ (f : FilT) (PA : Option Addr) (pc : Nat), cs = [.string f.coll, .slice PA f.path.length pc, .int .i64 f.kinds] ∧ FilAt W (fun b => b < W.heap.size) f PA pc := by
 obtain ⟨f0, f1, f2, hu, ⟨t0, t1, t2⟩, ⟨o0, o1, o2⟩⟩ := fieldsFil
 obtain ⟨xs, n, hfu, hx, hlen, hxl, hg⟩ := DataW.trod_struct hu h
 rw [cellsFil] at hlen
 match cs, hlen with
 | [c0, c1, c2], _ =>
  match xs, hxl with
  | [y0, y1, y2], _ =>
   have g0 := hg 0 f0 rfl
   have g1 := hg 1 f1 rfl
   have g2 := hg 2 f2 rfl
   rw [t0, o0, cellsStr] at g0
   rw [t1, o1, cellsStrs] at g1
   rw [t2, o2, cellsI] at g2
   have hws := hw
   rw [hx] at hws
   simp only [DataW.weights, hu, List.map_cons, List.map_nil, t0, t1, t2] at hws
   simp only [DataW.weightsEach, List.mem_append] at hws
   obtain ⟨a0, e0, x0, w0⟩ := DataW.trod_string Tryz.underlying9 g0
   obtain ⟨a2, e2, -, w2⟩ := DataW.trod_int Tryz.underlying3 g2
   simp at e0 e2
   subst e0 e2
   have hs0 : a0.size ≤ 140737488351232 := by
    have := hws a0.data.toList.length (.inl (by rw [x0]; simp [DataW.weights]))
    simpa [reachBytes] using this
   obtain ⟨PA, pc, ps, e1, hpc, hpo, h63, hpn, hps⟩ := open_names6 g1 (fun n hn => hws n (.inr (.inl hn)))
   simp at e1
   subst e1
   exact ⟨⟨a0, ps, a2⟩, PA, pc, rfl, ⟨hps, hpn, hs0, in64_of_wf w2, hpc, h63, hpo⟩⟩
end
end Go.Proofs.YtlipkmdjpligeaaGreat

/- What the laws of layer 13 have in common. -/
namespace Go.Proofs.YtlipkmdjpligeaaGreat
set_option linter.unusedVariables false
set_option linter.unusedSimpArgs false
open Go.RowKit
set_option maxRecDepth 100000
theorem EBox.later {w : World} {g : Nat} {e : EntT} {IA : Option Addr} {ic : Nat} {IA' : Option Addr} {ic' : Nat} {DA : Option Addr} {dc : Nat} {DA' : Option Addr} {dc' : Nat} {LA : Option Addr} {lc : Nat} (h : EBox w g e IA ic IA' ic' DA dc DA' dc' LA lc) : ∀ u, CR w.heap.size w u → u.heap[g]? = some (.cells #[.int .i64 e.term, .int .i64 e.kind, .string e.coll, .string e.to, .int .i64 e.id.kind, .int .i64 e.id.num, .string e.id.text, .slice IA e.id.items.length ic, .slice IA' e.id.names.length ic', .int .i64 e.doc.kind, .int .i64 e.doc.num, .string e.doc.text, .slice DA e.doc.items.length dc, .slice DA' e.doc.names.length dc', .slice LA e.dels.length lc, .int .i64 e.session, .int .i64 e.number] 30 (0, 0)) := fun u ⟨p, hp⟩ => by
 rw [hp]
 exact (p.h.block g h.lt).trans h
theorem EntAt.up {w w' : World} {e : EntT} {IA : Option Addr} {ic : Nat} {IA' : Option Addr} {ic' : Nat} {DA : Option Addr} {dc : Nat} {DA' : Option Addr} {dc' : Nat} {LA : Option Addr} {lc : Nat} (h : EntAt w (fun b => b < w.heap.size) e IA ic IA' ic' DA dc DA' dc' LA lc) (hb : Below w.heap.size w w') : EntAt w' (fun b => b < w'.heap.size) e IA ic IA' ic' DA dc DA' dc' LA lc :=
 (h.below (fun _ h => h) hb).imp fun _ h => Nat.lt_of_lt_of_le h hb.size
end Go.Proofs.YtlipkmdjpligeaaGreat
