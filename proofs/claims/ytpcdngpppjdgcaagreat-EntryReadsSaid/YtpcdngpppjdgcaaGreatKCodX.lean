/- The decoder: a whole value is read. -/
import Derived.Test.YtpcdngpppjdgcaaGreatKCodR
import Derived.Test.YtpcdngpppjdgcaaGreatKCodM
import Derived.Test.YtpcdngpppjdgcaaGreatKRefD2
import Derived.Test.YtpcdngpppjdgcaaGreatKRefZ
import Derived.Test.YtpcdngpppjdgcaaGreatKValM
import Derived.Test.YtpcdngpppjdgcaaGreatKRegR
import Derived.Test.YtpcdngpppjdgcaaGreatKValO
import Derived.Outline
import Derived.Lib.OthersKept
import Derived.Lib.DecodeN
import Derived.Lib.Join
import Derived.StillTailTactics
import Derived.Laws.AppendOwnNone
import Derived.Lib.AppendZerosOnto
import Derived.Lib.AppendZeros
import Derived.Lib.SliceRun
namespace Go.Proofs.YtpcdngpppjdgcaaGreat
open Lib (hid)
set_option linter.unusedVariables false
set_option linter.unusedSimpArgs false
set_option maxRecDepth 100000
open Go.RowKit
def zeroT : VT := .mk 0 0 eS [] []
def readO : Option (List UInt8) → VT × Option (List UInt8)
 | none => (zeroT, none)
 | some l => match readS l with
  | some (t, r) => (t, some r)
  | none => (zeroT, none)
theorem readO_some (l : List UInt8) : readO (some l) = match readS l with
  | some (t, r) => (t, some r)
  | none => (zeroT, none) := rfl
theorem readO_good {st : Option (List UInt8)} {r : List UInt8} {t : VT} {least : Int} (h : Rel 8 least st t (some r)) (hc : checkT t = 0) : readO st = (t, some r) := by
 obtain ⟨l, rfl, h1⟩ := h
 have h2 : readS l = some (t, r) := by unfold readS; rw [h1]; simp [hc]
 rw [readO_some, h2]
theorem readO_strange {st : Option (List UInt8)} {r : List UInt8} {t : VT} {least : Int} (h : Rel 8 least st t (some r)) (hc : checkT t ≠ 0) : readO st = (zeroT, none) := by
 obtain ⟨l, rfl, h1⟩ := h
 have h2 : readS l = none := by unfold readS; rw [h1]; simp [hc]
 rw [readO_some, h2]
theorem readO_bad {st : Option (List UInt8)} {t : VT} {least : Int} (h : Rel 8 least st t none) (hl : least ≤ (leftN st : Int) - 4096) (hs : leftN st ≤ 9223372036854775807) : readO st = (zeroT, none) := by
 rcases st with _ | l
 ·rfl
 ·cases hr : readS l with
  | none => rw [readO_some, hr]
  | some p =>
   obtain ⟨u, r⟩ := p
   have hs' : l.length ≤ 9223372036854775807 := hs
   obtain ⟨h1, h2, h3, h4, h5⟩ := readS_some hr hs'
   have hz := size_of_rd h4 h1.may
   have h6 := h1.size
   have hl' : least ≤ (l.length : Int) - 4096 := hl
   rcases h l u r rfl h4 with h7 | h7
   ·rw [h1.may] at h7; cases h7
   ·omega
theorem srcL_left {w : World} {g : Nat} {st : Option (List UInt8)} (h : SrcL w g st) : leftN st ≤ 9223372036854775807 := by
 cases st with
 | none => simp [leftN]
 | some l => exact h.2
theorem zero_lv (w : World) (S : Nat → Prop) : LV w S zeroT (.agg #[.int .i64 0, .int .i64 0, .string eS, .slice none 0 0, .slice none 0 0]) :=
 LV.mk (by unfold Rng; omega) (by unfold Rng; omega) (by decide) (by simp) (by simp) (strs_nil _ _ _) (lva_nil _ _ _)
theorem rel_depth {st : Option (List UInt8)} {r : List UInt8} {t : VT} {d : Nat} {least : Int} (h : Rel d least st t (some r)) : depthT t ≤ d := by
 obtain ⟨l, -, h1⟩ := h
 exact (rdW_deep d t l r h1).1.1
def ReadR (g : Nat) (st : Option (List UInt8)) (w : World) (e : Ending) (w' : World) : Prop :=
 ∃ v, e = .returned v ∧ SrcL w' g (readO st).2 ∧ Only w w' g ∧ LV w' (NewB w.heap.size w') (readO st).1 v
theorem read_end {w w4 : World} {g : Nat} {st st' : Option (List UInt8)} {S : Nat → Prop} {t : VT} {c0 c1 c2 c3 c4 : Value} (hs : SrcL w4 g st') (ho : Only w w4 g) (hz : w.heap.size + 1 ≤ w4.heap.size) (hg : g < w.heap.size)
  (hv : LV w4 S t (.agg #[c0, c1, c2, c3, c4])) (hS : ∀ b, S b → w.heap.size + 1 ≤ b ∧ b < w4.heap.size) (hr : readO st = (t, st')) :
  ReadR g st w (.returned (.agg #[c0, c1, c2, c3, c4])) (five w4 w.heap.size 0 c0 c1 c2 c3 c4) := by
 have hr5 := five_rest w4 w.heap.size 0 c0 c1 c2 c3 c4
 have hsz := five_size w4 w.heap.size 0 c0 c1 c2 c3 c4
 refine ⟨_, rfl, ?_, ⟨hr5.1.trans ho.os, hr5.2.1.trans ho.tape, hr5.2.2.trans ho.output, by rw [hsz]; omega, fun b hb hbg => ?_⟩, ?_⟩
 ·rw [hr]; exact hs.of (five_other _ _ _ _ _ _ _ _ g (by omega))
 ·rw [five_other _ _ _ _ _ _ _ _ b (by omega)]; exact ho.block b hb hbg
 ·rw [hr]
  refine (hv.keep (w' := _) fun b hb => five_other _ _ _ _ _ _ _ _ b (by have := hS b hb; omega)).imp fun b hb => ?_
  have := hS b hb
  exact ⟨by omega, by rw [hsz]; omega⟩
set_option maxHeartbeats 8000000 in
set_option maxRecDepth 100000 in
theorem cread_any (g : Nat) (st : Option (List UInt8)) (w : World) (hs : SrcL w g st) : Calls Tryz.prog 106 #[.pointer (some ⟨g, 0, none⟩)] w (ReadR g st w) := by
 have hgl := hs.lt
 have hleft := srcL_left hs
 have ho1 : Only w (w.alloc (.cells #[.int .i64 0, .int .i64 0, .string ⟨#[]⟩, .slice none 0 0, .slice none 0 0] 25)) g := ⟨rfl, rfl, rfl, by simp, fun b hb _ => Below.heap_alloc w _ b hb⟩
 have hs1 := hs.alloc (.cells #[.int .i64 0, .int .i64 0, .string ⟨#[]⟩, .slice none 0 0, .slice none 0 0] 25)
 have hb1 : Box (w.alloc (.cells #[.int .i64 0, .int .i64 0, .string ⟨#[]⟩, .slice none 0 0, .slice none 0 0] 25)) w.heap.size _ _ _ _ _ := Box.new _ _ _ _ _
 have HS1 := hid hs1
 have HO1 := hid ho1
 have HB1 := hid hb1
 clear hs hs1 ho1 hb1
 go_enter Tryz.func106, Tryz.ntmps106
 go_wp2_with (go_at_call 28; refine (cleft_st g st _ HS1.out).mono ?_; rintro e w' ⟨rfl, rfl⟩)
 have hz1 : (w.alloc (.cells #[.int .i64 0, .int .i64 0, .string ⟨#[]⟩, .slice none 0 0, .slice none 0 0] 25)).heap.size = w.heap.size + 1 := by simp
 have hdec : Dec ((w.alloc (.cells #[.int .i64 0, .int .i64 0, .string ⟨#[]⟩, .slice none 0 0, .slice none 0 0] 25)).alloc (.cells #[.pointer (some ⟨g, 0, none⟩), .int .i64 ((leftN st : Int) - 4096), .int .i64 0] 133)) (w.heap.size + 1) g ((leftN st : Int) - 4096) (8 - ((8 : Nat) : Int)) := by
  have h := heap_alloc_new (w.alloc (.cells #[.int .i64 0, .int .i64 0, .string ⟨#[]⟩, .slice none 0 0, .slice none 0 0] 25)) (.cells #[.pointer (some ⟨g, 0, none⟩), .int .i64 ((leftN st : Int) - 4096), .int .i64 0] 133)
  rw [hz1] at h
  exact h
 have ho2 : Only w ((w.alloc (.cells #[.int .i64 0, .int .i64 0, .string ⟨#[]⟩, .slice none 0 0, .slice none 0 0] 25)).alloc (.cells #[.pointer (some ⟨g, 0, none⟩), .int .i64 ((leftN st : Int) - 4096), .int .i64 0] 133)) g := ⟨rfl, rfl, rfl, by simp; omega, fun b hb _ => (Below.heap_alloc _ _ b (by omega)).trans (Below.heap_alloc w _ b hb)⟩
 have hz2 : ((w.alloc (.cells #[.int .i64 0, .int .i64 0, .string ⟨#[]⟩, .slice none 0 0, .slice none 0 0] 25)).alloc (.cells #[.pointer (some ⟨g, 0, none⟩), .int .i64 ((leftN st : Int) - 4096), .int .i64 0] 133)).heap.size = w.heap.size + 2 := by simp
 have hb2 := HB1.out.alloc (.cells #[.pointer (some ⟨g, 0, none⟩), .int .i64 ((leftN st : Int) - 4096), .int .i64 0] 133)
 refine (val_any 8 (Nat.le_refl 8) (w.heap.size + 1) g ((leftN st : Int) - 4096) st _ hdec (HS1.out.alloc _) (by omega)).mono ?_
 rintro e w1 ⟨v, t, st', rfl, hs1, ho1, hv1, hrel⟩
 obtain ⟨T3, d3, T4, d4, rfl, -⟩ := hv1.shape
 have hb3 := box_only hb2 ho1 (by omega)
 have ho3 := ho2.trans ho1
 have hz3 : w.heap.size + 2 ≤ w1.heap.size := by have := ho1.size; omega
 have hS : ∀ b, NewB ((w.alloc (.cells #[.int .i64 0, .int .i64 0, .string ⟨#[]⟩, .slice none 0 0, .slice none 0 0] 25)).alloc (.cells #[.pointer (some ⟨g, 0, none⟩), .int .i64 ((leftN st : Int) - 4096), .int .i64 0] 133)).heap.size w1 b → w.heap.size + 1 ≤ b ∧ b < w1.heap.size := fun b hb => ⟨by have := hb.1; omega, hb.2⟩
 have hv2 := hv1.imp hS
 clear hb2 ho1 ho2 hz1 hz2 hv1 hS hdec HS1 HO1 HB1
 have hs4 := hs1.alloc (.cells #[.int .i64 t.kind, .int .i64 t.num, .string t.text, .slice T3 t.items.length d3, .slice T4 t.names.length d4] 25)
 have hb4 := hb3.alloc (.cells #[.int .i64 t.kind, .int .i64 t.num, .string t.text, .slice T3 t.items.length d3, .slice T4 t.names.length d4] 25)
 have ho4 : Only w (w1.alloc (.cells #[.int .i64 t.kind, .int .i64 t.num, .string t.text, .slice T3 t.items.length d3, .slice T4 t.names.length d4] 25)) g := ho3.trans ⟨rfl, rfl, rfl, by simp, fun b hb _ => Below.heap_alloc w1 _ b hb⟩
 have hv4 : LV (w1.alloc (.cells #[.int .i64 t.kind, .int .i64 t.num, .string t.text, .slice T3 t.items.length d3, .slice T4 t.names.length d4] 25)) (fun b => w.heap.size + 1 ≤ b ∧ b < w1.heap.size) t _ := hv2.keep fun b hb => Below.heap_alloc w1 _ b hb.2
 have hz4 : (w1.alloc (.cells #[.int .i64 t.kind, .int .i64 t.num, .string t.text, .slice T3 t.items.length d3, .slice T4 t.names.length d4] 25)).heap.size = w1.heap.size + 1 := by simp
 have HX : Hid (Box (w1.alloc (.cells #[.int .i64 t.kind, .int .i64 t.num, .string t.text, .slice T3 t.items.length d3, .slice T4 t.names.length d4] 25)) w1.heap.size _ _ _ _ _) := hid (Box.new _ _ _ _ _)
 have HS4 := hid hs4
 have HB4 := hid hb4
 have HO4 := hid ho4
 have HV4 := hid hv4
 have HREL := hid hrel
 have HZ4 := hid hz4
 clear hs1 hb3 ho3 hv2 hs4 hb4 ho4 hv4 hrel hz4
 go_wp2_with fail
 rcases st' with _ | r'
 ·refine (cbad_none g _ HS4.out).mono ?_
  rintro e w2 ⟨rfl, rfl⟩
  go_wp2_with fail
  refine (cspoil_st g _ _ HS4.out).mono ?_
  rintro e w3 ⟨rfl, hs5, ho5⟩
  have hb5 := box_only HB4.out ho5 (by omega)
  have ho6 := HO4.out.trans ho5
  have hz6 : w.heap.size + 1 ≤ w3.heap.size := by have := ho5.size; have := HZ4.out; omega
  have rf : ∀ i, (w3).frozen? ⟨w.heap.size, i, none⟩ = false := fun i => hb5.free i
  have r0 := hb5.c0
  have r1 := hb5.c1
  have r2 := hb5.c2
  have r3 := hb5.c3
  have r4 := hb5.c4
  have HB5 := hid hb5
  have HO6 := hid ho6
  have HS5 := hid hs5
  clear hb5 ho5 ho6 hs5
  go_wp2_with fail
  refine bodyPost_ret (results_cell_row rfl _ _ w.heap.size 25 _ (0, 0) _ rfl (five_box HB5.out) Tryz.underlying25 rfl (by kernel_rfl)) rfl ?_
  exact read_end (t := zeroT) HS5.out HO6.out hz6 hgl (zero_lv _ (fun _ => False)) (fun _ h => h.elim) (readO_bad HREL.out (Int.le_refl _) hleft)
 ·refine (cbad_some g r' _ HS4.out).mono ?_
  rintro e w2 ⟨rfl, rfl⟩
  go_wp2_with fail
  refine (check_any _ t _ _ (fun b hb => by have := HZ4.out; have := hb.2; omega) HV4.out (by have := rel_depth HREL.out; omega)).mono ?_
  rintro e w2 ⟨rfl, hb2⟩
  have ho2 : Only w w2 g := HO4.out.trans ⟨hb2.os, hb2.tape, hb2.output, hb2.size, fun b hb _ => hb2.block b hb⟩
  have hs2 := HS4.out.of (hb2.block g HS4.out.lt)
  have hbx := HB4.out.call hb2
  have hx2 := HX.out.call hb2
  have hv2 : LV w2 (fun b => w.heap.size + 1 ≤ b ∧ b < w1.heap.size) t _ := HV4.out.keep fun b hb => hb2.block b (by have := HZ4.out; have := hb.2; omega)
  have hz2 : w1.heap.size + 1 ≤ w2.heap.size := by have := HZ4.out; have := hb2.size; omega
  have HS2 := hid hs2
  have HBX := hid hbx
  have HX2 := hid hx2
  have HV2 := hid hv2
  have HO2 := hid ho2
  clear hb2 ho2 hs2 hbx hx2 hv2 HS4 HB4 HV4 HO4 HZ4 HX
  obtain ⟨x, hx⟩ : ∃ x, x = checkT t := ⟨_, rfl⟩
  rw [← hx]
  have HC := hid hx
  clear hx
  by_cases h0 : x = 0
  ·subst h0
   have rf : ∀ i, (w2).frozen? ⟨w.heap.size, i, none⟩ = false := fun i => HBX.out.free i
   have r0 := HBX.out.c0
   have r1 := HBX.out.c1
   have r2 := HBX.out.c2
   have r3 := HBX.out.c3
   have r4 := HBX.out.c4
   have v0 := HX2.out.c0
   have v1 := HX2.out.c1
   have v2 := HX2.out.c2
   have v3 := HX2.out.c3
   have v4 := HX2.out.c4
   go_wp2_with fail
   refine bodyPost_ret (results_cell_row rfl _ _ w.heap.size 25 _ (0, 0) _ rfl (five_box HBX.out) Tryz.underlying25 rfl (by kernel_rfl)) rfl ?_
   exact read_end HS2.out HO2.out (by omega) hgl HV2.out (fun b hb => ⟨hb.1, by have := hb.2; omega⟩) (readO_good HREL.out HC.out.symm)
  ·have h1 : (x == 0) = false := beq_false_of_ne h0
   have h2 : (x != 0) = true := by simp [h0]
   go_wp2_with fail
   refine (cspoil_st g _ _ HS2.out).mono ?_
   rintro e w3 ⟨rfl, hs5, ho5⟩
   have hb5 := box_only HBX.out ho5 (by omega)
   have ho6 := HO2.out.trans ho5
   have hz6 : w.heap.size + 1 ≤ w3.heap.size := by have := ho5.size; omega
   have rf : ∀ i, (w3).frozen? ⟨w.heap.size, i, none⟩ = false := fun i => hb5.free i
   have r0 := hb5.c0
   have r1 := hb5.c1
   have r2 := hb5.c2
   have r3 := hb5.c3
   have r4 := hb5.c4
   have HB5 := hid hb5
   have HO6 := hid ho6
   have HS5 := hid hs5
   clear hb5 ho5 ho6 hs5
   go_wp2_with fail
   refine bodyPost_ret (results_cell_row rfl _ _ w.heap.size 25 _ (0, 0) _ rfl (five_box HB5.out) Tryz.underlying25 rfl (by kernel_rfl)) rfl ?_
   exact read_end (t := zeroT) HS5.out HO6.out hz6 hgl (zero_lv _ (fun _ => False)) (fun _ h => h.elim) (readO_strange HREL.out (fun h => h0 (HC.out.trans h)))
set_option maxHeartbeats 4000000 in
theorem rnone7_any (S : Nat → Prop) (t : VT) (v : Value) (w : World) (hS : ∀ b, S b → b < w.heap.size) (h : LV w S t v) :
  Calls Tryz.prog 49 #[v] w fun e w' => e = .returned (.bool (noneT t)) ∧ Below w.heap.size w w' := by
 obtain ⟨A, ca, A', ca', rfl, -, -, -, v1, hb⟩ := one_var hS h
 have q0 := v1.x.c0
 have q1 := v1.x.c1
 have q2 := v1.x.c2
 have q3 := v1.x.c3
 have q4 := v1.x.c4
 have HB := hid hb
 have HS := hid (rsame_any S (depthT t) t (.mk 0 0 ⟨#[]⟩ [] []) _ (.agg #[.int .i64 0, .int .i64 0, .string ⟨#[]⟩, .slice none 0 0, .slice none 0 0]) _ (Nat.le_refl _) v1.s v1.v (zero_lv _ _))
 clear h v1 hb
 go_enter Tryz.func49, Tryz.ntmps49
 go_wp2_with fail
 refine HS.out.mono ?_
 rintro e u ⟨⟨r, rfl, hr⟩, hb2⟩
 have HB2 := hid (HB.out.trans (hb2.mono HB.out.size))
 have HR := hid hr
 clear hb2 hr HS
 go_wp2_with fail
 go_ret
 refine ⟨?_, HB2.out⟩
 have e : r = noneT t := by rw [Bool.eq_iff_iff, HR.out, noneT_iff]
 rw [← e]
 rfl
def idxF : Nat → List UInt8 → Option Nat
 | n, [] => some n
 | n, b :: r => if b.toNat < 48 ∨ 57 < b.toNat then none else if 999 < 10 * n + (b.toNat - 48) then none else idxF (10 * n + (b.toNat - 48)) r
def idxP (l : List UInt8) : Option Nat := if l = [] ∨ (l.head? = some 48 ∧ l.length ≠ 1) then none else idxF 0 l

theorem below_iter (w : World) (s : ByteArray) (k : Nat) : Below w.heap.size w (w.iter s k) := (Below.refl _ _).alloc (Nat.le_refl _) _
theorem idxP_go {s : ByteArray} (h0 : 0 < s.size) (h : ¬ (s[0].toNat = 48 ∧ ¬ s.toList = [48])) : idxP s.data.toList = idxF 0 s.data.toList := by
 unfold idxP
 rw [if_neg]
 rintro (h1 | ⟨h1, h2⟩)
 ·have h2 := congrArg List.length h1
  have hl : s.data.toList.length = s.size := rfl
  rw [hl, List.length_nil] at h2; omega
 ·have e : s.data.toList[0]? = some s[0] := by rw [List.getElem?_eq_getElem (by exact h0)]; rfl
  rw [List.head?_eq_getElem?, e] at h1
  injection h1 with h1
  refine h ⟨by rw [h1]; rfl, fun h3 => h2 ?_⟩
  rw [ByteArray.toList_eq] at h3
  rw [h3]; rfl
theorem idxP_zero {s : ByteArray} (h0 : 0 < s.size) (h : s[0].toNat = 48) (h2 : ¬ s.toList = [48]) : idxP s.data.toList = none := by
 unfold idxP
 rw [if_pos]
 refine .inr ⟨?_, fun h3 => h2 ?_⟩
 ·have e : s.data.toList[0]? = some s[0] := by rw [List.getElem?_eq_getElem (by exact h0)]; rfl
  rw [List.head?_eq_getElem?, e]
  exact congrArg some (UInt8.toNat_inj.1 h)
 ·rw [ByteArray.toList_eq]
  have e : s.data.toList[0]? = some s[0] := by rw [List.getElem?_eq_getElem (by exact h0)]; rfl
  match hl : s.data.toList, h3 with
  | [b], _ =>
   rw [hl] at e
   injection e with e
   rw [e]
   exact congrArg (fun x => [x]) (UInt8.toNat_inj.1 h)
theorem idxF_bad {s : ByteArray} {k m : Nat} (h : k < s.size) (hb : s[k].toNat < 48 ∨ 57 < s[k].toNat) : idxF m (s.data.toList.drop k) = none := by
 rw [drop_cons s k h]; unfold idxF; rw [if_pos hb]
theorem idxF_on {s : ByteArray} {k m : Nat} (h : k < s.size) (hb : ¬ (s[k].toNat < 48 ∨ 57 < s[k].toNat)) (hl : ¬ 999 < 10 * m + (s[k].toNat - 48)) : idxF m (s.data.toList.drop k) = idxF (10 * m + (s[k].toNat - 48)) (s.data.toList.drop (k + 1)) := by
 rw [drop_cons s k h]; conv => lhs; unfold idxF
 rw [if_neg hb, if_neg hl]

/-! ### by the document -/
theorem idxF_long : ∀ (j n : Nat) (l : List UInt8), 10 ^ j ≤ n → 3 ≤ l.length + j → 0 < l.length → j ≤ 2 → idxF n l = none
 | j, n, [], _, _, h, _ => absurd h (by simp)
 | j, n, b :: r, hn, hl, _, hj => by
  unfold idxF
  split
  ·rfl
  ·split
   ·rfl
   ·next hb hv =>
    have hp : 0 < 10 ^ j := Nat.pow_pos (by omega)
    have e : (10 : Nat) ^ (j + 1) = 10 * 10 ^ j := by rw [Nat.pow_succ]; omega
    by_cases h2 : j = 2
    ·subst h2
     omega
    ·refine idxF_long (j + 1) _ r (by omega) (by simp at hl; omega) (by simp at hl; omega) (by omega)
theorem idxP_long {l : List UInt8} (h : 3 < l.length) : idxP l = none := by
 unfold idxP
 split
 ·rfl
 ·next hc =>
  match l, h with
  | b :: r, h =>
   unfold idxF
   split
   ·rfl
   ·split
    ·rfl
    ·next hb hv =>
     have h48 : b.toNat ≠ 48 := fun h3 => hc (.inr ⟨congrArg some (UInt8.toNat_inj.1 h3), by omega⟩)
     exact idxF_long 0 _ r (by simp; omega) (by simp at h; omega) (by simp at h; omega) (by omega)
def idxI (l : List UInt8) : Int := match idxP l with | some n => n | none => -1
theorem idxI_none {l : List UInt8} (h : idxP l = none) : idxI l = -1 := by unfold idxI; rw [h]
theorem idxI_some {l : List UInt8} {n : Nat} (h : idxP l = some n) : idxI l = n := by unfold idxI; rw [h]
theorem ret_i64' {a b : Int} (h : a = b) : Ending.returned (.int .i64 a) = .returned (.int .i64 b) := by rw [h]
theorem idxF_bound {k m : Nat} (h : m < 10 ^ k) (hk : k < 3) (d : Nat) (hd : d ≤ 9) : 10 * m + d < 10 ^ (k + 1) ∧ 10 * m + d ≤ 999 := by
 have e : (10 : Nat) ^ (k + 1) = 10 * 10 ^ k := by rw [Nat.pow_succ]; omega
 have h3 : (10 : Nat) ^ k ≤ 10 ^ 2 := Nat.pow_le_pow_right (by omega) (by omega)
 have : (10 : Nat) ^ 2 = 100 := by decide
 omega

set_option maxHeartbeats 2000000 in
theorem rindex_any (s : ByteArray) (w : World) (hs : s.size ≤ 140737488351232) : Calls Tryz.prog 149 #[.string s] w fun e w' => e = .returned (.int .i64 (idxI s.data.toList)) ∧ w = w' := by
 have HS := hid hs
 have hlen : s.data.toList.length = s.size := rfl
 have HL := hid hlen
 clear hs hlen
 by_cases h1 : s.size < 1
 ·have h1' : (s.size : Int) < 1 := by omega
  go_enter Tryz.func149, Tryz.ntmps149
  go_wp2_with fail
  go_ret
  exact ⟨ret_i64' (idxI_none (by unfold idxP; rw [if_pos (.inl (List.eq_nil_of_length_eq_zero (by have := HL.out; omega)))])).symm, rfl⟩
 ·by_cases h3 : 3 < s.size
  ·have h1' : (1 : Int) ≤ (s.size : Int) := by omega
   have h3' : (3 : Int) < (s.size : Int) := by omega
   have H3 := hid h3
   clear h1 h3
   go_enter Tryz.func149, Tryz.ntmps149
   go_wp2_with fail
   go_ret
   exact ⟨ret_i64' (idxI_none (idxP_long (by have := HL.out; have := H3.out; omega))).symm, rfl⟩
  ·have h0 : 0 < s.size := by omega
   have h1' : (1 : Int) ≤ (s.size : Int) := by omega
   have h3' : (s.size : Int) ≤ 3 := by omega
   have H3 := hid (show 0 < s.size ∧ s.size ≤ 3 from ⟨h0, by omega⟩)
   clear h1 h3
   by_cases c1 : s[0].toNat = 48 ∧ 1 < s.size
   ·have b1 : (s[0].toNat : Int) = 48 := by omega
    have b2 : (1 : Int) < (s.size : Int) := by omega
    have C1 := hid c1
    clear c1
    go_enter Tryz.func149, Tryz.ntmps149
    go_wp2_with fail
    go_ret
    exact ⟨ret_i64' (idxI_none (idxP_zero H3.out.1 C1.out.1 fun h => by
     have h4 := congrArg List.length h
     rw [ByteArray.toList_eq, HL.out, List.length_singleton] at h4
     have := C1.out.2; omega)).symm, rfl⟩
   ·have HI := hid (idxP_go h0 fun h => c1 ⟨h.1, Classical.byContradiction fun h4 => h.2 (by
     have h5 : s.data.toList.length = 1 := by have := HL.out; omega
     have e : s.data.toList[0]? = some s[0] := by rw [List.getElem?_eq_getElem (by exact h0)]; rfl
     rw [ByteArray.toList_eq]
     match hl : s.data.toList, h5 with
     | [b], _ =>
      rw [hl] at e
      injection e with e
      rw [e]
      exact congrArg (fun x => [x]) (UInt8.toNat_inj.1 h.1))⟩)
    have c2 : ((s[0].toNat : Int) = 48 ∧ (s.size : Int) ≤ 1) ∨ (((s[0].toNat : Int) == 48) = false ∧ ¬ (s[0].toNat : Int) = 48) := by
     by_cases c3 : s[0].toNat = 48
     ·exact .inl ⟨by omega, by omega⟩
     ·exact .inr ⟨beq_eq_false_iff_ne.2 (by omega), by omega⟩
    clear c1
    rcases c2 with ⟨b1, b2⟩ | ⟨b1, b2⟩
    all_goals
     go_enter Tryz.func149, Tryz.ntmps149
     go_wp2_with fail
     go_loopw [3, 4] (fun n i wr => ∃ k m : Nat, i = .int .i64 k ∧ n = .int .i64 m ∧ m ≤ 999 ∧ k ≤ s.size ∧ wr = w ∧ Hid (m < 10 ^ k ∧ idxF m (s.data.toList.drop k) = idxF 0 s.data.toList)) (fun _ i _ => s.size - (intOf i).toNat)
     case atStart => exact ⟨0, 0, rfl, rfl, by omega, by omega, rfl, by simp, rfl⟩
     case round =>
      obtain ⟨k, m, rfl, rfl, hm, hk, rfl, HF⟩ := hrel
      by_cases hp : k < s.size
      ·by_cases hb : s[k].toNat < 48 ∨ 57 < s[k].toNat
       ·have HB := hid hb
        by_cases hc : (s[k].toNat : Int) < 48
        ·clear hb
         go_wp2_with fail
         go_ret
         exact ⟨ret_i64' (idxI_none (by rw [HI.out, ← HF.out.2, idxF_bad hp HB.out])).symm, rfl⟩
        ·have hc2 : (48 : Int) ≤ (s[k].toNat : Int) := by omega
         have hc3 : (57 : Int) < (s[k].toNat : Int) := by omega
         clear hb hc
         go_wp2_with fail
         go_ret
         exact ⟨ret_i64' (idxI_none (by rw [HI.out, ← HF.out.2, idxF_bad hp HB.out])).symm, rfl⟩
       ·have HB := hid hb
        have hd := idxF_bound HF.out.1 (by omega) (s[k].toNat - 48) (by omega)
        have HD := hid hd
        have b1 : (48 : Int) ≤ (s[k].toNat : Int) := by omega
        have b2 : (s[k].toNat : Int) ≤ 57 := by omega
        have m1 : (m : Int) ≤ 999 := by omega
        clear hb hd
        go_wp2_with fail
        go_roundw
        case rel => exact ⟨k + 1, 10 * m + (s[k].toNat - 48), by go_num, by congr 1; omega, HD.out.2, by omega, trivial, HD.out.1, (idxF_on hp HB.out (by have := HD.out.2; omega)).symm.trans HF.out.2⟩
        case measure => simp [intOf]; omega
      ·go_wp2_with fail
       go_ret
       exact ⟨ret_i64' (idxI_some (by rw [HI.out, ← HF.out.2, List.drop_of_length_le (by show s.size ≤ k; omega)]; rfl)).symm, rfl⟩
def nmI (k : Nat) : List ByteArray → ByteArray → Int
 | [], _ => -1
 | a :: r, s => if a = s then k else nmI (k + 1) r s
def placeT (t : VT) (s : ByteArray) : Int :=
 if t.kind = 7 then nmI 0 t.names s else if t.kind = 6 then (if idxI s.data.toList < t.items.length then idxI s.data.toList else -1) else -1
def getT : VT → List ByteArray → Option VT
 | t, [] => some t
 | t, s :: r => if placeT t s < 0 then none else match t.items[(placeT t s).toNat]? with
  | some u => getT u r
  | none => none
theorem nmI_hit {s : ByteArray} : ∀ {l : List ByteArray} {j k : Nat} (h : j < l.length), l[j] = s → (∀ i (hi : i < l.length), i < j → l[i] ≠ s) → nmI k l s = ((k + j : Nat) : Int)
 | a :: r, 0, k, _, h1, _ => by
  unfold nmI
  rw [if_pos (by simpa using h1)]; simp
 | a :: r, j + 1, k, h, h1, h2 => by
  unfold nmI
  rw [if_neg (by have := h2 0 (by simp) (by omega); simpa using this)]
  have h' : j < r.length := by simpa using h
  rw [nmI_hit (k := k + 1) h' (by simpa using h1) (fun i hi hij => by have := h2 (i + 1) (by simp; omega) (by omega); simpa using this)]
  congr 1; omega
theorem nmI_miss {s : ByteArray} : ∀ {l : List ByteArray} {k : Nat}, (∀ i (hi : i < l.length), l[i] ≠ s) → nmI k l s = -1
 | [], _, _ => rfl
 | a :: r, k, h => by
  unfold nmI
  rw [if_neg (by have := h 0 (by simp); simpa using this)]
  exact nmI_miss fun i hi => by have := h (i + 1) (by simp; omega); simpa using this
theorem nmI_lt {s : ByteArray} : ∀ {l : List ByteArray} {k : Nat}, -1 ≤ nmI k l s ∧ nmI k l s < ((k + l.length : Nat) : Int)
 | [], k => by unfold nmI; constructor <;> simp <;> omega
 | a :: r, k => by
  unfold nmI
  split
  ·constructor <;> simp <;> omega
  ·have h := nmI_lt (s := s) (l := r) (k := k + 1)
   constructor
   ·exact h.1
   ·simp only [List.length_cons]; have := h.2; omega
theorem placeT_lt {t : VT} {s : ByteArray} (hn : t.kind = 7 → t.names.length ≤ t.items.length) (h : 0 ≤ placeT t s) : (placeT t s).toNat < t.items.length := by
 unfold placeT at h ⊢
 split at h
 ·next hk =>
  rw [if_pos hk]
  have h1 := (nmI_lt (s := s) (l := t.names) (k := 0)).2
  have := hn hk
  omega
 ·next hk =>
  rw [if_neg hk]
  split at h
  ·next h6 =>
   rw [if_pos h6]
   split at h
   ·next hl => rw [if_pos hl]; omega
   ·omega
  ·omega

set_option maxHeartbeats 1000000 in
set_option maxRecDepth 100000 in
theorem slindex_any (A : Option Addr) (c : Nat) (ns : List ByteArray) (s : ByteArray) (w : World) (S : Nat → Prop) (h : StrsAt w S A ns) (hn : ns.length ≤ 140737488351232) : Calls Tryz.prog 121 #[.slice A ns.length c, .string s] w fun e w' => e = .returned (.int .i64 (nmI 0 ns s)) ∧ w = w' := by
 have HS := hid h
 have HN := hid hn
 clear h
 go_enter Tryz.func121, Tryz.ntmps121
 go_wp2_with fail
 go_loopw [8] (fun i wr => ∃ k : Nat, i = .int .i64 k ∧ k ≤ ns.length ∧ wr = w ∧ Hid (∀ j (h : j < ns.length), j < k → ns[j] ≠ s)) (fun i _ => ns.length - (intOf i).toNat)
 case atStart => exact ⟨0, rfl, by omega, rfl, fun j _ h => absurd h (by omega)⟩
 case round =>
  obtain ⟨k, rfl, hk, rfl, HJ⟩ := hrel
  by_cases hlt : k < ns.length
  ·obtain ⟨p, o, rfl, -, hc⟩ := HS.out (by omega)
   have hck := (hc k hlt).1
   clear hc
   by_cases hb : s = ns[k]
   ·have hb2 : (s.toList == ns[k].toList) = true := by rw [str_beq]; exact decide_eq_true hb
    have HB := hid hb
    clear hb
    go_wp2_with fail
    go_ret
    refine ⟨?_, rfl⟩
    rw [nmI_hit (k := 0) hlt HB.out.symm (fun i hi hij => HJ.out i hi hij)]
    simp
   ·have hb2 : (s.toList == ns[k].toList) = false := by rw [str_beq]; exact decide_eq_false hb
    have HB := hid hb
    clear hb
    go_wp2_with fail
    go_roundw
    case rel => exact ⟨k + 1, by go_num, by omega, trivial, fun j h hjk => by
     by_cases e : j = k
     ·subst e; exact fun h => HB.out h.symm
     ·exact HJ.out j h (by omega)⟩
    case measure => simp [intOf]; omega
  ·go_wp2_with fail
   go_ret
   exact ⟨by rw [nmI_miss fun j h => HJ.out j h (by omega)]; rfl, rfl⟩

structure AtV (w : World) (S : Nat → Prop) (t : VT) (g o : Nat) (A : Option Addr) (c : Nat) (A' : Option Addr) (c' : Nat) : Prop where
 c0 : w.cell? ⟨g, o, none⟩ = some (.int .i64 t.kind)
 c1 : w.cell? ⟨g, o + 1, none⟩ = some (.int .i64 t.num)
 c2 : w.cell? ⟨g, o + 2, none⟩ = some (.string t.text)
 c3 : w.cell? ⟨g, o + 3, none⟩ = some (.slice A t.items.length c)
 c4 : w.cell? ⟨g, o + 4, none⟩ = some (.slice A' t.names.length c')
 v : LV w S t (.agg #[.int .i64 t.kind, .int .i64 t.num, .string t.text, .slice A t.items.length c, .slice A' t.names.length c'])
theorem AtV.of_box {w : World} {S : Nat → Prop} {t : VT} {g : Nat} {A : Option Addr} {c : Nat} {A' : Option Addr} {c' : Nat} (h : Box w g (.int .i64 t.kind) (.int .i64 t.num) (.string t.text) (.slice A t.items.length c) (.slice A' t.names.length c'))
  (hv : LV w S t (.agg #[.int .i64 t.kind, .int .i64 t.num, .string t.text, .slice A t.items.length c, .slice A' t.names.length c'])) : AtV w S t g 0 A c A' c' := ⟨h.c0, h.c1, h.c2, h.c3, h.c4, hv⟩
theorem AtV.item {w : World} {S : Nat → Prop} {t : VT} {g o : Nat} {A : Option Addr} {c : Nat} {A' : Option Addr} {c' : Nat} (h : AtV w S t g o A c A' c') {j : Nat} (hj : j < t.items.length) :
  ∃ G off A2 c2 A3 c3, A = some ⟨G, off, none⟩ ∧ S G ∧ AtV w S t.items[j] G (off + j * 5) A2 c2 A3 c3 := by
 obtain ⟨A0, c0, A0', c0', hag, -, -, -, -, -, -, hla⟩ := h.v.shape
 injection hag with hag; injection hag with hag
 injection hag with y0 hag; injection hag with y1 hag; injection hag with y2 hag; injection hag with y3 hag
 injection y3 with y3
 subst y3
 obtain ⟨G, off, hA, hG, hls⟩ := hla (by omega)
 obtain ⟨x0, x1, x2, x3, x4, h0, h1, h2, h3, h4, hx⟩ := hls.at j hj
 obtain ⟨A2, e2, A3, e3, hag2, -⟩ := hx.shape
 injection hag2 with hag2; injection hag2 with hag2
 injection hag2 with z0 hag2; injection hag2 with z1 hag2; injection hag2 with z2 hag2; injection hag2 with z3 hag2; injection hag2 with z4 hag2
 subst z0 z1 z2 z3 z4
 exact ⟨G, off, A2, e2, A3, e3, hA, hG, h0, h1, h2, h3, h4, hx⟩
theorem AtV.names {w : World} {S : Nat → Prop} {t : VT} {g o : Nat} {A : Option Addr} {c : Nat} {A' : Option Addr} {c' : Nat} (h : AtV w S t g o A c A' c') : StrsAt w S A' t.names ∧ t.names.length ≤ 140737488351232 ∧ t.items.length ≤ 140737488351232 := by
 obtain ⟨A0, c0, A0', c0', hag, -, -, -, hl1, hl2, hst, -⟩ := h.v.shape
 injection hag with hag; injection hag with hag
 injection hag with y0 hag; injection hag with y1 hag; injection hag with y2 hag; injection hag with y3 hag; injection hag with y4 hag
 injection y4 with y4
 subst y4
 exact ⟨hst, hl2, hl1⟩
theorem placeT_doc {t : VT} {s : ByteArray} (h : t.kind = 7) : placeT t s = nmI 0 t.names s := by unfold placeT; rw [if_pos h]
theorem placeT_arr {t : VT} {s : ByteArray} (h : t.kind = 6) : placeT t s = if idxI s.data.toList < t.items.length then idxI s.data.toList else -1 := by unfold placeT; rw [if_neg (by omega), if_pos h]
theorem placeT_else {t : VT} {s : ByteArray} (h7 : t.kind ≠ 7) (h6 : t.kind ≠ 6) : placeT t s = -1 := by unfold placeT; rw [if_neg h7, if_neg h6]
set_option maxHeartbeats 2000000 in
set_option maxRecDepth 100000 in
theorem place_any (S : Nat → Prop) (t : VT) (v : Value) (s : ByteArray) (w : World) (hS : ∀ b, S b → b < w.heap.size) (h : LV w S t v) (hs : s.size ≤ 140737488351232) :
  Calls Tryz.prog 117 #[v, .string s] w fun e w' => e = .returned (.int .i64 (placeT t s)) ∧ Below w.heap.size w w' := by
 obtain ⟨A0, c0, A0', c0', rfl, hl, -, hst, v1, hb0⟩ := one_var hS h
 have P := hid v1
 have HB := hid hb0
 have HST := hid hst
 obtain ⟨R, hR⟩ : ∃ R, R = placeT t s := ⟨_, rfl⟩
 rw [← hR]
 obtain ⟨k, hk⟩ : ∃ k, k = t.kind := ⟨_, rfl⟩
 have q0 := v1.x.c0
 have q3 := v1.x.c3
 have q4 := v1.x.c4
 rw [← hk] at q0 q3 q4
 have HK := hid hk
 have HP := hid hR
 have hb1 := hb0
 rw [← hk] at hb1
 have HB1 := hid hb1
 have hl1 := hl.1
 have hl2 := hl.2
 clear h v1 hb0 hk hR hst hb1
 go_enter Tryz.func117, Tryz.ntmps117
 have hk' := HK.out
 rw [← hk']
 clear hk'
 by_cases h6 : k = 6
 ·subst h6
  go_wp2_with fail
  refine (rindex_any s _ hs).mono ?_
  rintro e w1 ⟨rfl, rfl⟩
  by_cases hlt : idxI s.data.toList < (t.items.length : Int)
  ·have hlt2 : decide (idxI s.data.toList < (t.items.length : Int)) = true := decide_eq_true hlt
   go_wp2_with fail
   go_ret
   refine ⟨?_, HB1.out⟩
   rw [HP.out, placeT_arr HK.out.symm, if_pos hlt]; rfl
  ·have hlt2 : decide (idxI s.data.toList < (t.items.length : Int)) = false := decide_eq_false hlt
   go_wp2_with fail
   go_ret
   refine ⟨?_, HB1.out⟩
   rw [HP.out, placeT_arr HK.out.symm, if_neg (by omega)]; rfl
 have b6 := beq_false_of_ne h6
 by_cases h7 : k = 7
 rotate_left
 ·have b7 := beq_false_of_ne h7
  go_wp2_with fail
  go_ret
  refine ⟨?_, HB1.out⟩
  rw [HP.out, placeT_else (fun h => h7 (HK.out.trans h)) (fun h => h6 (HK.out.trans h))]; rfl
 subst h7
 go_wp2_with fail
 generalize hW : w.alloc (.cells #[.int .i64 7, .int .i64 t.num, .string t.text, .slice A0 t.items.length c0, .slice A0' t.names.length c0'] 25) = w1 at *
 go_loopw [6] (fun i wr => ∃ j : Nat, i = .int .i64 j ∧ j ≤ t.names.length ∧ wr = w1 ∧ Hid (∀ i (h : i < t.names.length), i < j → t.names[i] ≠ s)) (fun i _ => t.names.length - (intOf i).toNat)
 case atStart => exact ⟨0, rfl, by omega, rfl, fun j _ h => absurd h (by omega)⟩
 case round =>
  obtain ⟨j, rfl, hj, rfl, HJ⟩ := hrel
  by_cases hlt : j < t.names.length
  ·obtain ⟨p, o, rfl, hp, hc⟩ := HST.out (by omega)
   have hck : wr.cell? ⟨p, o + j, none⟩ = some (.string t.names[j]) := (HB1.out.cell (p := ⟨p, o + j, none⟩) (hS p hp)).trans (hc j hlt).1
   clear hc
   by_cases hb : t.names[j] = s
   ·have hb2 : (t.names[j].toList == s.toList) = true := by rw [str_beq]; exact decide_eq_true hb
    have HE := hid hb
    clear hb
    go_wp2_with fail
    go_ret
    refine ⟨?_, HB1.out⟩
    rw [HP.out, placeT_doc HK.out.symm, nmI_hit (k := 0) hlt HE.out (fun i hi hij => HJ.out i hi hij)]
    simp
   ·have hb2 : (t.names[j].toList == s.toList) = false := by rw [str_beq]; exact decide_eq_false hb
    have HE := hid hb
    clear hb
    go_wp2_with fail
    go_roundw
    case rel => exact ⟨j + 1, by go_num, by omega, trivial, fun i h hij => by
     by_cases e : i = j
     ·subst e; exact HE.out
     ·exact HJ.out i h (by omega)⟩
    case measure => simp [intOf]; omega
  ·go_wp2_with fail
   go_ret
   refine ⟨?_, HB1.out⟩
   rw [HP.out, placeT_doc HK.out.symm, nmI_miss fun i h => HJ.out i h (by omega)]; rfl
theorem mayL_get : ∀ {l : List VT}, mayL l = true → ∀ j (hj : j < l.length), mayT l[j] = true
 | a :: r, h, 0, _ => by unfold mayL at h; rw [Bool.and_eq_true] at h; exact h.1
 | a :: r, h, j + 1, hj => by
  unfold mayL at h
  rw [Bool.and_eq_true] at h
  exact mayL_get h.2 j (by simpa using hj)
theorem may_nl {t : VT} (h : mayT t = true) (hk : t.kind = 7) : t.names.length ≤ t.items.length := by
 cases t with
 | mk k i s l ns =>
  have h1 := (may_names h).1 hk
  simp only [VT.names, VT.items]
  omega
theorem may_item {t : VT} (h : mayT t = true) {j : Nat} (hj : j < t.items.length) : mayT t.items[j] = true := by
 cases t with
 | mk k i s l ns => exact mayL_get (may_names h).2.2 j hj
def okT (t : VT) (p : List ByteArray) : Bool := (getT t p).isSome
def gotT (t : VT) (p : List ByteArray) : VT := (getT t p).getD (.mk 0 0 ⟨#[]⟩ [] [])
theorem getT_neg {t : VT} {s : ByteArray} {r : List ByteArray} (h : placeT t s < 0) : getT t (s :: r) = none := by unfold getT; rw [if_pos h]
theorem getT_pos {t : VT} {s : ByteArray} {r : List ByteArray} (h : 0 ≤ placeT t s) (hj : (placeT t s).toNat < t.items.length) : getT t (s :: r) = getT (t.items[(placeT t s).toNat]) r := by
 conv => lhs; unfold getT
 rw [if_neg (by omega), List.getElem?_eq_getElem hj]
def GetR (t : VT) (p : List ByteArray) (S : World → Nat → Prop) (w : World) (e : Ending) (w' : World) : Prop :=
 ∃ v, e = .returned (.tuple #[v, .bool (okT t p)]) ∧ LV w' (S w') (gotT t p) v ∧ Below w.heap.size w w'
theorem get_end {w w5 : World} {S : Nat → Prop} {t u : VT} {p : List ByteArray} {ok : Bool} {c0 c1 c2 c3 c4 : Value} (hS : ∀ b, S b → b < w.heap.size) (hb : Below w.heap.size w w5) (hv : LV w S u (.agg #[c0, c1, c2, c3, c4])) (hg : gotT t p = u) (hok : ok = okT t p) :
  GetR t p (fun _ => S) w (.returned (.tuple #[.agg #[c0, c1, c2, c3, c4], .bool ok])) (five w5 (w.heap.size + 1) 0 c0 c1 c2 c3 c4) := by
 have hr5 := five_rest w5 (w.heap.size + 1) 0 c0 c1 c2 c3 c4
 have hk : ∀ b, b < w.heap.size → (five w5 (w.heap.size + 1) 0 c0 c1 c2 c3 c4).heap[b]? = w.heap[b]? := fun b hb' => (five_other _ _ _ _ _ _ _ _ b (by omega)).trans (hb.block b hb')
 subst hg hok
 exact ⟨_, rfl, hv.keep fun b hb' => hk b (hS b hb'), ⟨hr5.1.trans hb.os, hr5.2.1.trans hb.tape, hr5.2.2.trans hb.output, by rw [five_size]; exact hb.size, hk⟩⟩
set_option maxHeartbeats 4000000 in
set_option maxRecDepth 100000 in
theorem rget_any (S : Nat → Prop) (t : VT) (v : Value) (A : Option Addr) (c : Nat) (p : List ByteArray) (w : World) (hS : ∀ b, S b → b < w.heap.size) (h : LV w S t v) (hm : mayT t = true) (hp : StrsAt w S A p) (hn : p.length ≤ 140737488351232) :
  Calls Tryz.prog 77 #[v, .slice A p.length c] w (GetR t p (fun _ => S) w) := by
 obtain ⟨A0, c0, A0', c0', rfl, -, -, -, v1, hb0⟩ := one_var hS h
 have HX := hid v1.x
 have HB := hid hb0
 have HP := hid hp
 have HV := hid h
 have HM := hid hm
 clear h v1 hb0 hp hm
 go_enter Tryz.func77, Tryz.ntmps77
 go_wp2_with fail
 have hz1 : (w.alloc (.cells #[.int .i64 t.kind, .int .i64 t.num, .string t.text, .slice A0 t.items.length c0, .slice A0' t.names.length c0'] 25)).heap.size = w.heap.size + 1 := by simp
 have hB0 : Below w.heap.size w ((w.alloc (.cells #[.int .i64 t.kind, .int .i64 t.num, .string t.text, .slice A0 t.items.length c0, .slice A0' t.names.length c0'] 25)).alloc (.cells #[.int .i64 0, .int .i64 0, .string ⟨#[]⟩, .slice none 0 0, .slice none 0 0] 25)) := HB.out.alloc (by omega) _
 have hX0 := HX.out.alloc (.cells #[.int .i64 0, .int .i64 0, .string ⟨#[]⟩, .slice none 0 0, .slice none 0 0] 25)
 have hR0 : Box ((w.alloc (.cells #[.int .i64 t.kind, .int .i64 t.num, .string t.text, .slice A0 t.items.length c0, .slice A0' t.names.length c0'] 25)).alloc (.cells #[.int .i64 0, .int .i64 0, .string ⟨#[]⟩, .slice none 0 0, .slice none 0 0] 25)) (w.heap.size + 1) (.int .i64 0) (.int .i64 0) (.string ⟨#[]⟩) (.slice none 0 0) (.slice none 0 0) := by
  have h := Box.new (w := w.alloc (.cells #[.int .i64 t.kind, .int .i64 t.num, .string t.text, .slice A0 t.items.length c0, .slice A0' t.names.length c0'] 25)) (.int .i64 0) (.int .i64 0) (.string ⟨#[]⟩) (.slice none 0 0) (.slice none 0 0)
  rw [hz1] at h
  exact h
 have HB0 := hid hB0
 have HX0 := hid hX0
 have HR0 := hid hR0
 clear hB0 hX0 hR0 hz1 HB HX
 go_loopw [6] (fun i wr => ∃ (j : Nat) (u : VT) (B : Option Addr) (k : Nat) (B' : Option Addr) (k' : Nat), i = .int .i64 j ∧ j ≤ p.length ∧ Hid (getT t p = getT u (p.drop j)) ∧ Hid (mayT u = true) ∧
   Hid (Box wr w.heap.size (.int .i64 u.kind) (.int .i64 u.num) (.string u.text) (.slice B u.items.length k) (.slice B' u.names.length k')) ∧
   Hid (LV w S u (.agg #[.int .i64 u.kind, .int .i64 u.num, .string u.text, .slice B u.items.length k, .slice B' u.names.length k'])) ∧
   Hid (Below w.heap.size w wr) ∧ Hid (Box wr (w.heap.size + 1) (.int .i64 0) (.int .i64 0) (.string ⟨#[]⟩) (.slice none 0 0) (.slice none 0 0))) (fun i _ => p.length - (intOf i).toNat)
 case atStart => exact ⟨0, t, A0, c0, A0', c0', rfl, by omega, hid (by simp), HM, HX0, HV, HB0, HR0⟩
 case round =>
  obtain ⟨j, u, B, k, B', k', rfl, hj, HG, HMU, HXU, HVU, HBU, HRU⟩ := hrel
  clear HB0 HX0 HR0
  by_cases hlt : j < p.length
  ·obtain ⟨b, off, rfl, hSb, hc⟩ := HP.out (by omega)
   have hck : wr.cell? ⟨b, off + j, none⟩ = some (.string p[j]) := (HBU.out.cell (p := ⟨b, off + j, none⟩) (hS b hSb)).trans (hc j hlt).1
   have hps := (hc j hlt).2
   have hbl : b < wr.heap.size := Nat.lt_of_lt_of_le (hS b hSb) HBU.out.size
   clear hc
   have hlt1 : (j : Int) < (p.length : Int) := by omega
   have hlt2 : decide ((j : Int) < (p.length : Int)) = true := decide_eq_true hlt1
   obtain ⟨s, hsj⟩ : ∃ s, s = p[j] := ⟨_, rfl⟩
   rw [← hsj] at hck hps
   have HSJ := hid hsj
   clear hsj
   go_wp2_with fail
   refine wp_region_mix [0, 1, 2, 3, 4, 5, 6] (by kernel_rfl) (by kernel_rfl) (fun _ d _ _ _ h => by cases d <;> exact h) ?_
   simp only [atR]
   have hbd : Below wr.heap.size wr wr.drew := (Below.refl _ _).drew
   have HXU := hid (HXU.out.call hbd)
   have HBU := hid (toStart HBU.out hbd)
   have HRU := hid (HRU.out.call hbd)
   have hck0 : wr.drew.cell? ⟨b, off + j, none⟩ = some (.string s) := hck
   have hbl0 : b < wr.drew.heap.size := hbl
   clear hbd hck hbl
   generalize wr.drew = v0 at *
   have q0 := cell_later (B := v0.heap.size) (w := v0) HXU.out.c0 HXU.out.lt
   have q1 := cell_later (B := v0.heap.size) (w := v0) HXU.out.c1 HXU.out.lt
   have q2 := cell_later (B := v0.heap.size) (w := v0) HXU.out.c2 HXU.out.lt
   have q3 := cell_later (B := v0.heap.size) (w := v0) HXU.out.c3 HXU.out.lt
   have q4 := cell_later (B := v0.heap.size) (w := v0) HXU.out.c4 HXU.out.lt
   have q5 := cell_later (B := v0.heap.size) (w := v0) hck0 hbl0
   first | refine mix_pure ?_ | refine mix_pureB ?_
   simp only [List.takeWhile, List.dropWhile, isPure, Nat.reduceBNe]
   repeat (go_big_quiet_step (fail))
   refine wpQuiet_nil ?_
   clear q0 q1 q2 q3 q4 q5 hck0 hbl0
   first | refine mix_call rfl (fun K hK => ?_) | refine mix_callB rfl (fun K hK => ?_)
   go_simp
   refine (place_any S u _ s v0 (fun b hb => Nat.lt_of_lt_of_le (hS b hb) HBU.out.size) (HVU.out.keep fun b hb => HBU.out.block b (hS b hb)) hps).mono ?_
   rintro e w5 ⟨rfl, hb⟩
   refine hK _ _ hb ?_
   clear hK K
   try simp only [Act.put]
   have HXU := hid (HXU.out.call hb)
   have HBU := hid (toStart HBU.out hb)
   have HRU := hid (HRU.out.call hb)
   clear hb
   obtain ⟨P, hP⟩ : ∃ P, P = placeT u s := ⟨_, rfl⟩
   rw [← hP]
   have HPP := hid hP
   clear hP
   first | refine mix_pure ?_ | refine mix_pureB ?_
   simp only [List.takeWhile, List.dropWhile, isPure, Nat.reduceBNe]
   repeat (go_big_quiet_step (fail))
   refine wpQuiet_nil ?_
   unfold wpMix
   by_cases hneg : P < 0
   ·have hneg2 : decide (P < 0) = true := decide_eq_true hneg
    have rf := fun i => HRU.out.free i
    have r0 := HRU.out.c0
    have r1 := HRU.out.c1
    have r2 := HRU.out.c2
    have r3 := HRU.out.c3
    have r4 := HRU.out.c4
    have hnone : getT t p = none := by
     rw [HG.out, List.drop_eq_getElem_cons hlt]
     exact getT_neg (by rw [← HSJ.out, ← HPP.out]; exact hneg)
    have HNN := hid hnone
    clear hnone
    go_wp2_with fail
    refine bodyPost_ret (results_cell_two rfl _ _ (w.heap.size + 1) 25 _ (0, 0) rfl (five_box HRU.out) (by kernel_rfl)) rfl ?_
    exact get_end hS HBU.out (leaf_lv w S 0 0 ⟨#[]⟩ (by unfold Rng; omega) (by unfold Rng; omega) (by decide)) (by unfold gotT; rw [HNN.out]; rfl) (by unfold okT; rw [HNN.out]; rfl)
   ·have hneg2 : decide (P < 0) = false := decide_eq_false hneg
    obtain ⟨i, rfl⟩ : ∃ i : Nat, P = i := ⟨P.toNat, by omega⟩
    have hPi : (placeT u s).toNat = i := by rw [← HPP.out]; simp
    have hPn : 0 ≤ placeT u s := by rw [← HPP.out]; omega
    have hil : (placeT u s).toNat < u.items.length := placeT_lt (may_nl HMU.out) hPn
    have hgo : getT t p = getT (u.items[(placeT u s).toNat]) (p.drop (j + 1)) := by
     rw [HG.out, List.drop_eq_getElem_cons hlt, ← HSJ.out]
     exact getT_pos hPn hil
    simp only [hPi] at hgo hil
    have hAt : AtV w5 S u w.heap.size 0 B k B' k' := AtV.of_box HXU.out (HVU.out.keep fun b hb => HBU.out.block b (hS b hb))
    obtain ⟨G, off1, A2, c2, A3, c3, hB1, hG, hitem⟩ := hAt.item hil
    subst hB1
    have hlen := hAt.names.2.2
    have HGO := hid hgo
    have HMI := hid (may_item HMU.out hil)
    have i0 := hitem.c0
    have i1 := hitem.c1
    have i2 := hitem.c2
    have i3 := hitem.c3
    have i4 := hitem.c4
    have hGw := hS G hG
    have hnG : G ≠ w.heap.size := by omega
    have HIV := hid hitem.v
    have vf := fun i => HXU.out.free i
    have v0 := HXU.out.c0
    have v1 := HXU.out.c1
    have v2 := HXU.out.c2
    have v3 := HXU.out.c3
    have v4 := HXU.out.c4
    clear hAt hitem hgo hPn
    have hr5 := five_rest w5 w.heap.size 0 (.int .i64 u.items[i].kind) (.int .i64 u.items[i].num) (.string u.items[i].text) (.slice A2 u.items[i].items.length c2) (.slice A3 u.items[i].names.length c3)
    have hk5 := five_other w5 w.heap.size 0 (.int .i64 u.items[i].kind) (.int .i64 u.items[i].num) (.string u.items[i].text) (.slice A2 u.items[i].items.length c2) (.slice A3 u.items[i].names.length c3)
    have hz5 := five_size w5 w.heap.size 0 (.int .i64 u.items[i].kind) (.int .i64 u.items[i].num) (.string u.items[i].text) (.slice A2 u.items[i].items.length c2) (.slice A3 u.items[i].names.length c3)
    have HB6 : Hid (Below w.heap.size w (five w5 w.heap.size 0 (.int .i64 u.items[i].kind) (.int .i64 u.items[i].num) (.string u.items[i].text) (.slice A2 u.items[i].items.length c2) (.slice A3 u.items[i].names.length c3))) := hid
     ⟨hr5.1.trans HBU.out.os, hr5.2.1.trans HBU.out.tape, hr5.2.2.trans HBU.out.output, by rw [hz5]; exact HBU.out.size, fun b hb => (hk5 b (by omega)).trans (HBU.out.block b hb)⟩
    have HR6 : Hid (Box (five w5 w.heap.size 0 (.int .i64 u.items[i].kind) (.int .i64 u.items[i].num) (.string u.items[i].text) (.slice A2 u.items[i].items.length c2) (.slice A3 u.items[i].names.length c3)) (w.heap.size + 1) (.int .i64 0) (.int .i64 0) (.string ⟨#[]⟩) (.slice none 0 0) (.slice none 0 0)) := hid ((hk5 _ (by omega)).trans HRU.out)
    have HX6 := hid (five_box (c0 := .int .i64 u.items[i].kind) (c1 := .int .i64 u.items[i].num) (c2 := .string u.items[i].text) (c3 := .slice A2 u.items[i].items.length c2) (c4 := .slice A3 u.items[i].names.length c3) HXU.out)
    have HV6 := hid (HIV.out.keep (w' := w) fun b hb => (HBU.out.block b (hS b hb)).symm)
    clear hr5 hk5 hz5
    go_wp2_with fail
    go_roundw
    case rel => exact ⟨j + 1, u.items[i], A2, c2, A3, c3, by go_num, by omega, HGO, HMI, HX6, HV6, HB6, HR6⟩
    case measure => simp [intOf]; omega
  ·have hlt1 : ¬ (j : Int) < (p.length : Int) := by omega
   have hlt2 : decide ((j : Int) < (p.length : Int)) = false := decide_eq_false hlt1
   have hd : p.drop j = [] := List.drop_of_length_le (by omega)
   have hgo : getT t p = some u := by rw [HG.out, hd]; rfl
   have HGO := hid hgo
   have rf := fun i => HRU.out.free i
   have r0 := HRU.out.c0
   have r1 := HRU.out.c1
   have r2 := HRU.out.c2
   have r3 := HRU.out.c3
   have r4 := HRU.out.c4
   have v0 := HXU.out.c0
   have v1 := HXU.out.c1
   have v2 := HXU.out.c2
   have v3 := HXU.out.c3
   have v4 := HXU.out.c4
   clear hd hgo
   go_wp2_with fail
   refine bodyPost_ret (results_cell_two rfl _ _ (w.heap.size + 1) 25 _ (0, 0) rfl (five_box HRU.out) (by kernel_rfl)) rfl ?_
   exact get_end hS HBU.out HVU.out (by unfold gotT; rw [HGO.out]; rfl) (by unfold okT; rw [HGO.out]; rfl)
theorem conf_take (ps : List (List ByteArray)) {i : Nat} (hi : i < ps.length) : confL [] (ps.take (i + 1)) = (confL [] (ps.take i) || (ps.take i).any fun q => meetP ps[i] q) := by
 rw [List.take_add_one, List.getElem?_eq_getElem hi]
 have h := confL_snoc (ps.take i) [] ps[i]
 rw [List.nil_append] at h
 exact h
theorem conf_true {ps : List (List ByteArray)} {i k : Nat} (hi : i < ps.length) (hk : k < i) (h : meetP ps[i] ps[k] = true) : confL [] ps = true := by
 have h1 : confL [] (ps.take (i + 1)) = true := by
  rw [conf_take ps hi, List.any_eq_true.2 ⟨ps[k], List.mem_take_iff_getElem.2 ⟨k, by omega, rfl⟩, h⟩, Bool.or_true]
 have h2 := confL_pre (ps.take (i + 1)) (ps.drop (i + 1)) [] h1
 rwa [List.take_append_drop] at h2
theorem conf_false {ps : List (List ByteArray)} (h : ∀ i (hi : i < ps.length) k (hk : k < i), meetP ps[i] ps[k] = false) : confL [] ps = false := by
 have hn : ∀ n, n ≤ ps.length → confL [] (ps.take n) = false := by
  intro n
  induction n with
  | zero => intro _; simp [confL]
  | succ n ih =>
   intro hn
   rw [conf_take ps (by omega), ih (by omega), Bool.false_or]
   refine List.any_eq_false.2 fun x hx => ?_
   obtain ⟨k, hk, rfl⟩ := List.mem_take_iff_getElem.1 hx
   rw [h n (by omega) k (by omega)]
   simp
 have h2 := hn ps.length (Nat.le_refl _)
 rwa [List.take_length] at h2
theorem mayP_iff (ns : List ByteArray) : mayP ns = true ↔ 1 ≤ ns.length ∧ ns.length ≤ 8 ∧ ∀ s ∈ ns, nameB s.data.toList = true := by
 unfold mayP
 simp only [Bool.and_eq_true, decide_eq_true_eq, List.all_eq_true]
 exact ⟨fun h => ⟨h.1.1, h.1.2, h.2⟩, fun h => ⟨⟨h.1, h.2.1⟩, h.2.2⟩⟩
theorem Tryz.infoStrP : (Tryz.prog.info? 9).map (fun i => (i.zero, i.size, i.bytes)) = some (some (.string ByteArray.empty), 1, 16) := by kernel_rfl
def OwnS (w : World) (B : Nat) (v : Value) (ns : List ByteArray) : Prop := w.ownsRow B 9 1 v ns.length (ns.map Value.string)
theorem OwnS.nil (w : World) (B : Nat) : OwnS w B (.slice none 0 0) [] := World.ownsRow_nil _ _ _ _
theorem OwnS.opens {w : World} {B : Nat} {v : Value} {ns : List ByteArray} (h : OwnS w B v ns) (hs : ∀ s ∈ ns, s.size ≤ 140737488351232) :
  ∃ A c, v = .slice A ns.length c ∧ ns.length ≤ c ∧ StrsAt w (fun b => B ≤ b ∧ b < w.heap.size) A ns := by
 have hlt := World.ownsRow.lt h
 have hcl := fun g hg => World.ownsRow.cells (g := g) h hg
 rcases h.2 with ⟨rfl, h0⟩ | ⟨g, cap, cur, rfl, hB, hh, hc, -, -, -⟩
 ·obtain rfl := List.eq_nil_of_length_eq_zero h0
  exact ⟨none, 0, rfl, Nat.le_refl _, StrsAt.nil⟩
 ·refine ⟨some ⟨g, 0, none⟩, cap, rfl, hc, fun hp => ⟨g, 0, rfl, hlt g rfl, fun i hi => ⟨?_, hs _ (List.getElem_mem hi)⟩⟩⟩
  have h1 := hcl g rfl i (.string ns[i]) (by simp [hi])
  rw [add_at] at h1
  exact h1
theorem wpList_append_strs {w : World} {ops : Array Oper} {rest : List Oper} {o : Oper} {a : Act} {Q : Exit → Act → World → Prop} (hgd : o.guard = none) (s x : Operand)
  (ho : o.op = .call { callee := .builtin .append, args := #[s, x], argTypes := #[23, 23] }) (B : Nat) (v : Value) (ns : List ByteArray) (hs : a.eval s = v) (hown : OwnS w B v ns)
  (A : Option Addr) (c : Nat) (ms : List ByteArray) (S : Nat → Prop) (hx : a.eval x = .slice A ms.length c) (hA : A = none → c = 0) (hst : StrsAt w S A ms) (hB : B ≤ w.heap.size) (hl : ns.length + ms.length ≤ 8796093021952)
  (K : ∀ v' w', OwnS w' B v' (ns ++ ms) → w.grownBy w' v.ownBlock → wpList Tryz.prog ops Q rest (a.put o.dst v') w') : wpList Tryz.prog ops Q (o :: rest) a w := by
 obtain ⟨i0, hi, hz0, hz1, hz2⟩ := info_parts Tryz.infoStrP
 cases A with
 | none =>
  obtain rfl : ms = [] := by
   match ms, hst with
   | [], _ => rfl
   | m :: r, hst => obtain ⟨_, _, h, _⟩ := hst (by simp); cases h
  obtain rfl := hA rfl
  refine wpList_append_own_none hgd s x 23 ho B 9 i0 1 Tryz.underlying23 hi v ns.length (ns.map Value.string) hs hown hx ?_
  exact K v w (by rw [List.append_nil]; exact hown) ⟨rfl, rfl, rfl, Nat.le_refl _, fun _ _ _ => rfl⟩
 | some ad =>
  refine wpList_append_own _ hgd s x 23 ho B 9 i0 (.string ByteArray.empty) 1 16 Tryz.underlying23 hi hz0 hz1 hz2 rfl (by decide) v ns.length (ns.map Value.string) hs hown ad ms.length c (ms.map Value.string) hx (by simp) ?_ ?_ (by unfold maxLen; omega) (by omega) hB ?_
  ·intro j u hj
   have hjl : j < ms.length := by have := (List.getElem?_eq_some_iff.1 hj).1; simpa using this
   obtain ⟨b, off, hAd, -, hc⟩ := hst (by omega)
   injection hAd with hAd
   subst hAd
   rw [add_at, (hc j hjl).1]
   simpa [List.getElem?_map, List.getElem?_eq_getElem hjl] using hj
  ·intro u hu; obtain ⟨_, _, rfl⟩ := List.mem_map.1 hu; rfl
  ·intro v' w' h1 h2 _
   exact K v' w' (by unfold OwnS; rw [List.length_append, List.map_append]; exact h1) h2
theorem strs_ne_nil (a : Addr) (n c : Nat) (w : World) : (binOp .eql 23 (.slice (some a) n c) (.slice none 0 0)).run Tryz.prog w = .ok (.bool false) w := by kernel_rfl
end Go.Proofs.YtpcdngpppjdgcaaGreat
