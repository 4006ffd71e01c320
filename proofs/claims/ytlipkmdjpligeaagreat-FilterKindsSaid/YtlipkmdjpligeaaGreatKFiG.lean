/- What is too large to be looked at; how many entries match a filter, by the program. -/
import Derived.Test.YtlipkmdjpligeaaGreatKEnJ
import Derived.Test.YtlipkmdjpligeaaGreatKEnM
import Derived.Test.YtlipkmdjpligeaaGreatKPathA
import Derived.Test.YtlipkmdjpligeaaGreatKTrD
import Derived.Test.YtlipkmdjpligeaaGreatKIdx
import Derived.Test.YtlipkmdjpligeaaGreatKOpenDl
import Derived.Test.YtlipkmdjpligeaaGreatKRefZ
import Derived.Test.YtlipkmdjpligeaaGreatKEnA
import Derived.Test.YtlipkmdjpligeaaGreatKDlS
import Derived.Test.YtlipkmdjpligeaaGreatKValF
import Derived.Test.YtlipkmdjpligeaaGreatKVr
import Derived.Test.YtlipkmdjpligeaaGreatKOpenS
import Derived.Test.YtlipkmdjpligeaaGreatKMath
import Derived.Deep.MidRow
import Derived.Lib.Join
import Derived.Outline
import Derived.StillTailTactics
import Derived.Lib.DecodeN
import Derived.Laws.AppendOwnNone
import Derived.Lib.AppendZerosOnto
import Derived.Lib.AppendZeros
import Derived.Lib.SliceRun
import Derived.Lib.OthersKept
import Derived.Laws.OwnMore
import Derived.Laws.AppendOwn
import Derived.Maps.AppendAt
namespace Go.Proofs.YtlipkmdjpligeaaGreat
open Lib (hid)
set_option linter.unusedVariables false
set_option linter.unusedSimpArgs false
open Go.RowKit
set_option maxRecDepth 100000
def largeF (f : FilT) (e : EntT) : Bool := decide (50 < f.path.length) || largeE e
set_option maxHeartbeats 8000000 in
theorem large19_any (S : Nat → Prop) (f : FilT) (PA : Option Addr) (pc : Nat) (e : EntT) (cs : Array Value) (w : World) (hS : ∀ b, S b → b < w.heap.size) (h : EntL w S e cs) :
  Calls Tryz.prog 11 #[.agg #[.string f.coll, .slice PA f.path.length pc, .int .i64 f.kinds], .agg cs] w fun r w' => r = .returned (.bool (largeF f e)) ∧ Below w.heap.size w w' := by
 obtain ⟨IA, ic, IA', ic', DA, dc, DA', dc', LA, lc, rfl, hat⟩ := h.at
 obtain ⟨r, hr⟩ : ∃ r, r = largeF f e := ⟨_, rfl⟩
 rw [← hr]
 have HR : Hid (r = (decide (50 < f.path.length) || largeE e)) := hid hr
 obtain ⟨n, hn⟩ : ∃ n, n = f.path.length := ⟨_, rfl⟩
 rw [← hn] at HR ⊢
 obtain ⟨w2, hw2⟩ : ∃ W, W = (w.alloc (.cells #[.string f.coll, .slice PA n pc, .int .i64 f.kinds] 24)).alloc (.cells #[.int .i64 e.term, .int .i64 e.kind, .string e.coll, .string e.to, .int .i64 e.id.kind, .int .i64 e.id.num, .string e.id.text, .slice IA e.id.items.length ic, .slice IA' e.id.names.length ic', .int .i64 e.doc.kind, .int .i64 e.doc.num, .string e.doc.text, .slice DA e.doc.items.length dc, .slice DA' e.doc.names.length dc', .slice LA e.dels.length lc, .int .i64 e.session, .int .i64 e.number] 30) := ⟨_, rfl⟩
 have hz1 : (w.alloc (.cells #[.string f.coll, .slice PA n pc, .int .i64 f.kinds] 24)).heap.size = w.heap.size + 1 := by simp
 have hb2 : Below w.heap.size w w2 := by rw [hw2]; exact (below_box _).alloc (by omega) _
 have HK2 : Hid (EBox ((w.alloc (.cells #[.string f.coll, .slice PA n pc, .int .i64 f.kinds] 24)).alloc (.cells #[.int .i64 e.term, .int .i64 e.kind, .string e.coll, .string e.to, .int .i64 e.id.kind, .int .i64 e.id.num, .string e.id.text, .slice IA e.id.items.length ic, .slice IA' e.id.names.length ic', .int .i64 e.doc.kind, .int .i64 e.doc.num, .string e.doc.text, .slice DA e.doc.items.length dc, .slice DA' e.doc.names.length dc', .slice LA e.dels.length lc, .int .i64 e.session, .int .i64 e.number] 30)) (w.heap.size + 1) e IA ic IA' ic' DA dc DA' dc' LA lc) := hid (by unfold EBox; rw [← hz1]; exact heap_alloc_new _ _)
 have HL := hid (r13large_any S e _ w2 (fun b hb => Nat.lt_of_lt_of_le (hS b hb) hb2.size) (hat.below hS hb2).l)
 have HB2 := hid hb2
 clear hr hn hz1 hb2 h hat hS
 go_enter Tryz.func11, Tryz.ntmps11
 by_cases hp : 50 < n
 ·have d1 : decide ((n : Int) > 50) = true := decide_eq_true (by omega)
  have HE : Hid (r = true) := hid (by rw [HR.out, decide_eq_true hp]; rfl)
  rw [hw2] at HB2
  go_wp2_with fail
  go_ret
  exact ⟨by rw [HE.out] <;> rfl, HB2.out⟩
 have d1 : decide ((n : Int) > 50) = false := decide_eq_false (by omega)
 have HE : Hid (r = largeE e) := hid (by rw [HR.out, decide_eq_false hp]; rfl)
 go_wp2_with (refine wpList_load_ent (by rfl) _ rfl (w.heap.size + 1) rfl _ _ HK2.out rfl ?_; simp only [acR, Act.put])
 rw [← hw2]
 clear hw2
 refine HL.out.mono ?_
 rintro q w3 ⟨rfl, hb⟩
 have HB3 := hid (HB2.out.trans (hb.mono HB2.out.size))
 clear hb HL
 rw [← HE.out]
 go_wp2_with fail
 go_ret
 exact ⟨rfl, HB3.out⟩
theorem large_part {f : FilT} {e : EntT} (h : largeF f e = false) : largeE e = false := by
 unfold largeF at h
 rw [Bool.or_eq_false_iff] at h
 exact h.2
theorem fil_up {w w' : World} {f : FilT} {PA : Option Addr} {pc : Nat} (h : FilAt w (fun b => b < w.heap.size) f PA pc) (hb : Below w.heap.size w w') : FilAt w' (fun b => b < w'.heap.size) f PA pc :=
 (h.below (fun _ hb' => hb') hb).imp fun _ hb' => Nat.lt_of_lt_of_le hb' hb.size
theorem count_cons (f : FilT) (l : List EntT) (j : Nat) (h : j < l.length) : countFl f (l.drop j) = (if matchFl f l[j] then 1 else 0) + if endsFl f l[j] then 0 else countFl f (l.drop (j + 1)) := by
 rw [List.drop_eq_getElem_cons h]
 rfl
theorem count_end (f : FilT) (l : List EntT) (j : Nat) (h : ¬ j < l.length) : countFl f (l.drop j) = 0 := by
 rw [List.drop_eq_nil_of_le (by omega)]
 rfl
set_option maxHeartbeats 16000000 in
theorem fcount_any (S : Nat → Prop) (f : FilT) (PA : Option Addr) (pc : Nat) (A : Option Addr) (c : Nat) (l : List EntT) (w : World) (hS : ∀ b, S b → b < w.heap.size) (hf : FilAt w S f PA pc) (h : EntsL w S A l) (hl : l.length ≤ 567493904640) (hd : ∀ e ∈ l, SmE e) :
  Calls Tryz.prog 19 #[.agg #[.string f.coll, .slice PA f.path.length pc, .int .i64 f.kinds], .slice A l.length c] w fun r w' => r = .returned (.int .i64 (countFl f l : Nat)) ∧ Below w.heap.size w w' := by
 obtain ⟨w1, hw1⟩ : ∃ W, W = w.alloc (.cells #[.string f.coll, .slice PA f.path.length pc, .int .i64 f.kinds] 24) := ⟨_, rfl⟩
 have hb1 : Below w.heap.size w w1 := by rw [hw1]; exact below_box _
 have HF1 : Hid (FBox w1 w.heap.size f PA pc) := hid (by rw [hw1]; exact heap_alloc_new w _)
 have HB1 := hid hb1
 have HS := hid hS
 have HFA := hid hf
 have HA := hid h
 have HD := hid hd
 obtain ⟨r, hr⟩ : ∃ r, r = countFl f l := ⟨_, rfl⟩
 rw [← hr]
 have HR : Hid (r = countFl f l) := hid hr
 obtain ⟨n, hn⟩ : ∃ n, n = l.length := ⟨_, rfl⟩
 have HN := hid hn
 rw [← hn] at hl ⊢
 clear hr hn hb1 hS hf h hd
 go_enter Tryz.func19, Tryz.ntmps19
 go_wp2_with fail
 rw [← hw1]
 clear hw1
 go_loopw [5, 10] (fun k i wr => ∃ j m : Nat, i = .int .i64 j ∧ k = .int .i64 m ∧ j ≤ n ∧ m ≤ j ∧ Hid (countFl f l = m + countFl f (l.drop j)) ∧ Hid (Below w.heap.size w wr) ∧ Hid (FBox wr w.heap.size f PA pc)) (fun _ i _ => n - (intOf i).toNat)
 case atStart => exact ⟨0, 0, rfl, rfl, by omega, by omega, hid (by simp), HB1, HF1⟩
 case round =>
  clear HB1 HF1
  obtain ⟨j, m, rfl, rfl, hj, hm, HC, HB, HF⟩ := hrel
  by_cases hlt : j < n
  rotate_left
  ·have d1 : decide ((j : Int) < (n : Int)) = false := decide_eq_false (by omega)
   have HE : Hid (r = m) := hid (by rw [HR.out, HC.out, count_end f l j (by have := HN.out; omega)]; omega)
   go_wp2_with fail
   go_ret
   exact ⟨by rw [HE.out] <;> rfl, HB.out⟩
  have d1 : decide ((j : Int) < (n : Int)) = true := decide_eq_true (by omega)
  have hjl : j < l.length := by have := HN.out; omega
  obtain ⟨b, off, cs, hA, hb, hrg, hcz, he⟩ := EntsL.at (RowsG.keep lrelE HA.out fun b hb => HB.out.block b (HS.out b hb)) j hjl
  obtain ⟨IA, ic, IA', ic', DA, dc, DA', dc', LA, lc, hcs, hat⟩ := he.at
  have hcs' : cs = [.int .i64 l[j].term, .int .i64 l[j].kind, .string l[j].coll, .string l[j].to, .int .i64 l[j].id.kind, .int .i64 l[j].id.num, .string l[j].id.text, .slice IA l[j].id.items.length ic, .slice IA' l[j].id.names.length ic', .int .i64 l[j].doc.kind, .int .i64 l[j].doc.num, .string l[j].doc.text, .slice DA l[j].doc.items.length dc, .slice DA' l[j].doc.names.length dc', .slice LA l[j].dels.length lc, .int .i64 l[j].session, .int .i64 l[j].number] := by have := congrArg Array.toList hcs; simpa using this
  subst hcs'
  have HCC := hid (count_cons f l j hjl)
  have HDJ := hid (HD.out l[j] (List.getElem_mem hjl))
  obtain ⟨e, heq⟩ : ∃ e, e = l[j] := ⟨_, rfl⟩
  rw [← heq] at HCC HDJ hat hrg
  clear heq hcs he hcz
  have HRG := hid hrg
  obtain ⟨w2, hw2⟩ : ∃ W, W = wr.alloc (.cells #[.int .i64 e.term, .int .i64 e.kind, .string e.coll, .string e.to, .int .i64 e.id.kind, .int .i64 e.id.num, .string e.id.text, .slice IA e.id.items.length ic, .slice IA' e.id.names.length ic', .int .i64 e.doc.kind, .int .i64 e.doc.num, .string e.doc.text, .slice DA e.doc.items.length dc, .slice DA' e.doc.names.length dc', .slice LA e.dels.length lc, .int .i64 e.session, .int .i64 e.number] 30) := ⟨_, rfl⟩
  have hb2 : Below wr.heap.size wr w2 := by rw [hw2]; exact below_box _
  have HK2 : Hid (EBox (wr.alloc (.cells #[.int .i64 e.term, .int .i64 e.kind, .string e.coll, .string e.to, .int .i64 e.id.kind, .int .i64 e.id.num, .string e.id.text, .slice IA e.id.items.length ic, .slice IA' e.id.names.length ic', .int .i64 e.doc.kind, .int .i64 e.doc.num, .string e.doc.text, .slice DA e.doc.items.length dc, .slice DA' e.doc.names.length dc', .slice LA e.dels.length lc, .int .i64 e.session, .int .i64 e.number] 30)) wr.heap.size e IA ic IA' ic' DA dc DA' dc' LA lc) := hid (heap_alloc_new wr _)
  have HK2' : Hid (EBox w2 wr.heap.size e IA ic IA' ic' DA dc DA' dc' LA lc) := hid (by rw [hw2]; exact heap_alloc_new wr _)
  have HB2 := hid (HB.out.trans (hb2.mono HB.out.size))
  have HF2 := hid (HF.out.below hb2)
  have HAT := hid (hat.keep fun b hb => hb2.block b (Nat.lt_of_lt_of_le (HS.out b hb) HB.out.size))
  have z0 := (HF.out.below (w' := wr.alloc (.cells #[.int .i64 e.term, .int .i64 e.kind, .string e.coll, .string e.to, .int .i64 e.id.kind, .int .i64 e.id.num, .string e.id.text, .slice IA e.id.items.length ic, .slice IA' e.id.names.length ic', .int .i64 e.doc.kind, .int .i64 e.doc.num, .string e.doc.text, .slice DA e.doc.items.length dc, .slice DA' e.doc.names.length dc', .slice LA e.dels.length lc, .int .i64 e.session, .int .i64 e.number] 30)) (below_box _)).g0
  have z1 := (HF.out.below (w' := wr.alloc (.cells #[.int .i64 e.term, .int .i64 e.kind, .string e.coll, .string e.to, .int .i64 e.id.kind, .int .i64 e.id.num, .string e.id.text, .slice IA e.id.items.length ic, .slice IA' e.id.names.length ic', .int .i64 e.doc.kind, .int .i64 e.doc.num, .string e.doc.text, .slice DA e.doc.items.length dc, .slice DA' e.doc.names.length dc', .slice LA e.dels.length lc, .int .i64 e.session, .int .i64 e.number] 30)) (below_box _)).g1
  have z2 := (HF.out.below (w' := wr.alloc (.cells #[.int .i64 e.term, .int .i64 e.kind, .string e.coll, .string e.to, .int .i64 e.id.kind, .int .i64 e.id.num, .string e.id.text, .slice IA e.id.items.length ic, .slice IA' e.id.names.length ic', .int .i64 e.doc.kind, .int .i64 e.doc.num, .string e.doc.text, .slice DA e.doc.items.length dc, .slice DA' e.doc.names.length dc', .slice LA e.dels.length lc, .int .i64 e.session, .int .i64 e.number] 30)) (below_box _)).g2
  obtain ⟨b', off', rfl, rfl⟩ : ∃ b' off', b' = b ∧ off' = off := ⟨_, _, rfl, rfl⟩
  clear hat hb2 hrg hb
  have HA2 := hid hA
  subst hA
  go_wp2_with (first | (refine wpList_load_rng (by rfl) 30 _ rfl b' (off' + j * 17) rfl _ _ HRG.out Tryz.underlying30 rfl (by kernel_rfl) ?_; simp only [acR, Act.put]) | (refine wpList_load_ent (by rfl) _ rfl wr.heap.size rfl _ _ HK2.out rfl ?_; simp only [acR, Act.put]))
  rw [← hw2]
  clear hw2 z0 z1 z2 HK2
  refine (fmatch_any S f PA pc e _ w2 (fun b hb => Nat.lt_of_lt_of_le (HS.out b hb) HB2.out.size) (HFA.out.below HS.out HB2.out) HAT.out.l HDJ.out).mono ?_
  rintro q w3 ⟨rfl, hb⟩
  have HB3 := hid (HB2.out.trans (hb.mono HB2.out.size))
  have HF3 := hid (HF2.out.below hb)
  have HK3 := hid (HK2'.out.below hb)
  have HAT3 := hid (HAT.out.keep fun b hb' => hb.block b (Nat.lt_of_lt_of_le (HS.out b hb') HB2.out.size))
  clear hb HB2 HF2 HK2' HAT HF HB HRG
  have z0 := HF3.out.g0
  have z1 := HF3.out.g1
  have z2 := HF3.out.g2
  have hn62 : n ≤ 567493904640 := hl
  cases hmt : matchFl f e
  all_goals (
   have HMT := hid hmt
   clear hmt
   go_wp2_with (refine wpList_load_ent (by rfl) _ rfl wr.heap.size rfl _ _ HK3.out rfl ?_; simp only [acR, Act.put])
   refine (fends_any S f PA pc e _ w3 (fun b hb => Nat.lt_of_lt_of_le (HS.out b hb) HB3.out.size) (HFA.out.below HS.out HB3.out) HAT3.out.l HDJ.out).mono ?_
   rintro q w4 ⟨rfl, hb⟩
   have HB4 := hid (HB3.out.trans (hb.mono HB3.out.size))
   have HF4 := hid (HF3.out.below hb)
   clear hb HK3 HAT3 z0 z1 z2
   cases hen : endsFl f e)
  ·have HC4 : Hid (countFl f l = m + countFl f (l.drop (j + 1))) := hid (by rw [HC.out, HCC.out, HMT.out, hen]; simp)
   clear hen
   go_wp2_with fail
   go_roundw
   case rel => exact ⟨j + 1, m, by go_num, rfl, by omega, by omega, HC4, HB4, HF4⟩
   case measure => simp [intOf]; omega
  ·have HE : Hid (r = m) := hid (by rw [HR.out, HC.out, HCC.out, HMT.out, hen]; simp)
   clear hen
   go_wp2_with fail
   go_ret
   exact ⟨by rw [HE.out] <;> rfl, HB4.out⟩
  ·have HC4 : Hid (countFl f l = (m + 1 : Nat) + countFl f (l.drop (j + 1))) := hid (by rw [HC.out, HCC.out, HMT.out, hen]; simp; omega)
   clear hen
   go_wp2_with fail
   go_roundw
   case rel => exact ⟨j + 1, m + 1, by go_num, by go_num, by omega, by omega, HC4, HB4, HF4⟩
   case measure => simp [intOf]; omega
  ·have HE : Hid (r = m + 1) := hid (by rw [HR.out, HC.out, HCC.out, HMT.out, hen]; simp)
   clear hen
   go_wp2_with fail
   go_ret
   exact ⟨by rw [HE.out] <;> rfl, HB4.out⟩
def IntL (_ : World) (_ : Nat → Prop) (x : Int) (c : Array Value) : Prop := c = #[.int .i64 x] ∧ Rng x
theorem lrelI : LRel IntL 1 where
 size := fun h => by rw [h.1]; rfl
 keep := fun h _ => h
 imp := fun h _ => h
abbrev IntsL (w : World) (S : Nat → Prop) (A : Option Addr) (l : List Int) : Prop := RowsG IntL 1 w S A l
theorem IntsL.at {w : World} {S : Nat → Prop} {A : Option Addr} {l : List Int} (h : IntsL w S A l) (k : Nat) (hk : k < l.length) : ∃ b off, A = some ⟨b, off, none⟩ ∧ S b ∧ w.cell? ⟨b, off + k, none⟩ = some (.int .i64 l[k]) ∧ Rng l[k] := by
 obtain ⟨b, off, hA, hb, hc⟩ := h (by omega)
 obtain ⟨cs, h1, rfl, h2⟩ := hc k hk
 have := h1 0 _ rfl
 exact ⟨b, off, hA, hb, by simpa using this, h2⟩
def wantB (b2 b3 b4 b5 b6 b7 : Bool) : Nat := (if b2 then 4 else 0) + (if b3 then 8 else 0) + (if b4 then 16 else 0) + (if b5 then 32 else 0) + (if b6 then 64 else 0) + (if b7 then 128 else 0)
def wantK (l : List Int) : Nat := wantB (decide (2 ∈ l)) (decide (3 ∈ l)) (decide (4 ∈ l)) (decide (5 ∈ l)) (decide (6 ∈ l)) (decide (7 ∈ l))
theorem or_step : ∀ b2 b3 b4 b5 b6 b7 : Bool, bits .or .i64 (wantB b2 b3 b4 b5 b6 b7 : Nat) 4 = (wantB true b3 b4 b5 b6 b7 : Nat) ∧ bits .or .i64 (wantB b2 b3 b4 b5 b6 b7 : Nat) 8 = (wantB b2 true b4 b5 b6 b7 : Nat) ∧ bits .or .i64 (wantB b2 b3 b4 b5 b6 b7 : Nat) 16 = (wantB b2 b3 true b5 b6 b7 : Nat)
  ∧ bits .or .i64 (wantB b2 b3 b4 b5 b6 b7 : Nat) 32 = (wantB b2 b3 b4 true b6 b7 : Nat) ∧ bits .or .i64 (wantB b2 b3 b4 b5 b6 b7 : Nat) 64 = (wantB b2 b3 b4 b5 true b7 : Nat) ∧ bits .or .i64 (wantB b2 b3 b4 b5 b6 b7 : Nat) 128 = (wantB b2 b3 b4 b5 b6 true : Nat) := by decide +kernel
theorem wantB_lt : ∀ b2 b3 b4 b5 b6 b7 : Bool, wantB b2 b3 b4 b5 b6 b7 < 256 ∧ wantB b2 b3 b4 b5 b6 b7 % 4 = 0 := by decide +kernel
theorem wantB_bit : ∀ b2 b3 b4 b5 b6 b7 : Bool, decide (wantB b2 b3 b4 b5 b6 b7 / 2 ^ 2 % 2 = 1) = b2 ∧ decide (wantB b2 b3 b4 b5 b6 b7 / 2 ^ 3 % 2 = 1) = b3 ∧ decide (wantB b2 b3 b4 b5 b6 b7 / 2 ^ 4 % 2 = 1) = b4 ∧ decide (wantB b2 b3 b4 b5 b6 b7 / 2 ^ 5 % 2 = 1) = b5 ∧ decide (wantB b2 b3 b4 b5 b6 b7 / 2 ^ 6 % 2 = 1) = b6 ∧ decide (wantB b2 b3 b4 b5 b6 b7 / 2 ^ 7 % 2 = 1) = b7 := by decide +kernel
theorem wantK_lt (l : List Int) : wantK l < 256 := (wantB_lt _ _ _ _ _ _).1
theorem mem_snoc (l : List Int) (x k : Int) : decide (k ∈ l ++ [x]) = (decide (k ∈ l) || decide (k = x)) := by
 rw [Bool.eq_iff_iff]; simp
theorem wantK_snoc (l : List Int) (x : Int) : wantK (l ++ [x]) = wantB (decide (2 ∈ l) || decide (2 = x)) (decide (3 ∈ l) || decide (3 = x)) (decide (4 ∈ l) || decide (4 = x)) (decide (5 ∈ l) || decide (5 = x)) (decide (6 ∈ l) || decide (6 = x)) (decide (7 ∈ l) || decide (7 = x)) := by
 unfold wantK
 simp only [mem_snoc]
theorem wantK_other (l : List Int) (x : Int) (h : ¬ (2 ≤ x ∧ x ≤ 7)) : wantK (l ++ [x]) = wantK l := by
 rw [wantK_snoc, decide_eq_false (p := 2 = x) (by omega), decide_eq_false (p := 3 = x) (by omega), decide_eq_false (p := 4 = x) (by omega), decide_eq_false (p := 5 = x) (by omega), decide_eq_false (p := 6 = x) (by omega), decide_eq_false (p := 7 = x) (by omega)]
 simp only [Bool.or_false]
 rfl
theorem wantK_or (l : List Int) : bits .or .i64 (wantK l : Nat) 4 = (wantK (l ++ [2]) : Nat) ∧ bits .or .i64 (wantK l : Nat) 8 = (wantK (l ++ [3]) : Nat) ∧ bits .or .i64 (wantK l : Nat) 16 = (wantK (l ++ [4]) : Nat) ∧ bits .or .i64 (wantK l : Nat) 32 = (wantK (l ++ [5]) : Nat) ∧ bits .or .i64 (wantK l : Nat) 64 = (wantK (l ++ [6]) : Nat) ∧ bits .or .i64 (wantK l : Nat) 128 = (wantK (l ++ [7]) : Nat) := by
 have h := or_step (decide (2 ∈ l)) (decide (3 ∈ l)) (decide (4 ∈ l)) (decide (5 ∈ l)) (decide (6 ∈ l)) (decide (7 ∈ l))
 simp only [wantK_snoc]
 simp only [show decide ((2 : Int) = 3) = false from rfl, show decide ((2 : Int) = 4) = false from rfl, show decide ((2 : Int) = 5) = false from rfl, show decide ((2 : Int) = 6) = false from rfl, show decide ((2 : Int) = 7) = false from rfl, show decide ((3 : Int) = 2) = false from rfl, show decide ((3 : Int) = 4) = false from rfl, show decide ((3 : Int) = 5) = false from rfl, show decide ((3 : Int) = 6) = false from rfl, show decide ((3 : Int) = 7) = false from rfl,
  show decide ((4 : Int) = 2) = false from rfl, show decide ((4 : Int) = 3) = false from rfl, show decide ((4 : Int) = 5) = false from rfl, show decide ((4 : Int) = 6) = false from rfl, show decide ((4 : Int) = 7) = false from rfl, show decide ((5 : Int) = 2) = false from rfl, show decide ((5 : Int) = 3) = false from rfl, show decide ((5 : Int) = 4) = false from rfl, show decide ((5 : Int) = 6) = false from rfl, show decide ((5 : Int) = 7) = false from rfl,
  show decide ((6 : Int) = 2) = false from rfl, show decide ((6 : Int) = 3) = false from rfl, show decide ((6 : Int) = 4) = false from rfl, show decide ((6 : Int) = 5) = false from rfl, show decide ((6 : Int) = 7) = false from rfl, show decide ((7 : Int) = 2) = false from rfl, show decide ((7 : Int) = 3) = false from rfl, show decide ((7 : Int) = 4) = false from rfl, show decide ((7 : Int) = 5) = false from rfl, show decide ((7 : Int) = 6) = false from rfl,
  show decide ((2 : Int) = 2) = true from rfl, show decide ((3 : Int) = 3) = true from rfl, show decide ((4 : Int) = 4) = true from rfl, show decide ((5 : Int) = 5) = true from rfl, show decide ((6 : Int) = 6) = true from rfl, show decide ((7 : Int) = 7) = true from rfl, decide_true, Bool.or_false, Bool.or_true]
 exact h
set_option maxHeartbeats 16000000 in
theorem fof_any (S : Nat → Prop) (A : Option Addr) (c : Nat) (l : List Int) (w : World) (h : IntsL w S A l) (hl : l.length ≤ 17592186044416) :
  Calls Tryz.prog 21 #[.slice A l.length c] w fun r w' => r = .returned (.int .i64 (wantK l : Nat)) ∧ w' = w := by
 have HA := hid h
 obtain ⟨n, hn⟩ : ∃ n, n = l.length := ⟨_, rfl⟩
 have HN := hid hn
 rw [← hn] at hl ⊢
 clear h hn
 go_enter Tryz.func21, Tryz.ntmps21
 go_wp2_with fail
 go_loopw [3, 8] (fun s i wr => ∃ j : Nat, i = .int .i64 j ∧ s = .int .i64 (wantK (l.take j) : Nat) ∧ j ≤ n ∧ wr = w) (fun _ i _ => n - (intOf i).toNat)
 case atStart => exact ⟨0, rfl, rfl, by omega, rfl⟩
 case round =>
  obtain ⟨j, rfl, rfl, hj, hw⟩ := hrel
  subst hw
  by_cases hlt : j < n
  rotate_left
  ·have d1 : decide ((j : Int) < (n : Int)) = false := decide_eq_false (by omega)
   have HE : Hid (l.take j = l) := hid (List.take_of_length_le (by have := HN.out; omega))
   go_wp2_with fail
   go_ret
   exact ⟨by rw [HE.out] <;> rfl, rfl⟩
  have d1 : decide ((j : Int) < (n : Int)) = true := decide_eq_true (by omega)
  have hjl : j < l.length := by have := HN.out; omega
  obtain ⟨b, off, hA, hb, hc, -⟩ := IntsL.at HA.out j hjl
  obtain ⟨b', off', rfl, rfl⟩ : ∃ b' off', b' = b ∧ off' = off := ⟨_, _, rfl, rfl⟩
  have HT : Hid (l.take (j + 1) = l.take j ++ [l[j]]) := hid (by rw [List.take_succ_eq_append_getElem hjl])
  obtain ⟨x, hx⟩ : ∃ x, x = l[j] := ⟨_, rfl⟩
  rw [← hx] at hc HT
  obtain ⟨p, hp⟩ : ∃ p, p = l.take j := ⟨_, rfl⟩
  rw [← hp] at HT ⊢
  have HW := hid (wantK_or p)
  have HL := hid (wantK_lt p)
  have HO := hid (wantK_other p x)
  subst hA
  clear hb hx hp
  by_cases hr : 2 ≤ x ∧ x ≤ 7
  rotate_left
  ·have HN2 : Hid (wantK (l.take (j + 1)) = wantK p) := hid (by rw [HT.out]; exact HO.out hr)
   clear HO HW
   by_cases h2 : 2 ≤ x
   ·have d2 : decide (x ≥ 2) = true := decide_eq_true h2
    have d3 : decide (x ≤ 7) = false := decide_eq_false (by omega)
    clear hr h2
    go_wp2_with fail
    go_roundw
    case rel => exact ⟨j + 1, by go_num, by rw [HN2.out], by omega, trivial⟩
    case measure => simp [intOf]; omega
   ·have d2 : decide (x ≥ 2) = false := decide_eq_false h2
    clear hr h2
    go_wp2_with fail
    go_roundw
    case rel => exact ⟨j + 1, by go_num, by rw [HN2.out], by omega, trivial⟩
    case measure => simp [intOf]; omega
  have hx : x = 2 ∨ x = 3 ∨ x = 4 ∨ x = 5 ∨ x = 6 ∨ x = 7 := by omega
  clear hr HO
  rcases hx with rfl | rfl | rfl | rfl | rfl | rfl
  ·have HS := hid (HW.out.1.trans (by rw [← HT.out]))
   go_wp2_with fail
   go_roundw
   case rel => exact ⟨j + 1, by go_num, by rw [HS.out], by omega, trivial⟩
   case measure => simp [intOf]; omega
  ·have HS := hid (HW.out.2.1.trans (by rw [← HT.out]))
   go_wp2_with fail
   go_roundw
   case rel => exact ⟨j + 1, by go_num, by rw [HS.out], by omega, trivial⟩
   case measure => simp [intOf]; omega
  ·have HS := hid (HW.out.2.2.1.trans (by rw [← HT.out]))
   go_wp2_with fail
   go_roundw
   case rel => exact ⟨j + 1, by go_num, by rw [HS.out], by omega, trivial⟩
   case measure => simp [intOf]; omega
  ·have HS := hid (HW.out.2.2.2.1.trans (by rw [← HT.out]))
   go_wp2_with fail
   go_roundw
   case rel => exact ⟨j + 1, by go_num, by rw [HS.out], by omega, trivial⟩
   case measure => simp [intOf]; omega
  ·have HS := hid (HW.out.2.2.2.2.1.trans (by rw [← HT.out]))
   go_wp2_with fail
   go_roundw
   case rel => exact ⟨j + 1, by go_num, by rw [HS.out], by omega, trivial⟩
   case measure => simp [intOf]; omega
  ·have HS := hid (HW.out.2.2.2.2.2.trans (by rw [← HT.out]))
   go_wp2_with fail
   go_roundw
   case rel => exact ⟨j + 1, by go_num, by rw [HS.out], by omega, trivial⟩
   case measure => simp [intOf]; omega
set_option maxHeartbeats 8000000 in
theorem r19may_any (S : Nat → Prop) (f : FilT) (PA : Option Addr) (pc : Nat) (w : World) (hS : ∀ b, S b → b < w.heap.size) (h : FilAt w S f PA pc) :
  Calls Tryz.prog 14 #[.agg #[.string f.coll, .slice PA f.path.length pc, .int .i64 f.kinds]] w fun e w' => e = .returned (.bool (mayFl f)) ∧ Below w.heap.size w w' := by
 have HNM := hid (fun W => r13name_any f.coll W h.cz)
 have HPM := hid (fun W (hb : Below w.heap.size w W) => rpmay_any PA pc f.path W S (h.below hS hb).path (by have := h.len; omega))
 obtain ⟨r, hr⟩ : ∃ r, r = mayFl f := ⟨_, rfl⟩
 have HR : Hid (r = ((decide (f.coll.size = 0) || nameC f.coll) && (decide (f.path.length = 0) || mayP f.path) && kindsOk f.kinds)) := hid hr
 rw [← hr]
 obtain ⟨n, hn⟩ : ∃ n, n = f.path.length := ⟨_, rfl⟩
 rw [← hn] at HR HPM ⊢
 have HB : Hid (Below w.heap.size w (w.alloc (.cells #[.string f.coll, .slice PA n pc, .int .i64 f.kinds] 24))) := hid (below_box _)
 have z0 : (w.alloc (.cells #[.string f.coll, .slice PA n pc, .int .i64 f.kinds] 24)).cell? ⟨w.heap.size, 0, none⟩ = some (.string f.coll) := Go.Joins.cell_of_block (heap_alloc_new w _) 0
 have z1 : (w.alloc (.cells #[.string f.coll, .slice PA n pc, .int .i64 f.kinds] 24)).cell? ⟨w.heap.size, 1, none⟩ = some (.slice PA n pc) := Go.Joins.cell_of_block (heap_alloc_new w _) 1
 have z2 : (w.alloc (.cells #[.string f.coll, .slice PA n pc, .int .i64 f.kinds] 24)).cell? ⟨w.heap.size, 2, none⟩ = some (.int .i64 f.kinds) := Go.Joins.cell_of_block (heap_alloc_new w _) 2
 have HT : Hid ((0 ≤ f.kinds → (Int.tmod f.kinds 4 == 0) = decide (f.kinds % 4 = 0))) := hid fun h => by
  rw [Int.tmod_eq_emod_of_nonneg h, Bool.eq_iff_iff, beq_iff_eq, decide_eq_true_eq]
 clear hr hn h hS
 obtain ⟨k, hk⟩ : ∃ k, k = f.kinds := ⟨_, rfl⟩
 rw [← hk] at HR HB z0 z1 z2 HT ⊢
 clear hk
 go_enter Tryz.func14, Tryz.ntmps14
 by_cases hc : f.coll.size = 0
 ·have e1 : f.coll.toList = [] := toList_nil.2 hc
  have HC := hid (decide_eq_true hc)
  clear hc
  by_cases hp : n = 0
  ·subst hp
   have HE : Hid (r = kindsOk k) := hid (by rw [HR.out, HC.out]; rfl)
   by_cases k0 : 0 ≤ k
   rotate_left
   ·have d3 : decide (k ≥ 0) = false := decide_eq_false k0
    have HF : Hid (r = false) := hid (by rw [HE.out]; unfold kindsOk; rw [decide_eq_false k0]; rfl)
    clear k0
    go_wp2_with fail
    go_ret
    exact ⟨by rw [HF.out] <;> rfl, HB.out⟩
   have d3 : decide (k ≥ 0) = true := decide_eq_true k0
   by_cases k1 : k < 256
   rotate_left
   ·have d4 : decide (k < 256) = false := decide_eq_false k1
    have HF : Hid (r = false) := hid (by rw [HE.out]; unfold kindsOk; rw [decide_eq_false k1]; simp)
    clear k1 k0
    go_wp2_with fail
    go_ret
    exact ⟨by rw [HF.out] <;> rfl, HB.out⟩
   have d4 : decide (k < 256) = true := decide_eq_true k1
   have HF : Hid (r = (Int.tmod k 4 == 0)) := hid (by rw [HE.out, HT.out k0]; unfold kindsOk; rw [decide_eq_true k0, decide_eq_true k1]; rfl)
   clear k0 k1
   go_wp2_with fail
   go_ret
   exact ⟨by rw [HF.out] <;> rfl, HB.out⟩
  ·obtain ⟨m, rfl⟩ : ∃ m, n = m + 1 := ⟨n - 1, by omega⟩
   have HP := hid (decide_eq_false hp)
   clear hp
   go_wp2_with fail
   refine (HPM.out _ HB.out).mono ?_
   rintro q u ⟨rfl, hw⟩
   subst hw
   cases hm : mayP f.path
   case false =>
    have HE : Hid (r = false) := hid (by rw [HR.out, hm, HP.out]; simp)
    go_wp2_with fail
    go_ret
    exact ⟨by rw [HE.out] <;> rfl, HB.out⟩
   have HE : Hid (r = kindsOk k) := hid (by rw [HR.out, HC.out, hm]; simp)
   clear hm
   by_cases k0 : 0 ≤ k
   rotate_left
   ·have d3 : decide (k ≥ 0) = false := decide_eq_false k0
    have HF : Hid (r = false) := hid (by rw [HE.out]; unfold kindsOk; rw [decide_eq_false k0]; rfl)
    clear k0
    go_wp2_with fail
    go_ret
    exact ⟨by rw [HF.out] <;> rfl, HB.out⟩
   have d3 : decide (k ≥ 0) = true := decide_eq_true k0
   by_cases k1 : k < 256
   rotate_left
   ·have d4 : decide (k < 256) = false := decide_eq_false k1
    have HF : Hid (r = false) := hid (by rw [HE.out]; unfold kindsOk; rw [decide_eq_false k1]; simp)
    clear k1 k0
    go_wp2_with fail
    go_ret
    exact ⟨by rw [HF.out] <;> rfl, HB.out⟩
   have d4 : decide (k < 256) = true := decide_eq_true k1
   have HF : Hid (r = (Int.tmod k 4 == 0)) := hid (by rw [HE.out, HT.out k0]; unfold kindsOk; rw [decide_eq_true k0, decide_eq_true k1]; rfl)
   clear k0 k1
   go_wp2_with fail
   go_ret
   exact ⟨by rw [HF.out] <;> rfl, HB.out⟩
 ·have e1 : f.coll.toList.isEmpty = false := by rw [← Bool.not_eq_true, isEmpty_size]; exact hc
  have e2 : ¬ f.coll.toList = [] := fun h => hc (toList_nil.1 h)
  have HC := hid (decide_eq_false hc)
  clear hc
  go_wp2_with fail
  refine (HNM.out _).mono ?_
  rintro q u ⟨rfl, hw⟩
  replace hw := hw.symm
  subst hw
  cases hm : nameC f.coll
  case false =>
   have HE : Hid (r = false) := hid (by rw [HR.out, hm, HC.out]; simp)
   go_wp2_with fail
   go_ret
   exact ⟨by rw [HE.out] <;> rfl, HB.out⟩
  have HM := hid hm
  clear hm
  by_cases hp : n = 0
  ·subst hp
   have HE : Hid (r = kindsOk k) := hid (by rw [HR.out, HM.out]; simp)
   by_cases k0 : 0 ≤ k
   rotate_left
   ·have d3 : decide (k ≥ 0) = false := decide_eq_false k0
    have HF : Hid (r = false) := hid (by rw [HE.out]; unfold kindsOk; rw [decide_eq_false k0]; rfl)
    clear k0
    go_wp2_with fail
    go_ret
    exact ⟨by rw [HF.out] <;> rfl, HB.out⟩
   have d3 : decide (k ≥ 0) = true := decide_eq_true k0
   by_cases k1 : k < 256
   rotate_left
   ·have d4 : decide (k < 256) = false := decide_eq_false k1
    have HF : Hid (r = false) := hid (by rw [HE.out]; unfold kindsOk; rw [decide_eq_false k1]; simp)
    clear k1 k0
    go_wp2_with fail
    go_ret
    exact ⟨by rw [HF.out] <;> rfl, HB.out⟩
   have d4 : decide (k < 256) = true := decide_eq_true k1
   have HF : Hid (r = (Int.tmod k 4 == 0)) := hid (by rw [HE.out, HT.out k0]; unfold kindsOk; rw [decide_eq_true k0, decide_eq_true k1]; rfl)
   clear k0 k1
   go_wp2_with fail
   go_ret
   exact ⟨by rw [HF.out] <;> rfl, HB.out⟩
  ·obtain ⟨m, rfl⟩ : ∃ m, n = m + 1 := ⟨n - 1, by omega⟩
   have HP := hid (decide_eq_false hp)
   clear hp
   go_wp2_with fail
   refine (HPM.out _ HB.out).mono ?_
   rintro q u ⟨rfl, hw⟩
   subst hw
   cases hm : mayP f.path
   case false =>
    have HE : Hid (r = false) := hid (by rw [HR.out, hm, HP.out]; simp)
    go_wp2_with fail
    go_ret
    exact ⟨by rw [HE.out] <;> rfl, HB.out⟩
   have HE : Hid (r = kindsOk k) := hid (by rw [HR.out, HM.out, hm]; simp)
   clear hm
   by_cases k0 : 0 ≤ k
   rotate_left
   ·have d3 : decide (k ≥ 0) = false := decide_eq_false k0
    have HF : Hid (r = false) := hid (by rw [HE.out]; unfold kindsOk; rw [decide_eq_false k0]; rfl)
    clear k0
    go_wp2_with fail
    go_ret
    exact ⟨by rw [HF.out] <;> rfl, HB.out⟩
   have d3 : decide (k ≥ 0) = true := decide_eq_true k0
   by_cases k1 : k < 256
   rotate_left
   ·have d4 : decide (k < 256) = false := decide_eq_false k1
    have HF : Hid (r = false) := hid (by rw [HE.out]; unfold kindsOk; rw [decide_eq_false k1]; simp)
    clear k1 k0
    go_wp2_with fail
    go_ret
    exact ⟨by rw [HF.out] <;> rfl, HB.out⟩
   have d4 : decide (k < 256) = true := decide_eq_true k1
   have HF : Hid (r = (Int.tmod k 4 == 0)) := hid (by rw [HE.out, HT.out k0]; unfold kindsOk; rw [decide_eq_true k0, decide_eq_true k1]; rfl)
   clear k0 k1
   go_wp2_with fail
   go_ret
   exact ⟨by rw [HF.out] <;> rfl, HB.out⟩
set_option maxHeartbeats 16000000 in
theorem r19ends_any (S : Nat → Prop) (f : FilT) (PA : Option Addr) (pc : Nat) (e : EntT) (cs : Array Value) (w : World) (hS : ∀ b, S b → b < w.heap.size) (hf : FilAt w S f PA pc) (h : EntL w S e cs) (hd : SmE e) :
  Calls Tryz.prog 18 #[.agg #[.string f.coll, .slice PA f.path.length pc, .int .i64 f.kinds], .agg cs] w fun r w' => r = .returned (.bool (endsFl f e)) ∧ Below w.heap.size w w' := by
 obtain ⟨IA, ic, IA', ic', DA, dc, DA', dc', LA, lc, rfl, hat⟩ := h.at
 obtain ⟨w2, hw2⟩ : ∃ W, W = (w.alloc (.cells #[.string f.coll, .slice PA f.path.length pc, .int .i64 f.kinds] 24)).alloc (.cells #[.int .i64 e.term, .int .i64 e.kind, .string e.coll, .string e.to, .int .i64 e.id.kind, .int .i64 e.id.num, .string e.id.text, .slice IA e.id.items.length ic, .slice IA' e.id.names.length ic', .int .i64 e.doc.kind, .int .i64 e.doc.num, .string e.doc.text, .slice DA e.doc.items.length dc, .slice DA' e.doc.names.length dc', .slice LA e.dels.length lc, .int .i64 e.session, .int .i64 e.number] 30) := ⟨_, rfl⟩
 have hz1 : (w.alloc (.cells #[.string f.coll, .slice PA f.path.length pc, .int .i64 f.kinds] 24)).heap.size = w.heap.size + 1 := by simp
 have hb2 : Below w.heap.size w w2 := by rw [hw2]; exact (below_box _).alloc (by omega) _
 have HF2 : Hid (FBox w2 w.heap.size f PA pc) := hid (by unfold FBox; rw [hw2, Below.heap_alloc _ _ _ (by omega)]; exact heap_alloc_new w _)
 have HK2 : Hid (EBox w2 (w.heap.size + 1) e IA ic IA' ic' DA dc DA' dc' LA lc) := hid (by unfold EBox; rw [hw2, ← hz1]; exact heap_alloc_new _ _)
 have HB2 := hid hb2
 have HS := hid hS
 have HA := hid hat
 have HFA := hid hf
 have HD := hid hd
 obtain ⟨r, hr⟩ : ∃ r, r = endsFl f e := ⟨_, rfl⟩
 rw [← hr]
 have HR : Hid (r = (decide (f.coll.size ≠ 0) && decide (f.coll = e.coll) && (decide (e.kind = 6) || decide (e.kind = 7)) && mayFl f && mayE e)) := hid hr
 clear hr hb2 hz1 hS h hat hf hd
 go_enter Tryz.func18, Tryz.ntmps18
 have HR0 : Hid (r = (mayFl f && mayE e && decide (f.coll.size ≠ 0) && decide (f.coll = e.coll) && (decide (e.kind = 6) || decide (e.kind = 7)))) := hid (by rw [HR.out]; cases mayFl f <;> cases mayE e <;> simp)
 clear HR
 have HR := HR0
 clear HR0
 go_wp2_with fail
 rw [← hw2]
 clear hw2
 refine (r19may_any S f PA pc w2 (fun b hb => Nat.lt_of_lt_of_le (HS.out b hb) HB2.out.size) (HFA.out.below HS.out HB2.out)).mono ?_
 rintro q w3 ⟨rfl, hb⟩
 have HB3 := hid (HB2.out.trans (hb.mono HB2.out.size))
 have HF3 := hid (HF2.out.below hb)
 have HK3 := hid (HK2.out.below hb)
 clear hb HF2 HK2
 cases hm1 : mayFl f
 case false =>
  go_wp2_with fail
  go_ret
  exact ⟨by rw [HR.out, hm1]; simp, HB3.out⟩
 have Hm1 := hid hm1
 clear hm1
 go_wp2_with (refine wpList_load_ent (by rfl) _ rfl (w.heap.size + 1) rfl _ _ HK3.out rfl ?_; simp only [acR, Act.put])
 refine (r13may_any S e _ w3 (fun b hb => Nat.lt_of_lt_of_le (HS.out b hb) HB3.out.size) (HA.out.below HS.out HB3.out).l HD.out).mono ?_
 rintro q w4 ⟨rfl, hb⟩
 have HB4 := hid (HB3.out.trans (hb.mono HB3.out.size))
 have HF4 := hid (HF3.out.below hb)
 have HK4 := hid (HK3.out.below hb)
 clear hb HF3 HK3
 cases hm2 : mayE e
 case false =>
  go_wp2_with fail
  go_ret
  exact ⟨by rw [HR.out, Hm1.out, hm2]; simp, HB4.out⟩
 have Hm2 := hid hm2
 clear hm2
 have z0 := HF4.out.g0
 have z1 := HK4.out.g1
 have z2 := HK4.out.g2
 have HR3 : Hid (r = (decide (f.coll.size ≠ 0) && decide (f.coll = e.coll) && (decide (e.kind = 6) || decide (e.kind = 7)))) := hid (by rw [HR.out, Hm1.out, Hm2.out]; simp)
 clear HR
 by_cases hc : f.coll.size = 0
 ·have e1 : f.coll.toList = [] := toList_nil.2 hc
  have HE : Hid (r = false) := hid (by rw [HR3.out, decide_eq_false (p := f.coll.size ≠ 0) (fun h => h hc)]; simp)
  clear hc
  go_wp2_with fail
  go_ret
  exact ⟨by rw [HE.out] <;> rfl, HB4.out⟩
 have e1 : f.coll.toList.isEmpty = false := by rw [← Bool.not_eq_true, isEmpty_size]; exact hc
 have e2 : ¬ f.coll.toList = [] := fun h => hc (toList_nil.1 h)
 have HR1 : Hid (r = (decide (f.coll = e.coll) && (decide (e.kind = 6) || decide (e.kind = 7)))) := hid (by rw [HR3.out, decide_eq_true (p := f.coll.size ≠ 0) hc]; simp)
 clear hc HR3
 by_cases hc : f.coll = e.coll
 rotate_left
 ·have d1 : (f.coll.toList == e.coll.toList) = false := by rw [str_beq]; exact decide_eq_false hc
  have HE : Hid (r = false) := hid (by rw [HR1.out, decide_eq_false hc]; simp)
  clear hc
  go_wp2_with fail
  go_ret
  exact ⟨by rw [HE.out]; simp [d1], HB4.out⟩
 have d1 : (f.coll.toList == e.coll.toList) = true := by rw [str_beq]; exact decide_eq_true hc
 have HR2 : Hid (r = (decide (e.kind = 6) || decide (e.kind = 7))) := hid (by rw [HR1.out, decide_eq_true hc]; simp)
 clear hc HR1
 by_cases hk : e.kind = 6
 ·have d2 : (e.kind == 6) = true := beq_iff_eq.2 hk
  have HE : Hid (r = true) := hid (by rw [HR2.out]; simp [hk])
  clear hk
  go_wp2_with fail
  go_ret
  exact ⟨by rw [HE.out] <;> rfl, HB4.out⟩
 have d2 : (e.kind == 6) = false := beq_false_of_ne hk
 have HE : Hid (r = (e.kind == 7)) := hid (by rw [HR2.out, decide_eq_false hk, Bool.eq_iff_iff]; simp)
 clear hk
 go_wp2_with fail
 go_ret
 exact ⟨by rw [HE.out] <;> rfl, HB4.out⟩
theorem coll_arms {e : EntT} (h : mayE e = true) (c : ByteArray) :
  (c.toList.isEmpty = false ∧ ¬ c.toList = [] ∧ (e.coll.toList == c.toList) = false ∧ (e.coll.toList != c.toList) = true ∧ True ∧ (e.kind == 7) = false ∧ ofCollF c e = false) ∨
  (c.toList.isEmpty = false ∧ ¬ c.toList = [] ∧ (e.coll.toList == c.toList) = false ∧ (e.coll.toList != c.toList) = true ∧ True ∧ (e.kind == 7) = true ∧ (e.to.toList == c.toList) = false ∧ (e.to.toList != c.toList) = true ∧ True ∧ ofCollF c e = false) ∨
  (c.toList = [] ∧ ofCollF c e = true) ∨
  (c.toList.isEmpty = false ∧ ¬ c.toList = [] ∧ (e.coll.toList == c.toList) = true ∧ (e.coll.toList != c.toList) = false ∧ ofCollF c e = true) ∨
  (c.toList.isEmpty = false ∧ ¬ c.toList = [] ∧ (e.coll.toList == c.toList) = false ∧ (e.coll.toList != c.toList) = true ∧ True ∧ (e.kind == 7) = true ∧ (e.to.toList == c.toList) = true ∧ (e.to.toList != c.toList) = false ∧ ofCollF c e = true) := by
 unfold ofCollF
 by_cases h0 : c.size = 0
 ·exact .inr (.inr (.inl ⟨toList_nil.2 h0, by rw [decide_eq_true h0]; rfl⟩))
 have e1 : c.toList.isEmpty = false := by rw [← Bool.not_eq_true, isEmpty_size]; exact h0
 have e2 : ¬ c.toList = [] := fun h => h0 (toList_nil.1 h)
 rw [decide_eq_false h0]
 by_cases h1 : c = e.coll
 ·have d : (e.coll.toList == c.toList) = true := by rw [str_beq]; exact decide_eq_true h1.symm
  exact .inr (.inr (.inr (.inl ⟨e1, e2, d, by rw [bne, d]; rfl, by rw [decide_eq_true h1]; rfl⟩)))
 have d : (e.coll.toList == c.toList) = false := by rw [str_beq]; exact decide_eq_false fun h => h1 h.symm
 rw [decide_eq_false h1]
 have d' : (e.coll.toList != c.toList) = true := by rw [bne, d]; rfl
 by_cases hk : e.kind = 7
 ·by_cases h2 : c = e.to
  ·have t : (e.to.toList == c.toList) = true := by rw [str_beq]; exact decide_eq_true h2.symm
   exact .inr (.inr (.inr (.inr ⟨e1, e2, d, d', trivial, beq_iff_eq.2 hk, t, by rw [bne, t]; rfl, by rw [decide_eq_true h2]; rfl⟩)))
  ·have t : (e.to.toList == c.toList) = false := by rw [str_beq]; exact decide_eq_false fun h => h2 h.symm
   exact .inr (.inl ⟨e1, e2, d, d', trivial, beq_iff_eq.2 hk, t, by rw [bne, t]; rfl, trivial, by rw [decide_eq_false h2]; rfl⟩)
 ·have h2 : ¬ c = e.to := fun h2 => by
   have := ((mayE_iff e).1 h).to
   rw [show hasTo e.kind = false from decide_eq_false hk, if_neg (by decide)] at this
   rw [h2] at h0
   exact h0 this
  exact .inl ⟨e1, e2, d, d', trivial, beq_false_of_ne hk, by rw [decide_eq_false h2]; rfl⟩
theorem doc_at {f : FilT} {e : EntT} (h : mayE e = true) (hf : mayFl f = true) (hk : e.kind = 2) (hp : ¬ f.path.length = 0) : mayT e.doc = true ∧ tgotT e.doc f.path = getT e.doc f.path := by
 have := ((mayE_iff e).1 h).doc
 rw [hk, show hasDoc 2 = true from rfl, if_pos rfl] at this
 unfold holdE at this
 simp only [Bool.and_eq_true, decide_eq_true_eq] at this
 have hm := check_may this.1.2
 refine ⟨hm, ?_⟩
 have hpm : mayP f.path = true := by
  unfold mayFl at hf
  simp only [Bool.and_eq_true, Bool.or_eq_true, decide_eq_true_eq] at hf
  exact hf.1.2.resolve_left hp
 unfold tgotT wrongT
 rw [if_pos]
 simp [docB, this.1.1, hm, hpm]
theorem quo_run {k : Int} (h0 : 0 ≤ k) (h1 : k < 256) (n : Nat) : wrap64 (Int.tdiv k ((2 ^ n : Nat) : Int)) = Int.tdiv k ((2 ^ n : Nat) : Int) := by
 obtain ⟨m, rfl⟩ : ∃ m : Nat, k = m := ⟨k.toNat, by omega⟩
 have e : Int.tdiv (m : Int) ((2 ^ n : Nat) : Int) = ((m / 2 ^ n : Nat) : Int) := by
  rw [Int.tdiv_eq_ediv_of_nonneg (a := (m : Int)) (Int.natCast_nonneg m)]; exact (Int.natCast_ediv m (2 ^ n)).symm
 have hd : m / 2 ^ n ≤ m := Nat.div_le_self _ _
 rw [e]
 generalize m / 2 ^ n = x at *
 unfold wrap64
 omega
theorem quo_bit {k : Int} (h0 : 0 ≤ k) (n : Nat) : (Int.tmod (Int.tdiv k ((2 ^ n : Nat) : Int)) 2 == 0) = !(decide (k.toNat / 2 ^ n % 2 = 1)) := by
 obtain ⟨m, rfl⟩ : ∃ m : Nat, k = m := ⟨k.toNat, by omega⟩
 have e : Int.tdiv (m : Int) ((2 ^ n : Nat) : Int) = ((m / 2 ^ n : Nat) : Int) := by
  rw [Int.tdiv_eq_ediv_of_nonneg (a := (m : Int)) (Int.natCast_nonneg m)]; exact (Int.natCast_ediv m (2 ^ n)).symm
 rw [e, Int.tmod_eq_emod_of_nonneg (a := ((m / 2 ^ n : Nat) : Int)) (Int.natCast_nonneg _), Bool.eq_iff_iff, beq_iff_eq]
 clear e
 simp only [Int.toNat_natCast, Bool.not_eq_true', decide_eq_false_iff_not]
 omega
set_option maxHeartbeats 16000000 in
theorem r19match_any (S : Nat → Prop) (f : FilT) (PA : Option Addr) (pc : Nat) (e : EntT) (cs : Array Value) (w : World) (hS : ∀ b, S b → b < w.heap.size) (hf : FilAt w S f PA pc) (h : EntL w S e cs) (hd : SmE e) :
  Calls Tryz.prog 16 #[.agg #[.string f.coll, .slice PA f.path.length pc, .int .i64 f.kinds], .agg cs] w fun r w' => r = .returned (.bool (matchFl f e)) ∧ Below w.heap.size w w' := by
 obtain ⟨IA, ic, IA', ic', DA, dc, DA', dc', LA, lc, rfl, hat⟩ := h.at
 obtain ⟨w2, hw2⟩ : ∃ W, W = (w.alloc (.cells #[.string f.coll, .slice PA f.path.length pc, .int .i64 f.kinds] 24)).alloc (.cells #[.int .i64 e.term, .int .i64 e.kind, .string e.coll, .string e.to, .int .i64 e.id.kind, .int .i64 e.id.num, .string e.id.text, .slice IA e.id.items.length ic, .slice IA' e.id.names.length ic', .int .i64 e.doc.kind, .int .i64 e.doc.num, .string e.doc.text, .slice DA e.doc.items.length dc, .slice DA' e.doc.names.length dc', .slice LA e.dels.length lc, .int .i64 e.session, .int .i64 e.number] 30) := ⟨_, rfl⟩
 have hz1 : (w.alloc (.cells #[.string f.coll, .slice PA f.path.length pc, .int .i64 f.kinds] 24)).heap.size = w.heap.size + 1 := by simp
 have hb2 : Below w.heap.size w w2 := by rw [hw2]; exact (below_box _).alloc (by omega) _
 have HF2 : Hid (FBox w2 w.heap.size f PA pc) := hid (by unfold FBox; rw [hw2, Below.heap_alloc _ _ _ (by omega)]; exact heap_alloc_new w _)
 have HK2 : Hid (EBox w2 (w.heap.size + 1) e IA ic IA' ic' DA dc DA' dc' LA lc) := hid (by unfold EBox; rw [hw2, ← hz1]; exact heap_alloc_new _ _)
 have HB2 := hid hb2
 have HS := hid hS
 have HA := hid hat
 have HFA := hid hf
 have HD := hid hd
 obtain ⟨r, hr⟩ : ∃ r, r = matchFl f e := ⟨_, rfl⟩
 rw [← hr]
 have HR : Hid (r = (mayFl f && mayE e && decide (e.kind ≠ 1) && ofKindsF f.kinds e && ofCollF f.coll e && atPathF f.path e)) := hid hr
 clear hr hb2 hz1 hS h hat hf hd
 go_enter Tryz.func16, Tryz.ntmps16
 go_wp2_with fail
 rw [← hw2]
 clear hw2
 refine (r19may_any S f PA pc w2 (fun b hb => Nat.lt_of_lt_of_le (HS.out b hb) HB2.out.size) (HFA.out.below HS.out HB2.out)).mono ?_
 rintro q w3 ⟨rfl, hb⟩
 have HB3 := hid (HB2.out.trans (hb.mono HB2.out.size))
 have HF3 := hid (HF2.out.below hb)
 have HK3 := hid (HK2.out.below hb)
 clear hb HF2 HK2
 cases hm1 : mayFl f
 case false =>
  go_wp2_with fail
  go_ret
  exact ⟨by rw [HR.out, hm1]; simp, HB3.out⟩
 have Hm1 := hid hm1
 clear hm1
 go_wp2_with (refine wpList_load_ent (by rfl) _ rfl (w.heap.size + 1) rfl _ _ HK3.out rfl ?_; simp only [acR, Act.put])
 refine (r13may_any S e _ w3 (fun b hb => Nat.lt_of_lt_of_le (HS.out b hb) HB3.out.size) (HA.out.below HS.out HB3.out).l HD.out).mono ?_
 rintro q w4 ⟨rfl, hb⟩
 have HB4 := hid (HB3.out.trans (hb.mono HB3.out.size))
 have HF4 := hid (HF3.out.below hb)
 have HK4 := hid (HK3.out.below hb)
 clear hb HF3 HK3
 cases hm2 : mayE e
 case false =>
  go_wp2_with fail
  go_ret
  exact ⟨by rw [HR.out, Hm1.out, hm2]; simp, HB4.out⟩
 have Hm2 := hid hm2
 clear hm2
 have HKI := hid (kinds_of (kind_ok Hm2.out).1 (kind_ok Hm2.out).2)
 have HKF := hid (kinds_ok Hm1.out)
 have y1 := HK4.out.g1
 have x2 := HF4.out.g2
 by_cases h1 : e.kind = 1
 ·have d1 : (e.kind == 1) = true := by simp [h1]
  have HN := hid h1
  clear h1
  go_wp2_with fail
  go_ret
  exact ⟨by rw [HR.out, Hm1.out, Hm2.out, decide_eq_false (p := e.kind ≠ 1) (fun h => h HN.out)]; simp, HB4.out⟩
 have HR1 : Hid (r = (ofKindsF f.kinds e && ofCollF f.coll e && atPathF f.path e)) := hid (by rw [HR.out, Hm1.out, Hm2.out, decide_eq_true (p := e.kind ≠ 1) h1]; simp)
 have d1 : (e.kind == 1) = false := beq_false_of_ne h1
 have Hm3 := hid h1
 clear h1 HR
 go_wp2_with fail
 clear d1 y1 x2
 obtain ⟨P2, hP2⟩ : ∃ P2, P2 = ((2 ^ e.kind.toNat : Nat) : Int) := ⟨_, rfl⟩
 have hs : ∀ W : World, (Op.shift .shl .i64 1 .i64 e.kind).run Tryz.prog W = .ok (.int .i64 P2) W := by
  rw [hP2]
  rcases HKI.out with he | he | he | he | he | he | he <;> (rw [he]; intro W; rfl)
 have hQ : (Int.tmod (Int.tdiv f.kinds P2) 2 == 0) = !(decide (f.kinds.toNat / 2 ^ e.kind.toNat % 2 = 1)) := by rw [hP2]; exact quo_bit HKF.out.1 _
 have hq0 : ¬ P2 = 0 := by
  rw [hP2]
  have := Nat.two_pow_pos e.kind.toNat
  omega
 have hq : wrap64 (Int.tdiv f.kinds P2) = Int.tdiv f.kinds P2 := by
  rw [hP2]
  exact quo_run HKF.out.1 HKF.out.2 _
 clear hP2
 have arm : ((f.kinds != 0) = true ∧ (Int.tmod (Int.tdiv f.kinds P2) 2 == 0) = true ∧ r = false) ∨ ((f.kinds != 0) = false ∧ r = (ofCollF f.coll e && atPathF f.path e)) ∨ ((f.kinds != 0) = true ∧ (Int.tmod (Int.tdiv f.kinds P2) 2 == 0) = false ∧ r = (ofCollF f.coll e && atPathF f.path e)) := by
  rw [hQ, HR1.out]
  unfold ofKindsF
  by_cases hz : f.kinds = 0
  ·rw [decide_eq_true hz]
   exact .inr (.inl ⟨by simp [hz], by simp⟩)
  ·rw [decide_eq_false hz]
   cases decide (f.kinds.toNat / 2 ^ e.kind.toNat % 2 = 1) with
   | true => exact .inr (.inr ⟨by simp [hz], rfl, by simp⟩)
   | false => exact .inl ⟨by simp [hz], rfl, by simp⟩
 clear hQ
 rcases arm with ⟨d1, hQ, hr⟩ | ⟨d1, hr⟩ | ⟨d1, hQ, hr⟩
 all_goals (
  have HE := hid hr
  clear hr
  refine wp_region_mix [0, 1, 2, 3, 4, 5, 6, 7, 8, 9, 10, 11, 12] (by kernel_rfl) (by kernel_rfl) (fun _ d _ _ _ h => by cases d <;> exact h) ?_
  simp only [atR]
  have hdr : Below w4.heap.size w4 w4.drew := (Below.refl _ _).drew
  have HB5 := hid (HB4.out.trans (hdr.mono HB4.out.size))
  have HF5 := hid (HF4.out.below hdr)
  have HK5 := hid (HK4.out.below hdr)
  clear hdr HB4 HF4 HK4
  generalize w4.drew = w5 at *
  have u1 := cell_later (B := w5.heap.size) (w := w5) HK5.out.g1 HK5.out.lt
  have u2 := cell_later (B := w5.heap.size) (w := w5) HF5.out.g2 HF5.out.lt
  first | refine mix_pure ?_ | refine mix_pureB ?_
  simp only [List.takeWhile, List.dropWhile, isPure, Nat.reduceBNe]
  repeat (go_big_quiet_step (fail))
  refine wpQuiet_nil ?_
  unfold wpMix
  clear u1 u2 d1 hs hq0 hq
  try clear hQ)
 ·go_wp2_with fail
  go_ret
  exact ⟨by rw [HE.out] <;> rfl, HB5.out⟩
 all_goals (
  have hcc := coll_arms Hm2.out f.coll
  rcases hcc with ⟨e1, e2, n1, n2, n3, k1, hcf⟩ | ⟨e1, e2, n1, n2, n3, k1, t1, t2, t3, hcf⟩ | ⟨e1, hcf⟩ | ⟨e1, e2, n1, n2, hcf⟩ | ⟨e1, e2, n1, n2, n3, k1, t1, t2, hcf⟩
  all_goals (
   have HE2 : Hid (r = if ofCollF f.coll e = true then atPathF f.path e else false) := hid (by rw [HE.out]; cases ofCollF f.coll e <;> simp)
   clear HE
   rw [hcf] at HE2
   clear hcf
   have z0 := HF5.out.g0
   have z1 := HK5.out.g1
   have z2 := HK5.out.g2
   have z3 := HK5.out.g3)
  ·go_wp2_with fail
   go_ret
   exact ⟨by rw [HE2.out] <;> rfl, HB5.out⟩
  ·go_wp2_with fail
   go_ret
   exact ⟨by rw [HE2.out] <;> rfl, HB5.out⟩
  all_goals (
   have x1 := HF5.out.g1
   have HE : Hid (r = atPathF f.path e) := hid (by rw [HE2.out]; rfl)
   clear HE2
   by_cases hp : f.path.length = 0
   ·have d0 : ((f.path.length : Int) == 0) = true := by simp [hp]
    have HG : Hid (r = true) := hid (by rw [HE.out]; unfold atPathF; rw [if_pos hp])
    clear hp
    go_wp2_with fail
    go_ret
    exact ⟨by rw [HG.out] <;> rfl, HB5.out⟩
   have d0 : ((f.path.length : Int) == 0) = false := beq_false_of_ne (by omega)
   have HG : Hid (r = if e.kind = 2 then (tgotT e.doc f.path).isSome else if e.kind = 3 then touchD e.dels f.path else true) := hid (by rw [HE.out]; unfold atPathF; rw [if_neg hp])
   have HPN := hid hp
   clear hp HE
   by_cases h2 : e.kind = 2
   ·have d2 : (e.kind == 2) = true := beq_iff_eq.2 h2
    have HQ2 : Hid (mayT e.doc = true ∧ r = okT e.doc f.path) := hid (by
     obtain ⟨h3, h4⟩ := doc_at Hm2.out Hm1.out h2 HPN.out
     exact ⟨h3, by rw [HG.out, if_pos h2, h4]; rfl⟩)
    have HC := hid (rget_any S e.doc _ PA pc f.path w5 (fun b hb => Nat.lt_of_lt_of_le (HS.out b hb) HB5.out.size) (HA.out.below HS.out HB5.out).doc HQ2.out.1 (HFA.out.below HS.out HB5.out).path (by have := HFA.out.len; omega))
    clear h2 HG
    have q9 := HK5.out.g9
    have q10 := HK5.out.g10
    have q11 := HK5.out.g11
    have q12 := HK5.out.g12
    have q13 := HK5.out.g13
    go_wp2_with fail
    refine HC.out.mono ?_
    rintro q w6 ⟨v, rfl, hv, hb⟩
    obtain ⟨VA, vc, VA', vc', rfl, -⟩ := hv.shape
    rw [← HQ2.out.2]
    have HB6 := hid (HB5.out.trans (hb.mono HB5.out.size))
    have HB7 := hid (HB6.out.alloc (B := w.heap.size) HB6.out.size (.cells #[.int .i64 (gotT e.doc f.path).kind, .int .i64 (gotT e.doc f.path).num, .string (gotT e.doc f.path).text, .slice VA (gotT e.doc f.path).items.length vc, .slice VA' (gotT e.doc f.path).names.length vc'] 27))
    clear hv hb HC
    go_wp2_with fail
    go_ret
    exact ⟨rfl, HB7.out⟩
   have d2 : (e.kind == 2) = false := beq_false_of_ne h2
   have HG2 : Hid (r = if e.kind = 3 then touchD e.dels f.path else true) := hid (by rw [HG.out, if_neg h2])
   clear h2 HG
   by_cases h2 : e.kind = 3
   rotate_left
   ·have d3 : (e.kind == 3) = false := beq_false_of_ne h2
    have HG3 : Hid (r = true) := hid (by rw [HG2.out, if_neg h2])
    clear h2 HG2
    go_wp2_with fail
    go_ret
    exact ⟨by rw [HG3.out] <;> rfl, HB5.out⟩
   have d3 : (e.kind == 3) = true := beq_iff_eq.2 h2
   have HG3 : Hid (r = touchD e.dels f.path) := hid (by rw [HG2.out, if_pos h2])
   obtain ⟨n, hn⟩ : ∃ n, n = e.dels.length := ⟨_, rfl⟩
   have HN := hid hn
   have hnl : n ≤ 1172812402961 := by have := HA.out.len; omega
   clear h2 HG2 hn
   go_wp2_with fail
   clear z0 z1 z2 z3 x1 d0 d2 d3
   go_loopw [7] (fun i wr => ∃ j : Nat, i = .int .i64 j ∧ j ≤ n ∧ Hid (Below w.heap.size w wr) ∧ Hid (FBox wr w.heap.size f PA pc) ∧ Hid (EBox wr (w.heap.size + 1) e IA ic IA' ic' DA dc DA' dc' LA lc) ∧ Hid (∀ i (h : i < e.dels.length), i < j → meetP (e.dels[i]).path f.path = false)) (fun i _ => n - (intOf i).toNat)
   case atStart => exact ⟨0, rfl, by omega, HB5, HF5, HK5, hid fun i _ h => absurd h (by omega)⟩
   case round =>
    clear HB5 HF5 HK5
    obtain ⟨j, rfl, hj, HB5, HF5, HK5, HM⟩ := hrel
    have z14 := HK5.out.g14
    rw [← HN.out] at z14
    by_cases hlt : j < n
    rotate_left
    ·have dl : decide ((j : Int) < (n : Int)) = false := decide_eq_false (by omega)
     have HE : Hid (r = false) := hid (by
      rw [HG3.out]
      unfold touchD
      rw [List.any_eq_false]
      intro d hd
      obtain ⟨i, hi, rfl⟩ := List.getElem_of_mem hd
      rw [HM.out i hi (by have := HN.out; omega)]
      decide)
     go_wp2_with fail
     go_ret
     exact ⟨by rw [HE.out] <;> rfl, HB5.out⟩
    have dl : decide ((j : Int) < (n : Int)) = true := decide_eq_true (by omega)
    have hjl : j < e.dels.length := by have := HN.out; omega
    go_wp2_with fail
    clear z14
    have hkS : ∀ b, S b → wr.drew.heap[b]? = w.heap[b]? := fun b hb => HB5.out.block b (HS.out b hb)
    have hSd : ∀ b, S b → b < wr.drew.heap.size := fun b hb => Nat.lt_of_lt_of_le (HS.out b hb) HB5.out.size
    obtain ⟨rb, roff, A1, c1, hLA, hrb, h1, h2, h3, hca⟩ := (HA.out.below HS.out HB5.out).dels.path j hjl
    have h1 : StrsAt wr.drew S A1 (e.dels[j]).path := h1
    have hfp : StrsAt wr.drew S PA f.path := (HFA.out.below HS.out HB5.out).path
    have HLA := hid hLA
    have hrl : rb < wr.heap.size := Nat.lt_of_lt_of_le (HS.out rb hrb) HB5.out.size
    have HG1 := hid (rbegins_any A1 PA c1 pc (e.dels[j]).path f.path wr.drew S S h1 hfp hSd hSd (by omega) (by have := HFA.out.len; omega))
    have HG2 : Hid (∀ W, Below wr.drew.heap.size wr.drew W → Calls Tryz.prog 43 #[.slice PA f.path.length pc, .slice A1 (e.dels[j]).path.length c1] W fun q w' => q = .returned (.bool (begP f.path (e.dels[j]).path)) ∧ Below W.heap.size W w') := hid fun W hW =>
     rbegins_any PA A1 pc c1 f.path (e.dels[j]).path W S S (hfp.keep fun b hb => hW.block b (hSd b hb)) (h1.keep fun b hb => hW.block b (hSd b hb)) (fun b hb => Nat.lt_of_lt_of_le (hSd b hb) hW.size) (fun b hb => Nat.lt_of_lt_of_le (hSd b hb) hW.size) (by have := HFA.out.len; omega) (by omega)
    obtain ⟨nj, hnj⟩ : ∃ m, m = (e.dels[j]).path.length := ⟨_, rfl⟩
    obtain ⟨b1, hb1⟩ : ∃ b, b = begP (e.dels[j]).path f.path := ⟨_, rfl⟩
    obtain ⟨b2, hb2⟩ : ∃ b, b = begP f.path (e.dels[j]).path := ⟨_, rfl⟩
    have HMT : Hid (meetP (e.dels[j]).path f.path = (b1 || b2)) := hid (by unfold meetP; rw [hb1, hb2])
    rw [← hnj] at HG1 HG2
    rw [← hb1] at HG1
    rw [← hb2] at HG2
    rw [← hnj] at hca
    have HL14 : Hid (wr.cell? ⟨w.heap.size + 1, 14, none⟩ = some (.slice (some ⟨rb, roff, none⟩) n lc)) := hid (by rw [← HLA.out, HN.out]; exact HK5.out.g14)
    have HCA := hid (And.intro hca hrl)
    clear h1 h2 h3 hkS hSd hnj hb1 hb2 hrb hfp hLA hca hrl
    refine wp_region_mix [0, 1, 2, 3, 4, 5, 6, 7, 8, 9, 10, 11, 12, 13, 14, 15, 16, 17, 18, 19] (by kernel_rfl) (by kernel_rfl) (fun _ d _ _ _ h => by cases d <;> exact h) ?_
    simp only [atR]
    have u1 := cell_later (B := wr.heap.size) (w := wr.drew) HCA.out.1 HCA.out.2
    have u2 := cell_later (B := wr.heap.size) (w := wr.drew) HL14.out HK5.out.lt
    have u3 := cell_later (B := wr.heap.size) (w := wr.drew) HF5.out.g1 HF5.out.lt
    first | refine mix_pure ?_ | refine mix_pureB ?_
    simp only [List.takeWhile, List.dropWhile, isPure, Nat.reduceBNe]
    repeat (go_big_quiet_step (fail))
    refine wpQuiet_nil ?_
    clear u1 u2 u3
    first | refine mix_call rfl (fun K hK => ?_) | refine mix_callB rfl (fun K hK => ?_)
    go_simp
    refine (HG1.out).mono ?_
    rintro q w8 ⟨rfl, hb⟩
    refine hK _ _ hb ?_
    clear hK K
    try simp only [Act.put]
    have hb' : Below wr.heap.size wr w8 := (Below.refl _ _).drew.trans hb
    have HB8 : Hid (Below w.heap.size w w8) := hid (HB5.out.trans (hb'.mono HB5.out.size))
    have HF8 := hid (HF5.out.below hb')
    have HK8 := hid (HK5.out.below hb')
    have HCA8 : Hid (w8.cell? ⟨rb, roff + j * 8 + 1, none⟩ = some (.slice A1 nj c1) ∧ rb < w8.heap.size) := hid ⟨(World.cell?_of_block (a := ⟨rb, roff + j * 8 + 1, none⟩) (hb'.block rb HCA.out.2)).trans HCA.out.1, Nat.lt_of_lt_of_le HCA.out.2 hb'.size⟩
    have HL8 : Hid (w8.cell? ⟨w.heap.size + 1, 14, none⟩ = some (.slice (some ⟨rb, roff, none⟩) n lc)) := hid ((World.cell?_of_block (a := ⟨w.heap.size + 1, 14, none⟩) (hb'.block _ HK5.out.lt)).trans HL14.out)
    have HG3' := hid (HG2.out w8 hb)
    clear hb hb' HG1 HG2 HCA HL14
    cases b1
    ·have u1 := cell_later (B := w8.heap.size) (w := w8) HCA8.out.1 HCA8.out.2
     have u2 := cell_later (B := w8.heap.size) (w := w8) HL8.out HK8.out.lt
     have u3 := cell_later (B := w8.heap.size) (w := w8) HF8.out.g1 HF8.out.lt
     first | refine mix_pure ?_ | refine mix_pureB ?_
     simp only [List.takeWhile, List.dropWhile, isPure, Nat.reduceBNe]
     repeat (go_big_quiet_step (fail))
     refine wpQuiet_nil ?_
     clear u1 u2 u3
     first | refine mix_call rfl (fun K hK => ?_) | refine mix_callB rfl (fun K hK => ?_)
     go_simp
     refine (HG3'.out).mono ?_
     rintro q w9 ⟨rfl, hb⟩
     refine hK _ _ hb ?_
     clear hK K
     try simp only [Act.put]
     have HB9 : Hid (Below w.heap.size w w9) := hid (HB8.out.trans (hb.mono HB8.out.size))
     have HF9 := hid (HF8.out.below hb)
     have HK9 := hid (HK8.out.below hb)
     clear hb HG3' HCA8 HL8
     first | refine mix_pure ?_ | refine mix_pureB ?_
     simp only [List.takeWhile, List.dropWhile, isPure, Nat.reduceBNe]
     repeat (go_big_quiet_step (fail))
     refine wpQuiet_nil ?_
     unfold wpMix
     cases b2
     ·have HMF : Hid (meetP (e.dels[j]).path f.path = false) := hid (by rw [HMT.out]; rfl)
      go_wp2_with fail
      go_roundw
      case rel => exact ⟨j + 1, by go_num, by omega, HB9, HF9, HK9, hid fun i hi hij => by
       by_cases e : i = j
       ·subst e; exact HMF.out
       ·exact HM.out i hi (by omega)⟩
      case measure => simp [intOf]; omega
     ·have HE : Hid (r = true) := hid (by rw [HG3.out]; unfold touchD; rw [List.any_eq_true]; exact ⟨_, List.getElem_mem hjl, by rw [HMT.out]; rfl⟩)
      go_wp2_with fail
      go_ret
      exact ⟨by rw [HE.out] <;> rfl, HB9.out⟩
    ·have HE : Hid (r = true) := hid (by rw [HG3.out]; unfold touchD; rw [List.any_eq_true]; exact ⟨_, List.getElem_mem hjl, by rw [HMT.out]; rfl⟩)
     first | refine mix_pure ?_ | refine mix_pureB ?_
     simp only [List.takeWhile, List.dropWhile, isPure, Nat.reduceBNe]
     repeat (go_big_quiet_step (fail))
     refine wpQuiet_nil ?_
     first | refine mix_call rfl (fun K hK => ?_) | refine mix_callB rfl (fun K hK => ?_)
     go_simp
     refine hK _ _ (Below.refl _ _) ?_
     clear hK K
     try simp only [Act.put]
     first | refine mix_pure ?_ | refine mix_pureB ?_
     simp only [List.takeWhile, List.dropWhile, isPure, Nat.reduceBNe]
     repeat (go_big_quiet_step (fail))
     refine wpQuiet_nil ?_
     unfold wpMix
     go_wp2_with fail
     go_ret
     exact ⟨by rw [HE.out] <;> rfl, HB8.out⟩))
section
variable {w0 W W' : World} {g r : Nat} {e e' : EntT} {IA : Option Addr} {ic : Nat} {IA' : Option Addr} {ic' : Nat} {DA : Option Addr} {dc : Nat} {DA' : Option Addr} {dc' : Nat} {LA : Option Addr} {lc : Nat} {st st' : Option (List UInt8)}
end
theorem nil_dels (w : World) (S : Nat → Prop) : DelsL w S none [] := fun h => absurd h (by simp)
end Go.Proofs.YtlipkmdjpligeaaGreat

/- Statements whose order Go leaves open, walked as they stand in the text, with a relation of one's choice for what must stay. -/
namespace Go.Proofs.YtlipkmdjpligeaaGreat
set_option linter.unusedVariables false
set_option linter.unusedSimpArgs false
open Go.RowKit Go.Sort
section
variable {P : Program} {ops : Array Oper} {Q : Exit → Act → World → Prop} {md : Region.Mode} {R : World → World → Prop}
end
def KeepG (g : Nat) (w w' : World) : Prop := w.heap.size ≤ w'.heap.size ∧ ∀ b, b < w.heap.size → b ≠ g → w'.heap[b]? = w.heap[b]?
theorem KeepG.refl (g : Nat) (w : World) : KeepG g w w := ⟨Nat.le_refl _, fun _ _ _ => rfl⟩
instance (g : Nat) (w : World) : Inhabited (LaterR (KeepG g) w) := ⟨⟨w, KeepG.refl g w⟩⟩
end Go.Proofs.YtlipkmdjpligeaaGreat
