/- The sum of any kinds: a filter of them matches just these. No conditions. -/
import Derived.Test.YtlipkmdjpligeaaGreatKEnY
import Derived.SizedLaws
import Derived.ProofKit
import Derived.OpenShut
import Derived.ShutString
import Derived.ChangeOld
import Derived.ChangeMaps5
import Derived.Below
import Derived.Laws.AppendOwnNone
namespace Go.Proofs.YtlipkmdjpligeaaGreat.FKinds
set_option linter.unusedVariables false
set_option linter.unusedSimpArgs false
open Go.ChangeShapes Go.WideShapes Go.ChangeAt Go.RowKit Go.Joins
set_option linter.unusedVariables false
set_option maxRecDepth 100000
theorem own : ownKnob Tryz.prog.godebug = none := by kernel_rfl
theorem laidOut : laidOutB Tryz.prog = true := by kernel_rfl
def has (l : List Int) (k : Nat) : Bool := decide ((k : Int) ∈ l)
def part (l : List Int) (k : Nat) : Nat := (if decide (2 < k) && has l 2 then 4 else 0) + (if decide (3 < k) && has l 3 then 8 else 0) + (if decide (4 < k) && has l 4 then 16 else 0) + (if decide (5 < k) && has l 5 then 32 else 0) + (if decide (6 < k) && has l 6 then 64 else 0) + (if decide (7 < k) && has l 7 then 128 else 0)
def inP (l : List Int) (x : Int) (k : Nat) : Bool := (decide (2 < k) && has l 2 && decide (x = 2)) || (decide (3 < k) && has l 3 && decide (x = 3)) || (decide (4 < k) && has l 4 && decide (x = 4)) || (decide (5 < k) && has l 5 && decide (x = 5)) || (decide (6 < k) && has l 6 && decide (x = 6)) || (decide (7 < k) && has l 7 && decide (x = 7))
theorem part_end (l : List Int) : part l 8 = wantK l := by
 unfold part wantK wantB has
 simp
theorem part_zero (l : List Int) : part l 2 = 0 := by unfold part; simp
theorem in_zero (l : List Int) (x : Int) : inP l x 2 = false := by unfold inP; simp
theorem part_next (l : List Int) (k : Nat) (h2 : 2 ≤ k) (h7 : k ≤ 7) : part l (k + 1) = part l k + (if has l k then 2 ^ k else 0) := by
 obtain rfl | rfl | rfl | rfl | rfl | rfl : k = 2 ∨ k = 3 ∨ k = 4 ∨ k = 5 ∨ k = 6 ∨ k = 7 := by omega
 all_goals (unfold part; simp; try omega)
theorem in_next (l : List Int) (x : Int) (k : Nat) (h2 : 2 ≤ k) (h7 : k ≤ 7) : inP l x (k + 1) = (inP l x k || (has l k && decide (x = (k : Int)))) := by
 obtain rfl | rfl | rfl | rfl | rfl | rfl : k = 2 ∨ k = 3 ∨ k = 4 ∨ k = 5 ∨ k = 6 ∨ k = 7 := by omega
 all_goals (unfold inP; simp)
theorem part_le (l : List Int) (k : Nat) : part l k ≤ 252 := by
 unfold part
 repeat' split
 all_goals omega
theorem match_kinds (l : List Int) (e : EntT) (h : wantK l ≠ 0) : matchFl ⟨⟨#[]⟩, [], (wantK l : Nat)⟩ e = (inP l e.kind 8 && mayE e) := by
 have hk : kindsOk (wantK l : Nat) = true := by
  have := wantB_lt (decide (2 ∈ l)) (decide (3 ∈ l)) (decide (4 ∈ l)) (decide (5 ∈ l)) (decide (6 ∈ l)) (decide (7 ∈ l))
  unfold kindsOk
  simp only [Bool.and_eq_true, decide_eq_true_eq]
  have h1 : wantK l < 256 := this.1
  have h2 : wantK l % 4 = 0 := this.2
  omega
 have hm : mayFl ⟨⟨#[]⟩, [], (wantK l : Nat)⟩ = true := by
  unfold mayFl
  rw [hk]
  rfl
 unfold matchFl
 rw [hm]
 cases hme : mayE e with
 | false => simp
 | true =>
  have hkk := kind_ok hme
  have hb := wantB_bit (decide (2 ∈ l)) (decide (3 ∈ l)) (decide (4 ∈ l)) (decide (5 ∈ l)) (decide (6 ∈ l)) (decide (7 ∈ l))
  have ho : ofKindsF (wantK l : Nat) e = decide (wantK l / 2 ^ e.kind.toNat % 2 = 1) := by
   unfold ofKindsF
   rw [decide_eq_false (p := ((wantK l : Nat) : Int) = 0) (by omega)]
   simp
  have hc : ofCollF ⟨#[]⟩ e = true := rfl
  have hp : atPathF [] e = true := rfl
  show (true && true && decide (e.kind ≠ 1) && ofKindsF (wantK l : Nat) e && ofCollF ⟨#[]⟩ e && atPathF [] e) = _
  rw [ho, hc, hp]
  have hw : wantK l = wantB (decide (2 ∈ l)) (decide (3 ∈ l)) (decide (4 ∈ l)) (decide (5 ∈ l)) (decide (6 ∈ l)) (decide (7 ∈ l)) := rfl
  rw [hw]
  rcases kinds_of hkk.1 hkk.2 with h | h | h | h | h | h | h <;> rw [h]
  ·simp [inP]
  ·rw [show (2 : Int).toNat = 2 from rfl, hb.1]; simp [inP, has]
  ·rw [show (3 : Int).toNat = 3 from rfl, hb.2.1]; simp [inP, has]
  ·rw [show (4 : Int).toNat = 4 from rfl, hb.2.2.1]; simp [inP, has]
  ·rw [show (5 : Int).toNat = 5 from rfl, hb.2.2.2.1]; simp [inP, has]
  ·rw [show (6 : Int).toNat = 6 from rfl, hb.2.2.2.2.1]; simp [inP, has]
  ·rw [show (7 : Int).toNat = 7 from rfl, hb.2.2.2.2.2]; simp [inP, has]
theorem Tryz.infoI : (Tryz.prog.info? 3).map (fun i => (i.zero, i.size, i.bytes)) = some (some (.int .i64 0), 1, 8) := by kernel_rfl
theorem flat_ints (l : List Int) : (l.map fun x => Value.int .i64 x).length = l.length * 1 := by simp
theorem ints_of {w : World} {B : Nat} {v : Value} {l : List Int} (h : w.ownsRow B 3 1 v l.length (l.map fun x => Value.int .i64 x)) (hr : ∀ x ∈ l, Rng x) : ∃ A c, v = .slice A l.length c ∧ IntsL w (fun _ => True) A l := by
 have hcl := fun g hg => World.ownsRow.cells (g := g) h hg
 rcases h.2 with ⟨rfl, h0⟩ | ⟨g, cap, cur, rfl, hB, hh, hc, -, -, -⟩
 ·obtain rfl := List.eq_nil_of_length_eq_zero h0
  exact ⟨none, 0, rfl, fun hp => absurd hp (by simp)⟩
 ·refine ⟨some ⟨g, 0, none⟩, cap, rfl, fun hp => ⟨g, 0, rfl, trivial, fun i hi => ⟨#[.int .i64 l[i]], fun j v hv => ?_, rfl, hr _ (List.getElem_mem hi)⟩⟩⟩
  obtain rfl : j = 0 := by have := (Array.getElem?_eq_some_iff.1 hv).1; simp at this; omega
  have h1 := hcl g rfl i (.int .i64 l[i]) (by simp [hi])
  have hv' : Value.int .i64 l[i] = v := by simpa using hv
  rw [← hv']
  rw [add_at, Nat.zero_add] at h1
  simpa using h1
set_option maxHeartbeats 32000000 in
theorem walk (A : Option Addr) (c : Nat) (l : List Int) (e : EntT) (cs : Array Value) (w : World) (ho : A = none → c = 0 ∧ l = []) (hi : IntsL w (fun b => b < w.heap.size) A l) (hl : l.length ≤ 17592186044416) (h : EntL w (fun b => b < w.heap.size) e cs) : Calls Tryz.prog 6 #[.slice A l.length c, .agg cs] w fun q w' => q = .returned (.bool true) ∧ Below w.heap.size w w' := by
 have HSMF := Lib.hid (small_ent h)
 obtain ⟨IA, ic, IA', ic', DA, dc, DA', dc', LA, lc, rfl, hat⟩ := h.at
 obtain ⟨n, hn⟩ : ∃ n, n = l.length := ⟨_, rfl⟩
 have HN := Lib.hid hn
 rw [← hn] at hl ⊢
 obtain ⟨w2, hw2⟩ : ∃ W, W = w.alloc (.cells #[.int .i64 e.term, .int .i64 e.kind, .string e.coll, .string e.to, .int .i64 e.id.kind, .int .i64 e.id.num, .string e.id.text, .slice IA e.id.items.length ic, .slice IA' e.id.names.length ic', .int .i64 e.doc.kind, .int .i64 e.doc.num, .string e.doc.text, .slice DA e.doc.items.length dc, .slice DA' e.doc.names.length dc', .slice LA e.dels.length lc, .int .i64 e.session, .int .i64 e.number] 30) := ⟨_, rfl⟩
 have hb2 : Below w.heap.size w w2 := by rw [hw2]; exact below_box _
 have HK0 : Hid (EBox (w.alloc (.cells #[.int .i64 e.term, .int .i64 e.kind, .string e.coll, .string e.to, .int .i64 e.id.kind, .int .i64 e.id.num, .string e.id.text, .slice IA e.id.items.length ic, .slice IA' e.id.names.length ic', .int .i64 e.doc.kind, .int .i64 e.doc.num, .string e.doc.text, .slice DA e.doc.items.length dc, .slice DA' e.doc.names.length dc', .slice LA e.dels.length lc, .int .i64 e.session, .int .i64 e.number] 30)) w.heap.size e IA ic IA' ic' DA dc DA' dc' LA lc) := Lib.hid (heap_alloc_new w _)
 have HK : Hid (EBox w2 w.heap.size e IA ic IA' ic' DA dc DA' dc' LA lc) := Lib.hid (by rw [hw2]; exact HK0.out)
 have HB := Lib.hid hb2
 have HA := Lib.hid (hat.up hb2)
 have HI : Hid (IntsL w2 (fun b => b < w.heap.size) A l) := Lib.hid (hi.keep lrelI fun b hb => hb2.block b hb)
 have HO := Lib.hid ho
 have HLG := Lib.hid (r13large_any (fun b => b < w2.heap.size) e _ w2 (fun b hb => hb) HA.out.l)
 clear h hat hb2 hn hi ho
 go_enter Tryz.func6, Tryz.ntmps6
 by_cases hbig : 50 < n
 ·have d1 : decide ((n : Int) > 50) = true := decide_eq_true (by omega)
  rw [hw2] at HB
  go_wp2_with fail
  refine (lives19_any _).mono ?_
  rintro q v9 ⟨rfl, hb⟩
  have HZ := Lib.hid (HB.out.trans (hb.mono HB.out.size))
  clear hb
  go_wp2_with fail
  go_ret
  exact ⟨rfl, HZ.out⟩
 have d1 : decide ((n : Int) > 50) = false := decide_eq_false (by omega)
 go_wp2_with (refine wpList_load_ent (by rfl) _ rfl w.heap.size rfl _ _ HK0.out rfl ?_; simp only [acR, Act.put])
 rw [← hw2]
 clear hw2 HK0 d1
 refine HLG.out.mono ?_
 rintro q w3 ⟨rfl, hb⟩
 have HI : Hid (IntsL w3 (fun b => b < w.heap.size) A l) := Lib.hid (HI.out.keep lrelI fun b hb' => hb.block b (Nat.lt_of_lt_of_le hb' HB.out.size))
 have HB := Lib.hid (HB.out.trans (hb.mono HB.out.size))
 have HK := Lib.hid (HK.out.below hb)
 have HA := Lib.hid (HA.out.up hb)
 clear hb
 clear HLG
 cases hlg : largeE e with
 | true =>
  clear hlg
  go_wp2_with fail
  refine (lives19_any _).mono ?_
  rintro q v9 ⟨rfl, hb⟩
  have HZ := Lib.hid (HB.out.trans (hb.mono HB.out.size))
  clear hb
  go_wp2_with fail
  go_ret
  exact ⟨rfl, HZ.out⟩
 | false =>
 have HSM := Lib.hid (HSMF.out hlg).1
 clear hlg HSMF
 have hn50 : n ≤ 50 := by omega
 clear hbig
 go_wp2_with fail
 go_loopw [5, 6, 7] (fun s d i wr => ∃ k : Nat, i = .int .i64 k ∧ s = .int .i64 (part l k : Nat) ∧ d = .bool (inP l e.kind k) ∧ 2 ≤ k ∧ k ≤ 8 ∧ wr = w3) (fun _ _ i _ => 8 - (intOf i).toNat)
 case atStart => exact ⟨2, rfl, by rw [part_zero]; rfl, by rw [in_zero], by omega, by omega, rfl⟩
 case round =>
  obtain ⟨k, rfl, rfl, rfl, hk2, hk8, hw⟩ := hrel
  subst hw
  obtain ⟨s, hs⟩ : ∃ s, s = part l k := ⟨_, rfl⟩
  obtain ⟨d, hd⟩ : ∃ d, d = inP l e.kind k := ⟨_, rfl⟩
  have HS := Lib.hid hs
  have HD := Lib.hid hd
  have hsl : s ≤ 252 := by rw [hs]; exact part_le l k
  rw [← hs, ← hd]
  clear hs hd
  by_cases hk : k ≤ 7
  ·have d2 : decide ((k : Int) ≤ 7) = true := decide_eq_true (by omega)
   have HPN := Lib.hid (part_next l k hk2 hk)
   have HIN := Lib.hid (in_next l e.kind k hk2 hk)
   go_wp2_with fail
   go_loopw [8, 9] (fun h i wq => ∃ j : Nat, i = .int .i64 j ∧ h = .bool (has (l.take j) k) ∧ j ≤ n ∧ wq = wr) (fun _ i _ => n - (intOf i).toNat)
   case atStart => exact ⟨0, rfl, rfl, by omega, rfl⟩
   case round =>
    obtain ⟨j, rfl, rfl, hj, hw⟩ := hrel
    subst hw
    obtain ⟨h0, hh0⟩ : ∃ h, h = has (l.take j) k := ⟨_, rfl⟩
    have HH := Lib.hid hh0
    rw [← hh0]
    clear hh0
    by_cases hlt : j < n
    ·have d3 : decide ((j : Int) < (n : Int)) = true := decide_eq_true (by omega)
     have hjl : j < l.length := by have := HN.out; omega
     obtain ⟨b, off, hA, hb, hc, -⟩ := IntsL.at HI.out j hjl
     have HT : Hid (has (l.take (j + 1)) k = (has (l.take j) k || decide ((k : Int) = l[j]))) := Lib.hid (by
      unfold has
      rw [List.take_succ_eq_append_getElem hjl]
      exact mem_snoc _ _ _)
     obtain ⟨x, hx⟩ : ∃ x, x = l[j] := ⟨_, rfl⟩
     rw [← hx] at hc HT
     obtain ⟨b', off', rfl, rfl⟩ : ∃ b' off', b' = b ∧ off' = off := ⟨_, _, rfl, rfl⟩
     subst hA
     clear hb hx
     cases h0
     ·have HE : Hid ((x == (k : Int)) = has (l.take (j + 1)) k) := Lib.hid (by rw [HT.out, ← HH.out, Bool.false_or, Bool.eq_iff_iff, beq_iff_eq, decide_eq_true_eq]; exact ⟨Eq.symm, Eq.symm⟩)
      have hE := HE.out
      go_wp2_with fail
      go_roundw
      case rel => exact ⟨j + 1, by go_num, by first | rw [hE] | simp [hE], by omega, trivial⟩
      case measure => simp [intOf]; omega
     ·have HE : Hid (has (l.take (j + 1)) k = true) := Lib.hid (by rw [HT.out, ← HH.out]; rfl)
      go_wp2_with fail
      go_roundw
      case rel => exact ⟨j + 1, by go_num, by rw [HE.out], by omega, trivial⟩
      case measure => simp [intOf]; omega
    ·have d3 : decide ((j : Int) < (n : Int)) = false := decide_eq_false (by omega)
     have HE : Hid (h0 = has l k) := Lib.hid (by rw [HH.out, List.take_of_length_le (by have := HN.out; omega)])
     clear HH
     cases h0
     ·have HP2 : Hid (part l (k + 1) = s) := Lib.hid (by rw [HPN.out, ← HE.out, ← HS.out]; rfl)
      have HI2 : Hid (inP l e.kind (k + 1) = d) := Lib.hid (by rw [HIN.out, ← HE.out, ← HD.out]; simp)
      go_wp2_with fail
      go_roundw
      case rel => exact ⟨k + 1, by go_num, by rw [HP2.out], by rw [HI2.out], by omega, by omega, trivial⟩
      case measure => simp [intOf]; omega
     ·have HP2 : Hid (part l (k + 1) = s + 2 ^ k) := Lib.hid (by rw [HPN.out, ← HE.out, ← HS.out]; rfl)
      have HI2 : Hid (inP l e.kind (k + 1) = (d || (e.kind == (k : Int)))) := Lib.hid (by rw [HIN.out, ← HE.out, ← HD.out, Bool.eq_iff_iff]; simp)
      have y1 := HK.out.g1
      obtain rfl | rfl | rfl | rfl | rfl | rfl : k = 2 ∨ k = 3 ∨ k = 4 ∨ k = 5 ∨ k = 6 ∨ k = 7 := by omega
      ·have hP : ((part l 3 : Nat) : Int) = (s : Int) + 4 := by rw [HP2.out]; simp
       have HPP := Lib.hid hP
       clear hP
       cases d
       ·have HJ : Hid (inP l e.kind 3 = (e.kind == 2)) := Lib.hid (by rw [HI2.out]; rfl)
        go_wp2_with fail
        go_roundw
        case rel => exact ⟨3, rfl, by rw [HPP.out], by rw [HJ.out], by omega, by omega, trivial⟩
        case measure => simp [intOf]
       ·have HJ : Hid (inP l e.kind 3 = true) := Lib.hid (by rw [HI2.out]; rfl)
        go_wp2_with fail
        go_roundw
        case rel => exact ⟨3, rfl, by rw [HPP.out], by rw [HJ.out], by omega, by omega, trivial⟩
        case measure => simp [intOf]
      ·have hP : ((part l 4 : Nat) : Int) = (s : Int) + 8 := by rw [HP2.out]; simp
       have HPP := Lib.hid hP
       clear hP
       cases d
       ·have HJ : Hid (inP l e.kind 4 = (e.kind == 3)) := Lib.hid (by rw [HI2.out]; rfl)
        go_wp2_with fail
        go_roundw
        case rel => exact ⟨4, rfl, by rw [HPP.out], by rw [HJ.out], by omega, by omega, trivial⟩
        case measure => simp [intOf]
       ·have HJ : Hid (inP l e.kind 4 = true) := Lib.hid (by rw [HI2.out]; rfl)
        go_wp2_with fail
        go_roundw
        case rel => exact ⟨4, rfl, by rw [HPP.out], by rw [HJ.out], by omega, by omega, trivial⟩
        case measure => simp [intOf]
      ·have hP : ((part l 5 : Nat) : Int) = (s : Int) + 16 := by rw [HP2.out]; simp
       have HPP := Lib.hid hP
       clear hP
       cases d
       ·have HJ : Hid (inP l e.kind 5 = (e.kind == 4)) := Lib.hid (by rw [HI2.out]; rfl)
        go_wp2_with fail
        go_roundw
        case rel => exact ⟨5, rfl, by rw [HPP.out], by rw [HJ.out], by omega, by omega, trivial⟩
        case measure => simp [intOf]
       ·have HJ : Hid (inP l e.kind 5 = true) := Lib.hid (by rw [HI2.out]; rfl)
        go_wp2_with fail
        go_roundw
        case rel => exact ⟨5, rfl, by rw [HPP.out], by rw [HJ.out], by omega, by omega, trivial⟩
        case measure => simp [intOf]
      ·have hP : ((part l 6 : Nat) : Int) = (s : Int) + 32 := by rw [HP2.out]; simp
       have HPP := Lib.hid hP
       clear hP
       cases d
       ·have HJ : Hid (inP l e.kind 6 = (e.kind == 5)) := Lib.hid (by rw [HI2.out]; rfl)
        go_wp2_with fail
        go_roundw
        case rel => exact ⟨6, rfl, by rw [HPP.out], by rw [HJ.out], by omega, by omega, trivial⟩
        case measure => simp [intOf]
       ·have HJ : Hid (inP l e.kind 6 = true) := Lib.hid (by rw [HI2.out]; rfl)
        go_wp2_with fail
        go_roundw
        case rel => exact ⟨6, rfl, by rw [HPP.out], by rw [HJ.out], by omega, by omega, trivial⟩
        case measure => simp [intOf]
      ·have hP : ((part l 7 : Nat) : Int) = (s : Int) + 64 := by rw [HP2.out]; simp
       have HPP := Lib.hid hP
       clear hP
       cases d
       ·have HJ : Hid (inP l e.kind 7 = (e.kind == 6)) := Lib.hid (by rw [HI2.out]; rfl)
        go_wp2_with fail
        go_roundw
        case rel => exact ⟨7, rfl, by rw [HPP.out], by rw [HJ.out], by omega, by omega, trivial⟩
        case measure => simp [intOf]
       ·have HJ : Hid (inP l e.kind 7 = true) := Lib.hid (by rw [HI2.out]; rfl)
        go_wp2_with fail
        go_roundw
        case rel => exact ⟨7, rfl, by rw [HPP.out], by rw [HJ.out], by omega, by omega, trivial⟩
        case measure => simp [intOf]
      ·have hP : ((part l 8 : Nat) : Int) = (s : Int) + 128 := by rw [HP2.out]; simp
       have HPP := Lib.hid hP
       clear hP
       cases d
       ·have HJ : Hid (inP l e.kind 8 = (e.kind == 7)) := Lib.hid (by rw [HI2.out]; rfl)
        go_wp2_with fail
        go_roundw
        case rel => exact ⟨8, rfl, by rw [HPP.out], by rw [HJ.out], by omega, by omega, trivial⟩
        case measure => simp [intOf]
       ·have HJ : Hid (inP l e.kind 8 = true) := Lib.hid (by rw [HI2.out]; rfl)
        go_wp2_with fail
        go_roundw
        case rel => exact ⟨8, rfl, by rw [HPP.out], by rw [HJ.out], by omega, by omega, trivial⟩
        case measure => simp [intOf]
  obtain rfl : k = 8 := by omega
  have d2 : decide ((8 : Int) ≤ 7) = false := by decide
  obtain ⟨m, hm⟩ : ∃ m, m = wantK l := ⟨_, rfl⟩
  obtain rfl : s = m := by rw [HS.out, hm, part_end]
  have HM := Lib.hid hm
  have HMK : Hid (s ≠ 0 → matchFl ⟨⟨#[]⟩, [], (s : Nat)⟩ e = (d && mayE e)) := Lib.hid fun hne => by rw [hm, HD.out]; exact match_kinds l e (by rw [← hm]; exact hne)
  have hs256 : s < 256 := by omega
  have e4 : ((s : Int) != (s : Int)) = false := by simp
  clear hm
  cases A with
  | none =>
   obtain ⟨rfl, rfl⟩ := HO.out rfl
   obtain rfl : n = 0 := HN.out
   have hbx : Below wr.heap.size wr (wr.alloc (.cells #[] 3)) := below_box _
   obtain ⟨w5, hw5⟩ : ∃ W, W = wr.alloc (.cells #[] 3) := ⟨_, rfl⟩
   rw [← hw5] at hbx
   have HX := Lib.hid hbx
   clear hbx
   go_wp2_with fail
   rw [← hw5]
   clear hw5
   refine (fof_any (fun _ => True) _ 0 [] w5 (fun hp => absurd hp (by simp)) (by simp)).mono ?_
   rintro q u ⟨rfl, hw⟩
   replace hw := hw.symm
   subst hw
   rw [← HM.out]
   have hb := HX.out
   have HB := Lib.hid (HB.out.trans (hb.mono HB.out.size))
   have HK := Lib.hid (HK.out.below hb)
   have HA := Lib.hid (HA.out.up hb)
   clear hb
   go_wp2_with fail
   refine (lives19_any _).mono ?_
   rintro q w6 ⟨rfl, hb⟩
   have HB := Lib.hid (HB.out.trans (hb.mono HB.out.size))
   have HK := Lib.hid (HK.out.below hb)
   have HA := Lib.hid (HA.out.up hb)
   clear hb
   by_cases hz : s = 0
   ·have e5 : ((s : Int) == 0) = true := by simp [hz]
    clear hz
    go_wp2_with fail
    go_ret
    exact ⟨rfl, HB.out⟩
   have e5 : ((s : Int) == 0) = false := beq_false_of_ne (by omega)
   have HMM := Lib.hid (HMK.out hz)
   clear hz
   go_wp2_with (refine wpList_load_ent (by rfl) _ rfl w.heap.size rfl _ _ HK.out rfl ?_; simp only [acR, Act.put])
   refine (fmatch_any (fun b => b < w6.heap.size) ⟨⟨#[]⟩, [], (s : Nat)⟩ none 0 e _ w6 (fun b hb => hb) (fil_at _ _ ⟨#[]⟩ (s : Nat) (by unfold Rng; omega) (by decide)) HA.out.l HSM.out).mono ?_
   rintro q w7 ⟨rfl, hb⟩
   rw [HMM.out]
   have HB := Lib.hid (HB.out.trans (hb.mono HB.out.size))
   have HK := Lib.hid (HK.out.below hb)
   have HA := Lib.hid (HA.out.up hb)
   clear hb HD HMM HMK
   cases d
   ·go_wp2_with fail
    go_ret
    exact ⟨by simp, HB.out⟩
   go_wp2_with (refine wpList_load_ent (by rfl) _ rfl w.heap.size rfl _ _ HK.out rfl ?_; simp only [acR, Act.put])
   refine (r13may_any (fun b => b < w7.heap.size) e _ w7 (fun b hb => hb) HA.out.l HSM.out).mono ?_
   rintro q w8 ⟨rfl, hb⟩
   have HB := Lib.hid (HB.out.trans (hb.mono HB.out.size))
   clear hb
   generalize mayE e = mm
   have e6 : (mm == mm) = true := by simp
   go_wp2_with fail
   go_ret
   exact ⟨by simp, HB.out⟩
  | some ad =>
   obtain ⟨i0, hi, hz0, hz1, hz2⟩ := info_parts Tryz.infoI
   have hxs : ∀ j u, (l.map fun x => Value.int .i64 x)[j]? = some u → wr.cell? (ad.add j) = some u := fun j u hu => by
    simp only [List.getElem?_map, Option.map_eq_some_iff] at hu
    obtain ⟨x, hx, rfl⟩ := hu
    obtain ⟨hjl, hx⟩ := List.getElem?_eq_some_iff.1 hx
    obtain ⟨b, off, hA, -, hc, -⟩ := IntsL.at HI.out j hjl
    injection hA with hA
    subst hA
    rw [add_at, hc, hx]
   have HRG : Hid (∀ x ∈ l, Rng x) := Lib.hid fun x hx => by
    obtain ⟨i, hi, rfl⟩ := List.getElem_of_mem hx
    exact (IntsL.at HI.out i hi).choose_spec.choose_spec.2.2.2
   have HNX : Hid (∀ j u, (l.map fun x => Value.int .i64 x)[j]? = some u → (wr.alloc (.cells #[] 3)).cell? (ad.add j) = some u) := Lib.hid fun j u hu => by
    have h2 := hxs j u hu
    exact (World.cell?_of_block (Below.heap_alloc wr _ _ (World.block_lt_of_cell? wr _ h2))).trans h2
   have HW0 : Hid ((wr.alloc (.cells #[] 3)).ownsRow wr.heap.size 3 1 (.slice (some ⟨wr.heap.size, 0, none⟩) 0 0) 0 []) := Lib.hid (World.ownsRow_made wr #[] 0 (Nat.le_refl _) (by decide) rfl)
   have HX0 : Hid (Below wr.heap.size wr (wr.alloc (.cells #[] 3))) := Lib.hid (below_box _)
   clear hxs
   go_wp2_with (at_builtin; refine wpList_append_own _ rfl _ _ 37 rfl wr.heap.size 3 i0 _ 1 8 Tryz.underlying37 hi hz0 hz1 hz2 rfl (by decide) (.slice (some ⟨wr.heap.size, 0, none⟩) 0 0) 0 [] rfl HW0.out ad n c (l.map fun x => Value.int .i64 x) rfl (by rw [List.length_map, HN.out, Nat.mul_one]) HNX.out (fun u hu => by obtain ⟨x, -, rfl⟩ := List.mem_map.1 hu; rfl) (by unfold maxLen; omega) (by omega) (by simp) ?_; intro v' w5 hv' hg' hnil'; have HVV := Lib.hid hv'; have HX : Hid (Below wr.heap.size wr w5) := Lib.hid (HX0.out.grown hg' (by simp) (fun k hk => by simp [Value.ownBlock] at hk; omega)); clear hv' hg' hnil')
   have hv := HVV.out
   rw [List.nil_append, Nat.zero_add, HN.out] at hv
   obtain ⟨VA, vc, rfl, hvi⟩ := ints_of hv HRG.out
   have HOF := Lib.hid (fof_any (fun _ => True) VA vc l w5 hvi (by have := HN.out; omega))
   clear hv hvi HVV HNX HW0 HX0
   refine HOF.out.mono ?_
   rintro q u ⟨rfl, hw⟩
   replace hw := hw.symm
   subst hw
   rw [← HM.out]
   have hb := HX.out
   have HB := Lib.hid (HB.out.trans (hb.mono HB.out.size))
   have HK := Lib.hid (HK.out.below hb)
   have HA := Lib.hid (HA.out.up hb)
   clear hb
   go_wp2_with fail
   refine (lives19_any _).mono ?_
   rintro q w6 ⟨rfl, hb⟩
   have HB := Lib.hid (HB.out.trans (hb.mono HB.out.size))
   have HK := Lib.hid (HK.out.below hb)
   have HA := Lib.hid (HA.out.up hb)
   clear hb
   by_cases hz : s = 0
   ·have e5 : ((s : Int) == 0) = true := by simp [hz]
    clear hz
    go_wp2_with fail
    go_ret
    exact ⟨rfl, HB.out⟩
   have e5 : ((s : Int) == 0) = false := beq_false_of_ne (by omega)
   have HMM := Lib.hid (HMK.out hz)
   clear hz
   go_wp2_with (refine wpList_load_ent (by rfl) _ rfl w.heap.size rfl _ _ HK.out rfl ?_; simp only [acR, Act.put])
   refine (fmatch_any (fun b => b < w6.heap.size) ⟨⟨#[]⟩, [], (s : Nat)⟩ none 0 e _ w6 (fun b hb => hb) (fil_at _ _ ⟨#[]⟩ (s : Nat) (by unfold Rng; omega) (by decide)) HA.out.l HSM.out).mono ?_
   rintro q w7 ⟨rfl, hb⟩
   rw [HMM.out]
   have HB := Lib.hid (HB.out.trans (hb.mono HB.out.size))
   have HK := Lib.hid (HK.out.below hb)
   have HA := Lib.hid (HA.out.up hb)
   clear hb HD HMM HMK
   cases d
   ·go_wp2_with fail
    go_ret
    exact ⟨by simp, HB.out⟩
   go_wp2_with (refine wpList_load_ent (by rfl) _ rfl w.heap.size rfl _ _ HK.out rfl ?_; simp only [acR, Act.put])
   refine (r13may_any (fun b => b < w7.heap.size) e _ w7 (fun b hb => hb) HA.out.l HSM.out).mono ?_
   rintro q w8 ⟨rfl, hb⟩
   have HB := Lib.hid (HB.out.trans (hb.mono HB.out.size))
   clear hb
   generalize mayE e = mm
   have e6 : (mm == mm) = true := by simp
   go_wp2_with fail
   go_ret
   exact ⟨by simp, HB.out⟩
set_option maxRecDepth 100000 in
theorem lifted (os : Os) (started : os.Started) (H : Type) (enc : TypeId × Value → H) :
  ReturnsInHanded {} Tryz.checked os 6 .any (Rows.filterKindsSpec.pre6 enc Tryz.prog Tryz.f6 Rows.filterKindsRow.domain false) (Rows.filterKindsSpec.post enc Tryz.prog Tryz.f6 false true false false) := by
 refine returnsInHanded_of_change_sized (C := Tryz.checked) own started (by kernel_rfl) Tryz.func6
  (ChangeSpec.witness6 (enc := enc) (C := Tryz.checked) false ⟨#[], #[.slice none 0 0, .agg #[.int .i64 0, .int .i64 0, .string ByteArray.empty, .string ByteArray.empty, .int .i64 0, .int .i64 0, .string ByteArray.empty, .slice none 0 0, .slice none 0 0, .int .i64 0, .int .i64 0, .string ByteArray.empty, .slice none 0 0, .slice none 0 0, .slice none 0 0, .int .i64 0, .int .i64 0]], []⟩ 8 (by kernel_rfl) (by kernel_rfl) (by kernel_rfl) (by kernel_rfl)) ?_
 intro W base args ds gs before hval0 hW hcnd hsz0 _
 have hval : ∀ (j : Nat) t v, Tryz.f6.params[j]? = some t → args[j]? = some v → Value.okWide Tryz.prog W .any base t v := hval0
 have hsz : (DataW.weightsEach Tryz.prog (Tryz.f6.params.toList ++ Rows.filterKindsSpec.plain.varTypes Tryz.prog) (ds ++ gs)).all (· ≤ reachBytes) = true := hsz0
 have hW' := hW
 obtain ⟨p, q, hA0, hV, rfl, hfz, hnd⟩ := hW
 have hA : DataW.TrodAll enc Tryz.prog W 0 (fun _ => true) true Tryz.f6.params.toList args.toList ds p := hA0
 rw [Tryz.params6] at hA hval hsz
 obtain ⟨v0, v1, d0, d1, p0, p1, rfl, rfl, rfl, h0, h1⟩ := trodAll_two hA
 obtain ⟨rfl, rfl⟩ := trodVars_none hV
 obtain ⟨A0, n0, c0, rfl⟩ := okWide_slice Tryz.underlying37 (hval 0 37 v0 rfl rfl)
 have k0 := h0
 have lt0 : ∀ x ∈ p0, x.block < W.heap.size := by obtain ⟨m, hm⟩ := k0; exact DataW.trod_lt m _ _ _ hm
 have wt0 : ∀ n ∈ d0.weights Tryz.prog 37, n ≤ reachBytes := fun n hn => by have := List.all_eq_true.1 hsz n (DataW.weights_mem_each (j := 0) rfl rfl n hn); simpa using this
 obtain ⟨a1, rfl, -⟩ := okWide_struct Tryz.underlying30 (hval 1 30 v1 rfl rfl)
 have k1 := h1
 have lt1 : ∀ x ∈ p1, x.block < W.heap.size := by obtain ⟨m, hm⟩ := k1; exact DataW.trod_lt m _ _ _ hm
 have wt1 : ∀ n ∈ d1.weights Tryz.prog 30, n ≤ reachBytes := fun n hn => by have := List.all_eq_true.1 hsz n (DataW.weights_mem_each (j := 1) rfl rfl n hn); simpa using this
 clear hA0 hval0
 obtain ⟨xs0, hn0, ho0, hl0, hxs0⟩ : ∃ xs : List Int, n0 = xs.length ∧ (A0 = none → c0 = 0 ∧ xs = []) ∧ xs.length ≤ 17592186044416 ∧ IntsL W (fun b => b < W.heap.size) A0 xs := by
  obtain ⟨m, hm⟩ := k0
  obtain ⟨B, e, xs, he, g0, g1, g2⟩ := open_ints hm wt0
  have he' : [Value.slice A0 n0 c0] = [Value.slice B xs.length e] := he
  simp only [List.cons.injEq, Value.slice.injEq, and_true] at he'
  obtain ⟨rfl, rfl, rfl⟩ := he'
  exact ⟨xs, rfl, g0, g1, g2⟩
 subst hn0
 obtain ⟨en1, hen1⟩ : ∃ e : EntT, EntL W (fun b => b < W.heap.size) e a1 := by
  obtain ⟨m, hm⟩ := k1
  obtain ⟨s, h3⟩ := open_ent hm wt1
  exact ⟨s, by simpa [Value.cells] using h3⟩
 refine (walk A0 c0 xs0 en1 a1 W ho0 hxs0 hl0 hen1).mono fun e W' ⟨he, bel⟩ => ?_
 subst he
 exact ⟨_, rfl, _, _, _, [], _, [], hW', trodAll_mk1 (shut_bool Tryz.underlying4 _), trodAll_mk2 (Below.trod laidOut (by kernel_rfl) (of_decide_eq_true (by kernel_rfl)) k0 bel lt0) (Below.trod laidOut (by kernel_rfl) (of_decide_eq_true (by kernel_rfl)) k1 bel lt1), rfl, bel.frame _, fun h => by cases h⟩

theorem proved : Rows.FilterKindsSaid :=
 OpenClaim.holds_of_wide 6 Tryz.f6 rfl rfl rfl rfl rfl rfl rfl ⟨rfl, rfl, rfl, rfl, rfl⟩ rfl rfl rfl rfl rfl (by kernel_rfl) Tryz.func6 (by kernel_rfl)
  (of_decide_eq_true (by kernel_rfl)) (by unfold Func.isWrapper; first | (rw [if_pos (by decide +kernel)]; kernel_rfl) | (rw [if_neg (by decide +kernel)]; exact ⟨rfl, rfl⟩))
  (fun os started H enc _ => lifted os started H enc)

end Go.Proofs.YtlipkmdjpligeaaGreat.FKinds
