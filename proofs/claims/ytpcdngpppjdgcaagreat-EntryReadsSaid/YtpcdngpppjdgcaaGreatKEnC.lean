/- Layer 13, plain: an entry that was read has that code. -/
import Derived.Test.YtpcdngpppjdgcaaGreatKDlU
import Derived.Test.YtpcdngpppjdgcaaGreatKTrI
import Derived.Test.YtpcdngpppjdgcaaGreatKValO
import Derived.Test.YtpcdngpppjdgcaaGreatKRdK
import Derived.Test.YtpcdngpppjdgcaaGreatKRegR
import Derived.Test.YtpcdngpppjdgcaaGreatKMath
import Derived.Deep.Slices
import Derived.SliceStrings
import Derived.SizedLaws
import Derived.Lib.SmallJoins
import Derived.Laws.Rows
import Derived.Deep.MidRow
namespace Go.Proofs.YtpcdngpppjdgcaaGreat
set_option linter.unusedVariables false
set_option linter.unusedSimpArgs false
set_option maxRecDepth 100000
structure RdI {α : Type} (f : Option (List UInt8) → α × Option (List UInt8)) (c : α → List UInt8) : Prop where
 bad : (f none).2 = none
 inv : ∀ l a r, l.length ≤ 9223372036854775807 → f (some l) = (a, some r) → l = c a ++ r
theorem RdI.back {α : Type} {f : Option (List UInt8) → α × Option (List UInt8)} {c : α → List UInt8} (h : RdI f c) {st : Option (List UInt8)} {r : List UInt8} (e : (f st).2 = some r) : ∃ l, st = some l ∧ (l.length ≤ 9223372036854775807 → l = c (f st).1 ++ r) := by
 cases st with
 | none => rw [h.bad] at e; cases e
 | some l => exact ⟨l, rfl, fun hl => h.inv l _ r hl (Prod.ext rfl e)⟩
theorem count_none (n : Int) : rdCount n none = (0, none) := by unfold rdCount; split <;> rfl
theorem rdi_count {m : Nat} (hm : m ≤ 4611686018427387904) : RdI (rdCount (m : Int)) grp := ⟨by rw [count_none], fun l a r _ h => (rdCount_inv hm h).1⟩
theorem rdi_byte : RdI rdByte fun k => [UInt8.ofNat k] := ⟨rfl, fun l a r _ h => (rdByte_inv h).1⟩
theorem rdi_text : RdI (rdTextB 32) txt := ⟨rdText_none 32, fun l a r _ h => by
 unfold rdTextB at h
 injection h with h1 h2
 have := (rdText_inv (m := 32) (l := l) (r := r) (x := (rdText 32 (some l)).1) (by omega) (Prod.ext rfl h2)).1
 rw [← h1]
 exact this⟩
theorem rdi_val : RdI readO encO := ⟨rfl, fun l a r hl h => (readO_inv hl h).1⟩
theorem rdDK_nn : ∀ k, (rdDK none k).2 = none
 | 0 => rfl
 | k + 1 => by unfold rdDK; dsimp only; rw [rdDK_nn k]; exact rdD_nn
theorem rdi_dels : RdI rdDl codeDs := ⟨by rw [rdDl_none (by rw [count_none]; exact rdDK_nn _)], fun l a r hl h => (rdDl_inv hl h).1⟩
theorem rdi_opt {α : Type} {b : Bool} {z : α} {f : Option (List UInt8) → α × Option (List UInt8)} {c : α → List UInt8} (h : RdI f c) : RdI (optR b z f) fun a => if b = true then c a else [] := by
 cases b with
 | true => exact ⟨h.bad, h.inv⟩
 | false => exact ⟨rfl, fun l a r _ e => by
   injection e with e1 e2
   injection e2 with e2⟩
theorem rdE1_inv {l r : List UInt8} {e : EntT} (hl : l.length ≤ 9223372036854775807) (h : rdE1 (some l) = (e, some r)) : l = codeE e ++ r := by
 unfold rdE1 at h
 dsimp only at h
 generalize hA : rdCount 1099511627776 (some l) = a at h
 generalize hK : rdByte a.2 = k at h
 generalize hS : rdCount 255 k.2 = s at h
 generalize hN : rdCount 1099511627776 s.2 = n at h
 generalize hC : optR (hasColl k.1) ⟨#[]⟩ (rdTextB 32) n.2 = c at h
 generalize hT : optR (hasTo k.1) ⟨#[]⟩ (rdTextB 32) c.2 = t at h
 generalize hI : optR (hasId k.1) noneV readO t.2 = i at h
 generalize hD : optR (hasDoc k.1) noneV readO i.2 = d at h
 generalize hL : optR (hasDels k.1) [] rdDl d.2 = x at h
 injection h with he hr
 obtain ⟨l8, e8, c8⟩ := (rdi_opt (b := hasDels k.1) (z := []) rdi_dels).back (st := d.2) (r := r) (by rw [hL]; exact hr)
 obtain ⟨l7, e7, c7⟩ := (rdi_opt (b := hasDoc k.1) (z := noneV) rdi_val).back (st := i.2) (r := l8) (by rw [hD]; exact e8)
 obtain ⟨l6, e6, c6⟩ := (rdi_opt (b := hasId k.1) (z := noneV) rdi_val).back (st := t.2) (r := l7) (by rw [hI]; exact e7)
 obtain ⟨l5, e5, c5⟩ := (rdi_opt (b := hasTo k.1) (z := ⟨#[]⟩) rdi_text).back (st := c.2) (r := l6) (by rw [hT]; exact e6)
 obtain ⟨l4, e4, c4⟩ := (rdi_opt (b := hasColl k.1) (z := ⟨#[]⟩) rdi_text).back (st := n.2) (r := l5) (by rw [hC]; exact e5)
 obtain ⟨l3, e3, c3⟩ := (rdi_count (m := 1099511627776) (by omega)).back (st := s.2) (r := l4) (by rw [show ((1099511627776 : Nat) : Int) = 1099511627776 from rfl, hN]; exact e4)
 obtain ⟨l2, e2, c2⟩ := (rdi_count (m := 255) (by omega)).back (st := k.2) (r := l3) (by rw [show ((255 : Nat) : Int) = 255 from rfl, hS]; exact e3)
 obtain ⟨l1, e1, c1⟩ := rdi_byte.back (st := a.2) (r := l2) (by rw [hK]; exact e2)
 obtain ⟨l0, e0, c0⟩ := (rdi_count (m := 1099511627776) (by omega)).back (st := some l) (r := l1) (by rw [show ((1099511627776 : Nat) : Int) = 1099511627776 from rfl, hA]; exact e1)
 injection e0 with e0
 subst e0
 rw [show ((1099511627776 : Nat) : Int) = 1099511627776 from rfl, hA] at c0
 rw [hK] at c1
 rw [show ((255 : Nat) : Int) = 255 from rfl, hS] at c2
 rw [show ((1099511627776 : Nat) : Int) = 1099511627776 from rfl, hN] at c3
 rw [hC] at c4
 rw [hT] at c5
 rw [hI] at c6
 rw [hD] at c7
 rw [hL] at c8
 have f0 := c0 hl
 have g1 : l1.length ≤ 9223372036854775807 := by have := congrArg List.length f0; rw [List.length_append] at this; omega
 have f1 := c1 g1
 have g2 : l2.length ≤ 9223372036854775807 := by have := congrArg List.length f1; rw [List.length_append] at this; omega
 have f2 := c2 g2
 have g3 : l3.length ≤ 9223372036854775807 := by have := congrArg List.length f2; rw [List.length_append] at this; omega
 have f3 := c3 g3
 have g4 : l4.length ≤ 9223372036854775807 := by have := congrArg List.length f3; rw [List.length_append] at this; omega
 have f4 := c4 g4
 have g5 : l5.length ≤ 9223372036854775807 := by have := congrArg List.length f4; rw [List.length_append] at this; omega
 have f5 := c5 g5
 have g6 : l6.length ≤ 9223372036854775807 := by have := congrArg List.length f5; rw [List.length_append] at this; omega
 have f6 := c6 g6
 have g7 : l7.length ≤ 9223372036854775807 := by have := congrArg List.length f6; rw [List.length_append] at this; omega
 have f7 := c7 g7
 have g8 : l8.length ≤ 9223372036854775807 := by have := congrArg List.length f7; rw [List.length_append] at this; omega
 have f8 := c8 g8
 rw [← he]
 unfold codeE
 simp only [Int.toNat_natCast, List.append_assoc]
 rw [← f8, ← f7, ← f6, ← f5, ← f4, ← f3, ← f2, ← f1, ← f0]
theorem rdE_inv {l r : List UInt8} {e : EntT} (hl : l.length ≤ 9223372036854775807) (h : rdE (some l) = (e, some r)) : l = codeE e ++ r ∧ mayE e = true := by
 unfold rdE at h
 cases hx : (rdE1 (some l)).2 with
 | none => rw [hx] at h; injection h with h1 h2; cases h2
 | some q =>
  rw [hx] at h
  dsimp only at h
  by_cases hm : mayE (rdE1 (some l)).1 = true
  ·rw [if_pos hm] at h
   injection h with h1 h2
   injection h2 with h2
   subst h2
   rw [← h1]
   exact ⟨rdE1_inv hl (Prod.ext rfl hx), hm⟩
  ·rw [if_neg hm] at h
   injection h with h1 h2
   cases h2
end Go.Proofs.YtpcdngpppjdgcaaGreat

/- A copy of a list of changes, by the program. -/
namespace Go.Proofs.YtpcdngpppjdgcaaGreat
open Lib (hid)
set_option linter.unusedVariables false
set_option linter.unusedSimpArgs false
open Go.RowKit
set_option maxRecDepth 100000
theorem DBox.call {w w' : World} {p : Nat} {c0 c1 c2 c3 c4 c5 c6 c7 : Value} (h : DBox w p c0 c1 c2 c3 c4 c5 c6 c7) (hb : Below w.heap.size w w') : DBox w' p c0 c1 c2 c3 c4 c5 c6 c7 := (hb.block p h.lt).trans h
theorem below_set {B p i : Nat} {w w' : World} {u : Value} (h : Below B w w') (hp : B ≤ p) : Below B w (w'.setCell ⟨p, i, none⟩ u) := ⟨h.os, h.tape, h.output, by simp; exact h.size, fun b hb => (heap_setCell_other _ ⟨p, i, none⟩ b _ (by show b ≠ p; omega)).trans (h.block b hb)⟩
theorem below_five {B p o : Nat} {w w' : World} {c0 c1 c2 c3 c4 : Value} (h : Below B w w') (hp : B ≤ p) : Below B w (five w' p o c0 c1 c2 c3 c4) :=
 ⟨(five_rest _ _ _ _ _ _ _ _).1.trans h.os, (five_rest _ _ _ _ _ _ _ _).2.1.trans h.tape, (five_rest _ _ _ _ _ _ _ _).2.2.trans h.output, by rw [five_size]; exact h.size, fun b hb => (five_other _ _ _ _ _ _ _ _ b (by omega)).trans (h.block b hb)⟩
set_option maxHeartbeats 16000000 in
theorem dlclone_new (S : Nat → Prop) (A : Option Addr) (c : Nat) (l : List DelT) (w : World) (hS : ∀ b, S b → b < w.heap.size) (h : DelsL w S A l) (hA : A = none → c = 0 ∧ l = []) (hl : l.length ≤ 1099511627776) :
  Calls Tryz.prog 56 #[.slice A l.length c] w fun e w' => ∃ A' c', e = .returned (.slice A' l.length c') ∧ (A' = none → c' = 0) ∧ l.length ≤ c' ∧ DelsL w' (fun b => b < w'.heap.size ∧ (S b ∨ w.heap.size ≤ b)) A' l ∧ Below w.heap.size w w' := by
 have HC := hid (slCloneD_any S A c l w hS h hA hl)
 have HS := hid hS
 have HA := hid h
 obtain ⟨n, hn⟩ : ∃ n, n = l.length := ⟨_, rfl⟩
 have HN := hid hn
 rw [← hn] at HC hl ⊢
 clear hS h hA hn
 go_enter Tryz.func56, Tryz.ntmps56
 go_wp2_with fail
 refine HC.out.mono ?_
 rintro e w1 ⟨v, rfl, ⟨xs, hv, hx⟩, hb⟩
 obtain ⟨A', c', rfl, hA', hc'⟩ := own_slice hv
 have HB := hid hb
 have HV := hid hv
 have HX := hid hx
 have HAC := hid (And.intro hA' hc')
 clear hb hv hx hA' hc' HC
 go_wp2_with fail
 by_cases hp : 0 < n
 ·obtain ⟨g, cap, e⟩ := row_pos HV.out hp
  injection e with e1 e2 e3
  subst e1 e3
  have hg : w.heap.size ≤ g := (World.ownsRow.lt HV.out g rfl).1
  have HG := hid hg
  have HR1 : Hid (RowD (fun b => S b ∨ w.heap.size ≤ b) w1 g l) := hid (RowD.of HV.out HN.out HX.out (fun b hb => by
   have := HS.out b hb
   exact ⟨Nat.lt_of_lt_of_le this HB.out.size, by omega, .inl hb⟩))
  clear HV HX e2 hg
  go_loopw [10] (fun i wr => ∃ k : Nat, i = .int .i64 k ∧ k ≤ n ∧ Hid (Below w.heap.size w wr) ∧ Hid (RowD (fun b => S b ∨ w.heap.size ≤ b) wr g l)) (fun i _ => n - (intOf i).toNat)
  case atStart => exact ⟨0, rfl, by omega, HB, HR1⟩
  case round =>
   clear HB HR1
   obtain ⟨k, rfl, hk, HB, HR⟩ := hrel
   by_cases hlt : k < n
   ·have d1 : decide ((k : Int) < (n : Int)) = true := decide_eq_true (by omega)
    have hkl : k < l.length := by have := HN.out; omega
    obtain ⟨bp, off, PA, pc, VA, vc, VA', vc', rfl, hbp, hd, x0, x1, x2, x3, x4, x5, x6, x7⟩ := (HA.out.below HS.out HB.out).cells k hkl
    have hbp2 : bp < wr.heap.size := Nat.lt_of_lt_of_le (HS.out bp hbp) HB.out.size
    obtain ⟨w4, hw4⟩ : ∃ W, W = wr.alloc (.cells #[.int .i64 l[k].kind, .slice PA l[k].path.length pc, .int .i64 l[k].val.kind, .int .i64 l[k].val.num, .string l[k].val.text, .slice VA l[k].val.items.length vc, .slice VA' l[k].val.names.length vc', .int .i64 l[k].num] 95) := ⟨_, rfl⟩
    have hb4 : Below wr.heap.size wr w4 := by rw [hw4]; exact below_box _
    have hq4 := DBox.new wr (.int .i64 l[k].kind) (.slice PA l[k].path.length pc) (.int .i64 l[k].val.kind) (.int .i64 l[k].val.num) (.string l[k].val.text) (.slice VA l[k].val.items.length vc) (.slice VA' l[k].val.names.length vc') (.int .i64 l[k].num)
    rw [← hw4] at hq4
    have hz4 : w4.heap.size = wr.heap.size + 1 := by rw [hw4]; simp
    have HD4 := hid (hd.below (fun b hb => Nat.lt_of_lt_of_le (HS.out b hb) HB.out.size) hb4)
    have HR4 := hid (HR.out.call hb4)
    have HB4 := hid (HB.out.trans (hb4.mono HB.out.size))
    have HQ4 := hid hq4
    have HW4 := hid hw4
    have hgr := HR.out.lt
    have HGR := hid hgr
    have HC5 := hid (by
     obtain ⟨PB, pd, VB, vd, VB', vd', e, -, q1, q2, q3, -, -, q4⟩ := HD4.out
     simp only [Array.mk.injEq, List.cons.injEq, Value.slice.injEq, and_true, true_and] at e
     obtain ⟨⟨rfl, rfl⟩, ⟨rfl, rfl⟩, rfl, rfl⟩ := e
     exact cloneS_all S PA pc l[k].path w4 q1 (fun b hb => Nat.lt_of_lt_of_le (HS.out b hb) HB4.out.size) q3 q4)
    clear hd hb4 hq4 hz4 hbp hgr
    go_wp2_with fail
    rw [← hw4]
    refine HC5.out.mono ?_
    rintro e w5 ⟨v5, rfl, hv5, hb5⟩
    obtain ⟨PB, pd, e5, hP0, hP1⟩ := own_slice hv5
    subst e5
    have HR5 := hid (HR4.out.call hb5)
    have HQ5 := hid (HQ4.out.call hb5)
    have HB5 := hid (HB4.out.trans (hb5.mono HB4.out.size))
    have HD5 := hid (HD4.out.below (fun b hb => Nat.lt_of_lt_of_le (HS.out b hb) HB4.out.size) hb5)
    have hpl5 : l[k].path.length ≤ 8796093021952 := by
     obtain ⟨PB, pd, VB, vd, VB', vd', e, -, q1, q2, q3, -, -, q4⟩ := HD4.out
     exact q4
    have HV5 : Hid (SlP w5 (fun b => b < w5.heap.size ∧ b ≠ g ∧ (S b ∨ w.heap.size ≤ b)) (.slice PB l[k].path.length pd) l[k].path) := hid (by
     obtain ⟨PC, pe, e, h1, h2⟩ := hv5.opens (fun s hs => by
      obtain ⟨PB, pd, VB, vd, VB', vd', e, -, q1, -⟩ := HD4.out
      obtain ⟨i, hi, rfl⟩ := List.mem_iff_getElem.1 hs
      obtain ⟨_, _, _, _, hc⟩ := q1 (by omega)
      exact (hc i hi).2)
     injection e with e1 e2 e3
     subst e1 e3
     exact ⟨_, _, rfl, h2.imp fun b hb => ⟨hb.2, by have := HR4.out.lt; have := hb.1; omega, .inr (by have := HB4.out.size; have := hb.1; omega)⟩, h1, by omega⟩)
    have HP0 := hid hP0
    obtain ⟨u1, z1⟩ := HR5.out.cell k hkl 1 (by omega)
    have zf := fun i => HR5.out.free i
    have hne : wr.heap.size ≠ g := by have := HGR.out; omega
    have hQ6 := HQ5.out.other g (k * 8 + 1) (.slice PB l[k].path.length pd) hne
    have y2 := hQ6.g2
    have y3 := hQ6.g3
    have y4 := hQ6.g4
    have y5 := hQ6.g5
    have y6 := hQ6.g6
    have hR6 := HR5.out.path hkl HV5.out (fun A n c e e' => by injection e with e1 e2 e3; subst e1; rw [← e3]; exact hP0 e')
    have hb6 : Below w.heap.size w (w5.setCell ⟨g, k * 8 + 1, none⟩ (.slice PB l[k].path.length pd)) := below_set HB5.out HG.out
    obtain ⟨w6, hw6⟩ : ∃ W, W = w5.setCell ⟨g, k * 8 + 1, none⟩ (.slice PB l[k].path.length pd) := ⟨_, rfl⟩
    have HW6 := hid hw6
    have HR6 : Hid (RowD (fun b => S b ∨ w.heap.size ≤ b) w6 g l) := hid (by rw [hw6]; exact hR6)
    have HB6 : Hid (Below w.heap.size w w6) := hid (by rw [hw6]; exact hb6)
    have hlv6 : LV w6 S l[k].val (.agg #[.int .i64 l[k].val.kind, .int .i64 l[k].val.num, .string l[k].val.text, .slice VA l[k].val.items.length vc, .slice VA' l[k].val.names.length vc']) := by
     obtain ⟨PB', pd', VB, vd, VB', vd', e, q0, -⟩ := HD5.out
     simp only [Array.mk.injEq, List.cons.injEq, Value.slice.injEq, and_true, true_and] at e
     obtain ⟨⟨rfl, rfl⟩, ⟨rfl, rfl⟩, rfl, rfl⟩ := e
     refine q0.keep fun b hb => ?_
     rw [hw6]
     exact heap_setCell_other _ ⟨g, k * 8 + 1, none⟩ b _ (by have := HS.out b hb; have := HG.out; show b ≠ g; omega)
    have HC7 := hid (clone_own S l[k].val _ w6 (fun b hb => Nat.lt_of_lt_of_le (HS.out b hb) HB6.out.size) hlv6)
    clear hv5 hb5 hP0 hP1 hQ6 hR6 hb6 hlv6 hw6 x0 x1 x2 x3 x4 x5 x6 x7 hw4 hpl5 HC5 HW4 HB HR HR4 HB4
    go_wp2_with fail
    rw [← HW6.out]
    refine HC7.out.mono ?_
    rintro e w7 ⟨v7, rfl, hv7, hb7⟩
    obtain ⟨VB, vd, VB', vd', -, e7, -⟩ := hv7.shape
    subst e7
    have HR7 := hid (HR6.out.call hb7)
    have HB7 := hid (HB6.out.trans (hb7.mono HB6.out.size))
    have HR8 := hid (HR7.out.val hkl (hv7.lv.imp fun b hb => ⟨hb.2, by have := HR6.out.lt; have := hb.1; omega, .inr (by have := HB6.out.size; have := hb.1; omega)⟩))
    have HB8 := hid (below_five (o := k * 8 + 2) (c0 := .int .i64 l[k].val.kind) (c1 := .int .i64 l[k].val.num) (c2 := .string l[k].val.text) (c3 := .slice VB l[k].val.items.length vd) (c4 := .slice VB' l[k].val.names.length vd') HB7.out HG.out)
    clear z1 zf y2 y3 y4 y5 y6 hv7 hb7 HC7 HW6
    obtain ⟨u2, z2⟩ := HR7.out.cell k hkl 2 (by omega)
    obtain ⟨u3, z3⟩ := HR7.out.cell k hkl 3 (by omega)
    obtain ⟨u4, z4⟩ := HR7.out.cell k hkl 4 (by omega)
    obtain ⟨u5, z5⟩ := HR7.out.cell k hkl 5 (by omega)
    obtain ⟨u6, z6⟩ := HR7.out.cell k hkl 6 (by omega)
    have zf := fun i => HR7.out.free i
    go_wp2_with fail
    go_roundw
    case rel => exact ⟨k + 1, by go_num, by omega, HB8, HR8⟩
    case measure => simp [intOf]; omega
   ·have d1 : decide ((k : Int) < (n : Int)) = false := decide_eq_false (by omega)
    have HRR := hid (DelsL.imp (S' := fun b => b < wr.heap.size ∧ (S b ∨ w.heap.size ≤ b)) HR.out.rows fun b hb => ⟨hb.1, hb.2.elim id fun e => .inr (by have := HG.out; omega)⟩)
    go_wp2_with fail
    go_ret
    exact ⟨_, _, rfl, HAC.out.1, HAC.out.2, HRR.out, HB.out⟩
 ·have d0 : n = 0 := by omega
  have hl0 : l = [] := List.eq_nil_of_length_eq_zero (by have := HN.out; omega)
  have HL0 := hid hl0
  subst d0
  clear hl0
  go_loopw [10] (fun i wr => i = .int .i64 0 ∧ wr = w1) (fun i _ => 0)
  case atStart => exact ⟨rfl, rfl⟩
  case round =>
   obtain ⟨rfl, rfl⟩ := hrel
   go_wp2_with fail
   go_ret
   exact ⟨_, _, rfl, HAC.out.1, HAC.out.2, fun h => absurd h (by rw [HL0.out]; simp), HB.out⟩
def cmpP : List ByteArray → List ByteArray → Int
  | [], [] => 0
  | [], _ :: _ => -1
  | _ :: _, [] => 1
  | a :: r, b :: s => ore (cmpB a.toList b.toList) (cmpP r s)
theorem cmpP_tri : ∀ a b c : List ByteArray, Tri (cmpP a b) (cmpP b c) (cmpP a c)
  | [], [], [] => tri_zero
  | [], [], _ :: _ => by unfold cmpP Tri; omega
  | [], _ :: _, [] => by unfold cmpP Tri; omega
  | [], _ :: _, _ :: _ => by simp only [cmpP]; unfold Tri; omega
  | _ :: _, [], [] => by unfold cmpP Tri; omega
  | _ :: _, [], _ :: _ => by simp only [cmpP]; unfold Tri; omega
  | _ :: _, _ :: _, [] => by simp only [cmpP]; unfold Tri; omega
  | a :: r, b :: s, c :: t => ore_tri (cmpB_tri _ _ _) fun _ _ => cmpP_tri r s t
theorem cmpP_neg : ∀ a b : List ByteArray, cmpP b a = -(cmpP a b)
  | [], [] => rfl
  | [], _ :: _ => rfl
  | _ :: _, [] => rfl
  | a :: r, b :: s => ore_neg2 (cmpB_neg _ _) fun _ => cmpP_neg r s
theorem cmpP_zero : ∀ a b : List ByteArray, cmpP a b = 0 ↔ a = b
  | [], [] => by simp [cmpP]
  | [], _ :: _ => by simp [cmpP]
  | _ :: _, [] => by simp [cmpP]
  | a :: r, b :: s => by
    rw [cmpP, ore_zero, cmpB_zero, cmpP_zero r s]
    constructor
    · rintro ⟨h1, h2⟩; rw [toList_inj h1, h2]
    · intro h; injection h with h1 h2; exact ⟨by rw [h1], h2⟩
theorem ore_le {x y : Int} (h : ore x y ≤ 0) : x ≤ 0 := by unfold ore at h; split at h <;> omega
theorem between : ∀ {p x q : List ByteArray}, cmpP p x ≤ 0 → cmpP x q ≤ 0 → p <+: q → p <+: x
  | [], x, q, _, _, _ => List.nil_prefix
  | a :: r, [], q, h, _, _ => by simp [cmpP] at h
  | a :: r, b :: x, [], _, _, h => by simp at h
  | a :: r, b :: x, c :: q, h1, h2, h3 => by
    rw [List.cons_prefix_cons] at h3
    obtain ⟨rfl, h3⟩ := h3
    rw [cmpP] at h1 h2
    have e1 := ore_le h1
    have e2 := ore_le h2
    rw [cmpB_neg] at e2
    have e3 : cmpB a.toList b.toList = 0 := by omega
    have e4 : cmpB b.toList a.toList = 0 := by rw [cmpB_neg]; omega
    have hab : a = b := toList_inj ((cmpB_zero _ _).1 e3)
    subst hab
    unfold ore at h1 h2
    rw [if_pos e3] at h1 h2
    rw [List.cons_prefix_cons]
    exact ⟨rfl, between h1 h2 h3⟩
theorem begP_iff {a b : List ByteArray} : begP a b = true ↔ a <+: b := by
  unfold begP
  simp only [Bool.and_eq_true, decide_eq_true_eq]
  constructor
  · rintro ⟨h1, h2⟩
    exact ⟨b.drop a.length, by have := List.take_append_drop a.length b; rw [h2] at this; exact this⟩
  · intro h
    exact ⟨h.length_le, (List.prefix_iff_eq_take.1 h).symm⟩
theorem pre_le : ∀ {a b : List ByteArray}, a <+: b → cmpP a b ≤ 0
  | [], [], _ => by simp [cmpP]
  | [], _ :: _, _ => by simp [cmpP]
  | a :: r, [], h => by simp at h
  | a :: r, b :: s, h => by
    rw [List.cons_prefix_cons] at h
    obtain ⟨rfl, h⟩ := h
    have h0 : cmpB a.toList a.toList = 0 := (cmpB_zero _ _).2 rfl
    rw [cmpP]
    unfold ore
    rw [if_pos h0]
    exact pre_le h
theorem meetP_comm (a b : List ByteArray) : meetP a b = meetP b a := by unfold meetP; rw [Bool.or_comm]
theorem confL_pair : ∀ (l ahead : List (List ByteArray)), confL ahead l = false ↔ (∀ p ∈ l, ∀ q ∈ ahead, meetP p q = false) ∧ l.Pairwise (fun q p => meetP p q = false)
  | [], ahead => by simp [confL]
  | p :: r, ahead => by
    rw [confL, Bool.or_eq_false_iff, confL_pair r (ahead ++ [p]), List.pairwise_cons, List.any_eq_false]
    constructor
    · rintro ⟨h1, h2, h3⟩
      refine ⟨fun x hx q hq => ?_, fun x hx => h2 x hx p (by simp), h3⟩
      rcases List.mem_cons.1 hx with rfl | hx
      · simpa using h1 q hq
      · exact h2 x hx q (List.mem_append_left _ hq)
    · rintro ⟨h1, h2, h3⟩
      refine ⟨fun q hq => by simpa using h1 p (List.mem_cons_self ..) q hq, fun x hx q hq => ?_, h3⟩
      rcases List.mem_append.1 hq with hq | hq
      · exact h1 x (List.mem_cons_of_mem _ hx) q hq
      · obtain rfl := List.mem_singleton.1 hq; exact h2 x hx
theorem free_pair (ps : List (List ByteArray)) : confL [] ps = false ↔ ps.Pairwise (fun q p => meetP p q = false) := by rw [confL_pair]; simp
theorem free_perm {ps qs : List (List ByteArray)} (h : ps.Perm qs) : confL [] ps = confL [] qs := by
  have e : confL [] ps = false ↔ confL [] qs = false := by
    rw [free_pair, free_pair]
    exact h.pairwise_iff fun {a b} h => by rw [meetP_comm]; exact h
  cases h1 : confL [] ps <;> cases h2 : confL [] qs <;> simp_all
theorem free_sorted {ps : List (List ByteArray)} (hs : ∀ i j (hi : i < ps.length) (hj : j < ps.length), i < j → cmpP ps[i] ps[j] ≤ 0) : confL [] ps = false ↔ ∀ i (h : i + 1 < ps.length), begP (ps[i]'(by omega)) ps[i + 1] = false := by
  rw [free_pair, List.pairwise_iff_getElem]
  constructor
  · intro h i hi
    have h1 := h i (i + 1) (by omega) hi (by omega)
    unfold meetP at h1
    rw [Bool.or_eq_false_iff] at h1
    exact h1.2
  · intro h i j hi hj hij
    have hne : ∀ (hp : ps[i] <+: ps[j]), False := fun hp => by
      have hb : ps[i] <+: ps[i + 1]'(by omega) := by
        by_cases e : i + 1 = j
        · subst e; exact hp
        · exact between (hs i (i + 1) hi (by omega) (by omega)) (hs (i + 1) j (by omega) hj (by omega)) hp
      have h1 := h i (by omega)
      rw [begP_iff.2 hb] at h1
      cases h1
    unfold meetP
    rw [Bool.or_eq_false_iff]
    refine ⟨?_, ?_⟩
    · cases hb : begP ps[j] ps[i]
      · rfl
      · exfalso
        have h1 := pre_le (begP_iff.1 hb)
        have h2 := hs i j hi hj hij
        rw [cmpP_neg] at h1
        have h3 : cmpP ps[i] ps[j] = 0 := by omega
        exact hne (by rw [(cmpP_zero _ _).1 h3]; exact List.prefix_refl _)
    · cases hb : begP ps[i] ps[j]
      · rfl
      · exact (hne (begP_iff.1 hb)).elim
theorem cmpP_take {a b : List ByteArray} : ∀ (k : Nat), k ≤ a.length → k ≤ b.length → (∀ j (h : j < a.length) (h' : j < b.length), j < k → a[j] = b[j]) → cmpP a b = cmpP (a.drop k) (b.drop k) := by
  induction a generalizing b with
  | nil => intro k hk _ _; obtain rfl : k = 0 := by simpa using hk
           simp
  | cons x r ih =>
    intro k hk hk' h
    cases k with
    | zero => simp
    | succ k =>
      cases b with
      | nil => simp at hk'
      | cons y s =>
        have hxy : x = y := h 0 (by simp) (by simp) (by omega)
        subst hxy
        have h0 : cmpB x.toList x.toList = 0 := (cmpB_zero _ _).2 rfl
        rw [cmpP]
        unfold ore
        rw [if_pos h0, List.drop_succ_cons, List.drop_succ_cons]
        exact ih k (by simpa using hk) (by simpa using hk') fun j h1 h2 h3 => by
          have := h (j + 1) (by simpa using h1) (by simpa using h2) (by omega)
          simpa using this
set_option maxHeartbeats 4000000 in
theorem cmpSs_any (A B : Option Addr) (c d : Nat) (a b : List ByteArray) (w : World) (S : Nat → Prop) (h : StrsAt w S A a) (k : StrsAt w S B b) (hn : a.length ≤ 140737488351232) (hm : b.length ≤ 140737488351232) :
    Calls Tryz.prog 160 #[.slice A a.length c, .slice B b.length d] w fun e w' => e = .returned (.int .i64 (cmpP a b)) ∧ w = w' := by
  have HA := hid h
  have HB := hid k
  clear h k
  obtain ⟨n, hn'⟩ : ∃ n, n = a.length := ⟨_, rfl⟩
  obtain ⟨m, hm'⟩ : ∃ m, m = b.length := ⟨_, rfl⟩
  have HN := hid hn'
  have HM := hid hm'
  rw [← hn'] at hn ⊢
  rw [← hm'] at hm ⊢
  clear hn' hm'
  go_enter Tryz.func160, Tryz.ntmps160
  go_wp2_with fail
  go_loopw [11] (fun i wr => ∃ k : Nat, i = .int .i64 k ∧ k ≤ n ∧ wr = w ∧ Hid (k ≤ m ∧ ∀ j (h : j < a.length) (h' : j < b.length), j < k → a[j] = b[j])) (fun i _ => n - (intOf i).toNat)
  case atStart => exact ⟨0, rfl, by omega, rfl, hid ⟨by omega, fun j _ _ h => absurd h (by omega)⟩⟩
  case round =>
    obtain ⟨k, rfl, hk, rfl, HE⟩ := hrel
    by_cases hlt : k < n
    · have d1 : decide ((k : Int) < (n : Int)) = true := decide_eq_true (by omega)
      obtain ⟨p, o, rfl, -, hc⟩ := HA.out (by have := HN.out; omega)
      have hka : k < a.length := by have := HN.out; omega
      have hck := (hc k hka).1
      obtain ⟨x, hx⟩ : ∃ x, x = a[k] := ⟨_, rfl⟩
      rw [← hx] at hck
      have HX := hid hx
      clear hc hx
      by_cases hlb : k < m
      · have d2 : decide ((k : Int) ≥ (m : Int)) = false := decide_eq_false (by omega)
        obtain ⟨p', o', rfl, -, hc'⟩ := HB.out (by have := HM.out; omega)
        have hkb : k < b.length := by have := HM.out; omega
        have hck' := (hc' k hkb).1
        obtain ⟨y, hy⟩ : ∃ y, y = b[k] := ⟨_, rfl⟩
        rw [← hy] at hck'
        have HY := hid hy
        clear hc' hy
        go_wp2_with fail
        refine (cmpS_any x y _).mono ?_
        rintro e u ⟨rfl, rfl⟩
        by_cases h0 : cmpB x.toList y.toList = 0
        · have d3 : (cmpB x.toList y.toList != 0) = false := by rw [h0]; rfl
          have HEQ : Hid (a[k] = b[k]) := hid (by rw [← HX.out, ← HY.out]; exact toList_inj ((cmpB_zero _ _).1 h0))
          clear h0
          go_wp2_with fail
          go_roundw
          case rel => exact ⟨k + 1, by go_num, by omega, trivial, hid ⟨by omega, fun j h h' hjk => by
            by_cases e : j = k
            · subst e; exact HEQ.out
            · exact HE.out.2 j h h' (by omega)⟩⟩
          case measure => simp [intOf]; omega
        · have d3 : (cmpB x.toList y.toList != 0) = true := bne_iff_ne.2 h0
          have HF : Hid (cmpP a b = cmpB x.toList y.toList) := hid (by
            rw [cmpP_take k (by omega) (by omega) HE.out.2, List.drop_eq_getElem_cons hka, List.drop_eq_getElem_cons hkb, cmpP, ← HX.out, ← HY.out]
            unfold ore
            rw [if_neg h0])
          clear h0
          go_wp2_with fail
          go_ret
          exact ⟨by rw [HF.out]; rfl, rfl⟩
      · have d2 : decide ((k : Int) ≥ (m : Int)) = true := decide_eq_true (by omega)
        have HF : Hid (cmpP a b = 1) := hid (by
          have hkm : k = b.length := by have := HE.out.1; have := HM.out; omega
          have e2 : b.drop k = [] := List.drop_eq_nil_of_le (by omega)
          rw [cmpP_take k (by omega) (by omega) HE.out.2, List.drop_eq_getElem_cons hka, e2]
          rfl)
        go_wp2_with fail
        go_ret
        exact ⟨by rw [HF.out]; rfl, rfl⟩
    · have hkn : k = n := by omega
      have d1 : decide ((k : Int) < (n : Int)) = false := decide_eq_false (by omega)
      by_cases hnm : n < m
      · have d2 : decide ((n : Int) < (m : Int)) = true := decide_eq_true (by omega)
        have HF : Hid (cmpP a b = -1) := hid (by
          have hkb : k < b.length := by have := HM.out; omega
          have q3 := HN.out
          have e1 : a.drop k = [] := List.drop_eq_nil_of_le (by omega)
          rw [cmpP_take k (by omega) (by omega) HE.out.2, e1, List.drop_eq_getElem_cons hkb]
          rfl)
        clear hkn
        go_wp2_with fail
        go_ret
        exact ⟨by rw [HF.out]; rfl, rfl⟩
      · have d2 : decide ((n : Int) < (m : Int)) = false := decide_eq_false (by omega)
        have HF : Hid (cmpP a b = 0) := hid (by
          have q1 := HE.out.1
          have q2 := HM.out
          have q3 := HN.out
          have e1 : a.drop k = [] := List.drop_eq_nil_of_le (by omega)
          have e2 : b.drop k = [] := List.drop_eq_nil_of_le (by omega)
          rw [cmpP_take k (by omega) (by omega) HE.out.2, e1, e2]
          rfl)
        clear hkn
        go_wp2_with fail
        go_ret
        exact ⟨by rw [HF.out]; rfl, rfl⟩
end Go.Proofs.YtpcdngpppjdgcaaGreat

/- Layer 13, plain: the program's ways to say which entries may be. -/
namespace Go.Proofs.YtpcdngpppjdgcaaGreat
set_option linter.unusedVariables false
set_option linter.unusedSimpArgs false
set_option maxRecDepth 100000
theorem fits_names0 {k i : Int} {s : ByteArray} {n : Nat} {ns : List ByteArray} (h : fitsP k i s n ns = true) (hk : k ≠ 7) : ns = [] := by
 unfold fitsP at h
 have hz : ns.length = 0 := by
  split at h
  ·simp only [Bool.and_eq_true, beq_iff_eq] at h; exact h.2.2
  split at h
  ·simp only [Bool.and_eq_true, beq_iff_eq] at h; exact h.2.2
  split at h
  ·simp only [Bool.and_eq_true, beq_iff_eq] at h; exact h.2.2
  split at h
  ·simp only [Bool.and_eq_true, beq_iff_eq] at h; exact h.2.2
  split at h
  ·simp only [Bool.and_eq_true, beq_iff_eq] at h; exact h.2
  ·simp [hk] at h
 exact List.eq_nil_of_length_eq_zero hz
theorem check_may {t : VT} (h : checkT t = 0) : mayT t = true := by
 unfold checkT at h
 split at h
 ·next hm => exact hm
 ·exact absurd h (by decide)
theorem hold_way (v id : VT) : holdE v id = (decide (0 ≤ nmI 0 v.names idN) && decide (checkT v = 0) && (match v.items[(nmI 0 v.names idN).toNat]? with
  | some x => decide (cmpT x id = 0)
  | none => false)) := by
 unfold holdE
 by_cases hc : checkT v = 0
 ·by_cases hk : v.kind = 7
  ·rw [item_doc hk, ← look_names, decide_eq_true hk, decide_eq_true hc]
   by_cases hn : nmI 0 v.names idN < 0
   ·rw [if_pos hn, decide_eq_false (by omega)]; rfl
   ·rw [if_neg hn, decide_eq_true (Int.not_lt.1 hn)]
    rfl
  ·have hn : v.names = [] := by
    have := ((mayT_iff v).1 (check_may hc)).1
    exact fits_names0 this hk
   rw [hn, decide_eq_false hk]
   unfold nmI
   rfl
 ·rw [decide_eq_false hc, Bool.and_false, Bool.and_false]
  rfl
theorem touch_head {l : List DelT} (h : ∀ d ∈ l, mayP d.path = true) : touchD l [idN] = l.any fun d => decide (d.path.head? = some idN) := by
 unfold touchD
 induction l with
 | nil => rfl
 | cons d l ih =>
  rw [List.any_cons, List.any_cons, ih fun x hx => h x (List.mem_cons_of_mem _ hx)]
  congr 1
  have hp := h d List.mem_cons_self
  cases hd : d.path with
  | nil => rw [hd] at hp; exact absurd hp (by decide)
  | cons s r =>
   have e : meetP (s :: r) [idN] = true ↔ s = idN := by
    unfold meetP
    rw [Bool.or_eq_true, begP_iff, begP_iff]
    constructor
    ·rintro (h | h)
     ·exact (List.cons_prefix_cons.1 h).1
     ·exact (List.cons_prefix_cons.1 h).1.symm
    ·rintro rfl
     exact .inr (List.cons_prefix_cons.2 ⟨rfl, List.nil_prefix⟩)
   by_cases hs : s = idN
   ·rw [e.2 hs, hs]; simp
   ·have : meetP (s :: r) [idN] = false := by
     cases hm : meetP (s :: r) [idN] with
     | false => rfl
     | true => exact absurd (e.1 hm) hs
    rw [this]
    simp [hs]
end Go.Proofs.YtpcdngpppjdgcaaGreat

/- Entries in memory. -/
namespace Go.Proofs.YtpcdngpppjdgcaaGreat
set_option linter.unusedVariables false
set_option linter.unusedSimpArgs false
open Go.RowKit
set_option maxRecDepth 100000
def EntL (w : World) (S : Nat → Prop) (e : EntT) (cs : Array Value) : Prop :=
 ∃ (IA : Option Addr) (ic : Nat) (IA' : Option Addr) (ic' : Nat) (DA : Option Addr) (dc : Nat) (DA' : Option Addr) (dc' : Nat) (LA : Option Addr) (lc : Nat),
  cs = #[.int .i64 e.term, .int .i64 e.kind, .string e.coll, .string e.to, .int .i64 e.id.kind, .int .i64 e.id.num, .string e.id.text, .slice IA e.id.items.length ic, .slice IA' e.id.names.length ic', .int .i64 e.doc.kind, .int .i64 e.doc.num, .string e.doc.text, .slice DA e.doc.items.length dc, .slice DA' e.doc.names.length dc', .slice LA e.dels.length lc, .int .i64 e.session, .int .i64 e.number] ∧ LV w S e.id (.agg #[.int .i64 e.id.kind, .int .i64 e.id.num, .string e.id.text, .slice IA e.id.items.length ic, .slice IA' e.id.names.length ic']) ∧ LV w S e.doc (.agg #[.int .i64 e.doc.kind, .int .i64 e.doc.num, .string e.doc.text, .slice DA e.doc.items.length dc, .slice DA' e.doc.names.length dc']) ∧ DelsL w S LA e.dels ∧ e.dels.length ≤ lc ∧ (LA = none → lc = 0) ∧ e.dels.length ≤ 1172812402961 ∧
  Rng e.term ∧ Rng e.kind ∧ Rng e.session ∧ Rng e.number ∧ e.coll.size ≤ 140737488351232 ∧ e.to.size ≤ 140737488351232
theorem EntL.keep {w w' : World} {S : Nat → Prop} {e : EntT} {cs : Array Value} (h : EntL w S e cs) (hk : ∀ b, S b → w'.heap[b]? = w.heap[b]?) : EntL w' S e cs := by
 obtain ⟨IA, ic, IA', ic', DA, dc, DA', dc', LA, lc, h1, h2, h3, h4, h5⟩ := h
 exact ⟨IA, ic, IA', ic', DA, dc, DA', dc', LA, lc, h1, h2.keep hk, h3.keep hk, h4.keep hk, h5⟩
theorem EntL.imp {w : World} {S S' : Nat → Prop} {e : EntT} {cs : Array Value} (h : EntL w S e cs) (hS : ∀ b, S b → S' b) : EntL w S' e cs := by
 obtain ⟨IA, ic, IA', ic', DA, dc, DA', dc', LA, lc, h1, h2, h3, h4, h5⟩ := h
 exact ⟨IA, ic, IA', ic', DA, dc, DA', dc', LA, lc, h1, h2.imp hS, h3.imp hS, h4.imp hS, h5⟩
theorem EntL.below {w w' : World} {S : Nat → Prop} {e : EntT} {cs : Array Value} {B : Nat} (h : EntL w S e cs) (hS : ∀ b, S b → b < B) (hb : Below B w w') : EntL w' S e cs := h.keep fun b hb' => hb.block b (hS b hb')
structure SmE (e : EntT) : Prop where
 idd : depthT e.id ≤ 4611686018427387903
 docd : depthT e.doc ≤ 4611686018427387903
 idz : sizeT e.id ≤ 9223372036854775807
 docz : sizeT e.doc ≤ 9223372036854775807
 dels : e.dels.length ≤ 64 → SmallD e.dels ∧ SmallZD e.dels
def EBox (w : World) (g : Nat) (e : EntT) (IA : Option Addr) (ic : Nat) (IA' : Option Addr) (ic' : Nat) (DA : Option Addr) (dc : Nat) (DA' : Option Addr) (dc' : Nat) (LA : Option Addr) (lc : Nat) : Prop :=
 w.heap[g]? = some (.cells #[.int .i64 e.term, .int .i64 e.kind, .string e.coll, .string e.to, .int .i64 e.id.kind, .int .i64 e.id.num, .string e.id.text, .slice IA e.id.items.length ic, .slice IA' e.id.names.length ic', .int .i64 e.doc.kind, .int .i64 e.doc.num, .string e.doc.text, .slice DA e.doc.items.length dc, .slice DA' e.doc.names.length dc', .slice LA e.dels.length lc, .int .i64 e.session, .int .i64 e.number] 28 (0, 0))
section
variable {w w' : World} {g : Nat} {e : EntT} {IA : Option Addr} {ic : Nat} {IA' : Option Addr} {ic' : Nat} {DA : Option Addr} {dc : Nat} {DA' : Option Addr} {dc' : Nat} {LA : Option Addr} {lc : Nat}
theorem EBox.lt (h : EBox w g e IA ic IA' ic' DA dc DA' dc' LA lc) : g < w.heap.size := (Array.getElem?_eq_some_iff.1 h).1
theorem EBox.below (h : EBox w g e IA ic IA' ic' DA dc DA' dc' LA lc) (hb : Below w.heap.size w w') : EBox w' g e IA ic IA' ic' DA dc DA' dc' LA lc := (hb.block g h.lt).trans h
theorem EBox.g0 (h : EBox w g e IA ic IA' ic' DA dc DA' dc' LA lc) : w.cell? ⟨g, 0, none⟩ = some (.int .i64 e.term) := Go.Joins.cell_of_block h 0
theorem EBox.g1 (h : EBox w g e IA ic IA' ic' DA dc DA' dc' LA lc) : w.cell? ⟨g, 1, none⟩ = some (.int .i64 e.kind) := Go.Joins.cell_of_block h 1
theorem EBox.g2 (h : EBox w g e IA ic IA' ic' DA dc DA' dc' LA lc) : w.cell? ⟨g, 2, none⟩ = some (.string e.coll) := Go.Joins.cell_of_block h 2
theorem EBox.g3 (h : EBox w g e IA ic IA' ic' DA dc DA' dc' LA lc) : w.cell? ⟨g, 3, none⟩ = some (.string e.to) := Go.Joins.cell_of_block h 3
theorem EBox.g4 (h : EBox w g e IA ic IA' ic' DA dc DA' dc' LA lc) : w.cell? ⟨g, 4, none⟩ = some (.int .i64 e.id.kind) := Go.Joins.cell_of_block h 4
theorem EBox.g5 (h : EBox w g e IA ic IA' ic' DA dc DA' dc' LA lc) : w.cell? ⟨g, 5, none⟩ = some (.int .i64 e.id.num) := Go.Joins.cell_of_block h 5
theorem EBox.g6 (h : EBox w g e IA ic IA' ic' DA dc DA' dc' LA lc) : w.cell? ⟨g, 6, none⟩ = some (.string e.id.text) := Go.Joins.cell_of_block h 6
theorem EBox.g7 (h : EBox w g e IA ic IA' ic' DA dc DA' dc' LA lc) : w.cell? ⟨g, 7, none⟩ = some (.slice IA e.id.items.length ic) := Go.Joins.cell_of_block h 7
theorem EBox.g8 (h : EBox w g e IA ic IA' ic' DA dc DA' dc' LA lc) : w.cell? ⟨g, 8, none⟩ = some (.slice IA' e.id.names.length ic') := Go.Joins.cell_of_block h 8
theorem EBox.g9 (h : EBox w g e IA ic IA' ic' DA dc DA' dc' LA lc) : w.cell? ⟨g, 9, none⟩ = some (.int .i64 e.doc.kind) := Go.Joins.cell_of_block h 9
theorem EBox.g10 (h : EBox w g e IA ic IA' ic' DA dc DA' dc' LA lc) : w.cell? ⟨g, 10, none⟩ = some (.int .i64 e.doc.num) := Go.Joins.cell_of_block h 10
theorem EBox.g11 (h : EBox w g e IA ic IA' ic' DA dc DA' dc' LA lc) : w.cell? ⟨g, 11, none⟩ = some (.string e.doc.text) := Go.Joins.cell_of_block h 11
theorem EBox.g12 (h : EBox w g e IA ic IA' ic' DA dc DA' dc' LA lc) : w.cell? ⟨g, 12, none⟩ = some (.slice DA e.doc.items.length dc) := Go.Joins.cell_of_block h 12
theorem EBox.g13 (h : EBox w g e IA ic IA' ic' DA dc DA' dc' LA lc) : w.cell? ⟨g, 13, none⟩ = some (.slice DA' e.doc.names.length dc') := Go.Joins.cell_of_block h 13
theorem EBox.g14 (h : EBox w g e IA ic IA' ic' DA dc DA' dc' LA lc) : w.cell? ⟨g, 14, none⟩ = some (.slice LA e.dels.length lc) := Go.Joins.cell_of_block h 14
theorem EBox.g15 (h : EBox w g e IA ic IA' ic' DA dc DA' dc' LA lc) : w.cell? ⟨g, 15, none⟩ = some (.int .i64 e.session) := Go.Joins.cell_of_block h 15
theorem EBox.g16 (h : EBox w g e IA ic IA' ic' DA dc DA' dc' LA lc) : w.cell? ⟨g, 16, none⟩ = some (.int .i64 e.number) := Go.Joins.cell_of_block h 16
end
structure EntAt (w : World) (S : Nat → Prop) (e : EntT) (IA : Option Addr) (ic : Nat) (IA' : Option Addr) (ic' : Nat) (DA : Option Addr) (dc : Nat) (DA' : Option Addr) (dc' : Nat) (LA : Option Addr) (lc : Nat) : Prop where
 id : LV w S e.id (.agg #[.int .i64 e.id.kind, .int .i64 e.id.num, .string e.id.text, .slice IA e.id.items.length ic, .slice IA' e.id.names.length ic'])
 doc : LV w S e.doc (.agg #[.int .i64 e.doc.kind, .int .i64 e.doc.num, .string e.doc.text, .slice DA e.doc.items.length dc, .slice DA' e.doc.names.length dc'])
 dels : DelsL w S LA e.dels
 cap : e.dels.length ≤ lc
 nil : LA = none → lc = 0
 len : e.dels.length ≤ 1172812402961
 rt : Rng e.term
 rk : Rng e.kind
 rs : Rng e.session
 rn : Rng e.number
 cz : e.coll.size ≤ 140737488351232
 tz : e.to.size ≤ 140737488351232
theorem EntAt.l {w : World} {S : Nat → Prop} {e : EntT} {IA : Option Addr} {ic : Nat} {IA' : Option Addr} {ic' : Nat} {DA : Option Addr} {dc : Nat} {DA' : Option Addr} {dc' : Nat} {LA : Option Addr} {lc : Nat} (h : EntAt w S e IA ic IA' ic' DA dc DA' dc' LA lc) : EntL w S e #[.int .i64 e.term, .int .i64 e.kind, .string e.coll, .string e.to, .int .i64 e.id.kind, .int .i64 e.id.num, .string e.id.text, .slice IA e.id.items.length ic, .slice IA' e.id.names.length ic', .int .i64 e.doc.kind, .int .i64 e.doc.num, .string e.doc.text, .slice DA e.doc.items.length dc, .slice DA' e.doc.names.length dc', .slice LA e.dels.length lc, .int .i64 e.session, .int .i64 e.number] :=
 ⟨IA, ic, IA', ic', DA, dc, DA', dc', LA, lc, rfl, h.id, h.doc, h.dels, h.cap, h.nil, h.len, h.rt, h.rk, h.rs, h.rn, h.cz, h.tz⟩
theorem EntL.at {w : World} {S : Nat → Prop} {e : EntT} {cs : Array Value} (h : EntL w S e cs) : ∃ IA ic IA' ic' DA dc DA' dc' LA lc, cs = #[.int .i64 e.term, .int .i64 e.kind, .string e.coll, .string e.to, .int .i64 e.id.kind, .int .i64 e.id.num, .string e.id.text, .slice IA e.id.items.length ic, .slice IA' e.id.names.length ic', .int .i64 e.doc.kind, .int .i64 e.doc.num, .string e.doc.text, .slice DA e.doc.items.length dc, .slice DA' e.doc.names.length dc', .slice LA e.dels.length lc, .int .i64 e.session, .int .i64 e.number] ∧ EntAt w S e IA ic IA' ic' DA dc DA' dc' LA lc := by
 obtain ⟨IA, ic, IA', ic', DA, dc, DA', dc', LA, lc, h1, h2, h3, h4, h5, h6, h7, h8, h9, h10, h11, h12, h13⟩ := h
 exact ⟨IA, ic, IA', ic', DA, dc, DA', dc', LA, lc, h1, h2, h3, h4, h5, h6, h7, h8, h9, h10, h11, h12, h13⟩
theorem EntAt.keep {w w' : World} {S : Nat → Prop} {e : EntT} {IA : Option Addr} {ic : Nat} {IA' : Option Addr} {ic' : Nat} {DA : Option Addr} {dc : Nat} {DA' : Option Addr} {dc' : Nat} {LA : Option Addr} {lc : Nat} (h : EntAt w S e IA ic IA' ic' DA dc DA' dc' LA lc) (hk : ∀ b, S b → w'.heap[b]? = w.heap[b]?) : EntAt w' S e IA ic IA' ic' DA dc DA' dc' LA lc :=
 ⟨h.id.keep hk, h.doc.keep hk, h.dels.keep hk, h.cap, h.nil, h.len, h.rt, h.rk, h.rs, h.rn, h.cz, h.tz⟩
theorem EntAt.below {w w' : World} {S : Nat → Prop} {e : EntT} {IA : Option Addr} {ic : Nat} {IA' : Option Addr} {ic' : Nat} {DA : Option Addr} {dc : Nat} {DA' : Option Addr} {dc' : Nat} {LA : Option Addr} {lc : Nat} {B : Nat} (h : EntAt w S e IA ic IA' ic' DA dc DA' dc' LA lc) (hS : ∀ b, S b → b < B) (hb : Below B w w') : EntAt w' S e IA ic IA' ic' DA dc DA' dc' LA lc := h.keep fun b hb' => hb.block b (hS b hb')
theorem EntAt.imp {w : World} {S S' : Nat → Prop} {e : EntT} {IA : Option Addr} {ic : Nat} {IA' : Option Addr} {ic' : Nat} {DA : Option Addr} {dc : Nat} {DA' : Option Addr} {dc' : Nat} {LA : Option Addr} {lc : Nat} (h : EntAt w S e IA ic IA' ic' DA dc DA' dc' LA lc) (hS : ∀ b, S b → S' b) : EntAt w S' e IA ic IA' ic' DA dc DA' dc' LA lc :=
 ⟨h.id.imp hS, h.doc.imp hS, h.dels.imp hS, h.cap, h.nil, h.len, h.rt, h.rk, h.rs, h.rn, h.cz, h.tz⟩
theorem EntAt.nil' {w : World} {S : Nat → Prop} {e : EntT} {IA : Option Addr} {ic : Nat} {IA' : Option Addr} {ic' : Nat} {DA : Option Addr} {dc : Nat} {DA' : Option Addr} {dc' : Nat} {LA : Option Addr} {lc : Nat} (h : EntAt w S e IA ic IA' ic' DA dc DA' dc' LA lc) : LA = none → lc = 0 ∧ e.dels = [] := fun hn => by
 have h1 := h.nil hn
 have h2 := h.cap
 exact ⟨h1, List.eq_nil_of_length_eq_zero (by omega)⟩
theorem wpList_load_ent {ops : Array Oper} {rest : List Oper} {o : Oper} {a : Act} {w : World} {Q : Exit → Act → World → Prop} (hw : Region.wanted o (yielded ops a.tmps) = true) (x : Operand) (ho : o.op = .load 28 x)
  (g : Nat) (hx : a.eval x = .pointer (some ⟨g, 0, none⟩)) (cs : Array Value) (fr : Nat × Nat) (hg : w.heap[g]? = some (.cells cs 28 fr)) (hn : cs.size = 17)
  (h : wpList Tryz.prog ops Q rest (a.put o.dst (.agg cs)) w) : wpList Tryz.prog ops Q (o :: rest) a w :=
 wpList_step fun K hK => by
  rw [hw, if_pos rfl]
  exact wp_load_row 28 x ho g hx 28 cs fr _ hg Tryz.underlying28 rfl (by rw [hn]; kernel_rfl) (hK _ _ h)
open Lib (hid)
def setMany : Array Value → Nat → List Value → Array Value
 | C, _, [] => C
 | C, o, v :: r => setMany (C.setIfInBounds o v) (o + 1) r
theorem setMany_block {w : World} {b : Nat} {ty : TypeId} {fz : Nat × Nat} : ∀ (vs : List Value) (o : Nat) (C : Array Value), w.heap[b]? = some (.cells C ty fz) → (w.setCells b o vs).heap[b]? = some (.cells (setMany C o vs) ty fz) := by
 intro vs
 induction vs generalizing w with
 | nil => exact fun o C h => h
 | cons v r ih => exact fun o C h => ih (o + 1) _ (Go.Joins.block_setCell (i := o) h v)
theorem setMany_only (b : Nat) : ∀ (vs : List Value) (o : Nat) (w : World), (w.setCells b o vs).os = w.os ∧ (w.setCells b o vs).tape = w.tape ∧ (w.setCells b o vs).output = w.output ∧ (w.setCells b o vs).heap.size = w.heap.size ∧ ∀ k, k ≠ b → (w.setCells b o vs).heap[k]? = w.heap[k]?
 | [], o, w => ⟨rfl, rfl, rfl, rfl, fun _ _ => rfl⟩
 | v :: r, o, w => by
  obtain ⟨h1, h2, h3, h4, h5⟩ := setMany_only b r (o + 1) (w.setCell ⟨b, o, none⟩ v)
  exact ⟨h1, h2, h3, h4.trans (by simp), fun k hk => (h5 k hk).trans (heap_setCell_other _ ⟨b, o, none⟩ k _ hk)⟩
theorem run_storeVar_cells (w : World) (b o : Nat) (ty : TypeId) (v : Value) (cells : Array Value) (hc : v.cells = cells) (ht : w.there b o cells.size) (hi : (Tryz.prog.info? ty).map (·.size) = some cells.size) (h1 : cells.all (·.oneCell') = true) :
  (storeVar ty ⟨b, o, none⟩ v).run Tryz.prog w = .ok () (w.setCells b o cells.toList) := by
 have := run_storeCells_cells (P := Tryz.prog) b o cells.toList 0 w (fun j hj => by simpa using (ht j (by simpa using hj)).1) (fun j hj => by simpa using (ht j (by simpa using hj)).2)
  (fun v hv => (Array.all_eq_true_iff_forall_mem.1 h1) v (by simpa using hv))
 cases hq : Tryz.prog.info? ty with
 | none => simp [hq] at hi
 | some i =>
  have hs : cells.size = i.size := by simp [hq] at hi; omega
  simp only [Nat.add_zero] at this
  simp [storeVar, sizeOf, typeInfo, hq, hc, hs, this]
theorem wpList_store_ent {ops : Array Oper} {rest : List Oper} {o : Oper} {a : Act} {w : World} {Q : Exit → Act → World → Prop} (hw : Region.wanted o (yielded ops a.tmps) = true) (ty : TypeId) (x y : Operand) (ho : o.op = .store ty x y) (hd : o.dst = none)
  (g off : Nat) (hx : a.eval x = .pointer (some ⟨g, off, none⟩)) (v : Value) (cells : Array Value) (hy : a.eval y = v) (hc : v.cells = cells) (C C' : Array Value) (t : TypeId) (hg : w.heap[g]? = some (.cells C t (0, 0))) (hn : off + cells.size ≤ C.size)
  (hi : (Tryz.prog.info? ty).map (·.size) = some cells.size) (h1 : cells.all (·.oneCell') = true) (hC : setMany C off cells.toList = C')
  (h : ∀ w', w'.heap[g]? = some (.cells C' t (0, 0)) → Only w w' g → w'.heap.size = w.heap.size → wpList Tryz.prog ops Q rest a w') : wpList Tryz.prog ops Q (o :: rest) a w :=
 wpList_step fun K hK => by
  rw [hw, if_pos rfl]
  have ht : w.there g off cells.size := fun j hj => ⟨by
   rw [Go.Joins.cell_of_block hg (off + j), Array.getElem?_eq_getElem (by omega)]; rfl, Go.Joins.unfrozen_of_block hg _⟩
  have e := run_storeVar_cells w g off ty v cells hc ht hi h1
  have hK' : K (a.put o.dst undef) (w.setCells g off cells.toList) := by
   rw [hd]
   refine hK _ _ (h _ ?_ ?_ ?_)
   ·rw [← hC]; exact setMany_block _ _ _ hg
   ·obtain ⟨q1, q2, q3, q4, q5⟩ := setMany_only g cells.toList off w
    exact ⟨q1, q2, q3, by rw [q4]; exact Nat.le_refl _, fun b _ hb => q5 b (by intro e; apply hb; rw [e])⟩
   ·exact (setMany_only g cells.toList off w).2.2.2.1
  unfold Oper.wp execOp
  simp only [ho, hx, hy, Instr.storeAt, Instr.sureAddr, Sem.run_bind, Sem.run_pure, Result.andThen_ok, e]
  exact hK'
theorem wpList_store_box {ops : Array Oper} {rest : List Oper} {o : Oper} {a : Act} {w : World} {Q : Exit → Act → World → Prop} (hw : Region.wanted o (yielded ops a.tmps) = true) (ty : TypeId) (x y : Operand) (ho : o.op = .store ty x y) (hd : o.dst = none)
  (g off : Nat) (hx : a.eval x = .pointer (some ⟨g, off, none⟩)) (v : Value) (cells : Array Value) (hy : a.eval y = v) (hc : v.cells = cells) {b : EntT} {JA : Option Addr} {jc : Nat} {JA' : Option Addr} {jc' : Nat} {FA : Option Addr} {fc : Nat} {FA' : Option Addr} {fc' : Nat} {MA : Option Addr} {mc : Nat} (hg : EBox w g b JA jc JA' jc' FA fc FA' fc' MA mc)
  (e : EntT) (IA : Option Addr) (ic : Nat) (IA' : Option Addr) (ic' : Nat) (DA : Option Addr) (dc : Nat) (DA' : Option Addr) (dc' : Nat) (LA : Option Addr) (lc : Nat) (hn : off + cells.size ≤ 17)
  (hi : (Tryz.prog.info? ty).map (·.size) = some cells.size) (h1 : cells.all (·.oneCell') = true) (hC : setMany #[.int .i64 b.term, .int .i64 b.kind, .string b.coll, .string b.to, .int .i64 b.id.kind, .int .i64 b.id.num, .string b.id.text, .slice JA b.id.items.length jc, .slice JA' b.id.names.length jc', .int .i64 b.doc.kind, .int .i64 b.doc.num, .string b.doc.text, .slice FA b.doc.items.length fc, .slice FA' b.doc.names.length fc', .slice MA b.dels.length mc, .int .i64 b.session, .int .i64 b.number] off cells.toList = #[.int .i64 e.term, .int .i64 e.kind, .string e.coll, .string e.to, .int .i64 e.id.kind, .int .i64 e.id.num, .string e.id.text, .slice IA e.id.items.length ic, .slice IA' e.id.names.length ic', .int .i64 e.doc.kind, .int .i64 e.doc.num, .string e.doc.text, .slice DA e.doc.items.length dc, .slice DA' e.doc.names.length dc', .slice LA e.dels.length lc, .int .i64 e.session, .int .i64 e.number])
  (h : ∀ w', Hid (EBox w' g e IA ic IA' ic' DA dc DA' dc' LA lc) → Hid (Only w w' g ∧ w'.heap.size = w.heap.size) → wpList Tryz.prog ops Q rest a w') : wpList Tryz.prog ops Q (o :: rest) a w :=
 wpList_store_ent hw ty x y ho hd g off hx v cells hy hc _ _ 28 hg hn hi h1 hC fun w' h1 h2 h3 => h w' (hid h1) (hid ⟨h2, h3⟩)
theorem wpList_store_all {ops : Array Oper} {rest : List Oper} {o : Oper} {a : Act} {w : World} {Q : Exit → Act → World → Prop} (hw : Region.wanted o (yielded ops a.tmps) = true) (x y : Operand) (ho : o.op = .store 28 x y) (hd : o.dst = none)
  (g : Nat) (hx : a.eval x = .pointer (some ⟨g, 0, none⟩)) (e : EntT) (IA : Option Addr) (ic : Nat) (IA' : Option Addr) (ic' : Nat) (DA : Option Addr) (dc : Nat) (DA' : Option Addr) (dc' : Nat) (LA : Option Addr) (lc : Nat) (hy : a.eval y = .agg #[.int .i64 e.term, .int .i64 e.kind, .string e.coll, .string e.to, .int .i64 e.id.kind, .int .i64 e.id.num, .string e.id.text, .slice IA e.id.items.length ic, .slice IA' e.id.names.length ic', .int .i64 e.doc.kind, .int .i64 e.doc.num, .string e.doc.text, .slice DA e.doc.items.length dc, .slice DA' e.doc.names.length dc', .slice LA e.dels.length lc, .int .i64 e.session, .int .i64 e.number]) (hg : w.heap[g]? = some (.cells #[.int .i64 0, .int .i64 0, .string ⟨#[]⟩, .string ⟨#[]⟩, .int .i64 0, .int .i64 0, .string ⟨#[]⟩, .slice none 0 0, .slice none 0 0, .int .i64 0, .int .i64 0, .string ⟨#[]⟩, .slice none 0 0, .slice none 0 0, .slice none 0 0, .int .i64 0, .int .i64 0] 28 (0, 0)))
  (h : ∀ w', Hid (EBox w' g e IA ic IA' ic' DA dc DA' dc' LA lc) → Hid (Only w w' g ∧ w'.heap.size = w.heap.size) → wpList Tryz.prog ops Q rest a w') : wpList Tryz.prog ops Q (o :: rest) a w :=
 wpList_store_ent hw 28 x y ho hd g 0 hx _ #[.int .i64 e.term, .int .i64 e.kind, .string e.coll, .string e.to, .int .i64 e.id.kind, .int .i64 e.id.num, .string e.id.text, .slice IA e.id.items.length ic, .slice IA' e.id.names.length ic', .int .i64 e.doc.kind, .int .i64 e.doc.num, .string e.doc.text, .slice DA e.doc.items.length dc, .slice DA' e.doc.names.length dc', .slice LA e.dels.length lc, .int .i64 e.session, .int .i64 e.number] hy rfl _ _ 28 hg (by simp) (by kernel_rfl) (by simp [Value.oneCell']) (by kernel_rfl) fun w' h1 h2 h3 => h w' (hid h1) (hid ⟨h2, h3⟩)
theorem wpList_store_zent {ops : Array Oper} {rest : List Oper} {o : Oper} {a : Act} {w : World} {Q : Exit → Act → World → Prop} (hw : Region.wanted o (yielded ops a.tmps) = true) (x y : Operand) (ho : o.op = .store 28 x y) (hd : o.dst = none)
  (g : Nat) (hx : a.eval x = .pointer (some ⟨g, 0, none⟩)) (hy : a.eval y = .agg #[.int .i64 0, .int .i64 0, .string ⟨#[]⟩, .string ⟨#[]⟩, .int .i64 0, .int .i64 0, .string ⟨#[]⟩, .slice none 0 0, .slice none 0 0, .int .i64 0, .int .i64 0, .string ⟨#[]⟩, .slice none 0 0, .slice none 0 0, .slice none 0 0, .int .i64 0, .int .i64 0]) (hg : w.heap[g]? = some (.cells #[.int .i64 0, .int .i64 0, .string ⟨#[]⟩, .string ⟨#[]⟩, .int .i64 0, .int .i64 0, .string ⟨#[]⟩, .slice none 0 0, .slice none 0 0, .int .i64 0, .int .i64 0, .string ⟨#[]⟩, .slice none 0 0, .slice none 0 0, .slice none 0 0, .int .i64 0, .int .i64 0] 28 (0, 0)))
  (h : ∀ w', Hid (w'.heap[g]? = some (.cells #[.int .i64 0, .int .i64 0, .string ⟨#[]⟩, .string ⟨#[]⟩, .int .i64 0, .int .i64 0, .string ⟨#[]⟩, .slice none 0 0, .slice none 0 0, .int .i64 0, .int .i64 0, .string ⟨#[]⟩, .slice none 0 0, .slice none 0 0, .slice none 0 0, .int .i64 0, .int .i64 0] 28 (0, 0))) → Hid (Only w w' g) → wpList Tryz.prog ops Q rest a w') : wpList Tryz.prog ops Q (o :: rest) a w :=
 wpList_store_ent hw 28 x y ho hd g 0 hx _ #[.int .i64 0, .int .i64 0, .string ⟨#[]⟩, .string ⟨#[]⟩, .int .i64 0, .int .i64 0, .string ⟨#[]⟩, .slice none 0 0, .slice none 0 0, .int .i64 0, .int .i64 0, .string ⟨#[]⟩, .slice none 0 0, .slice none 0 0, .slice none 0 0, .int .i64 0, .int .i64 0] hy rfl _ _ 28 hg (by simp) (by kernel_rfl) (by simp [Value.oneCell']) (by kernel_rfl) fun w' h1 h2 _ => h w' (hid h1) (hid h2)
theorem wpList_load_fld {ops : Array Oper} {rest : List Oper} {o : Oper} {a : Act} {w : World} {Q : Exit → Act → World → Prop} (hw : Region.wanted o (yielded ops a.tmps) = true) (x : Operand) (ho : o.op = .load 25 x)
  (g off : Nat) (hx : a.eval x = .pointer (some ⟨g, off, none⟩)) (C : Array Value) (t : TypeId) (fr : Nat × Nat) (hg : w.heap[g]? = some (.cells C t fr)) (cs : List Value) (hcs : (C.extract off (off + 5)).toList = cs) (hn : cs.length = 5)
  (h : wpList Tryz.prog ops Q rest (a.put o.dst (.agg cs.toArray)) w) : wpList Tryz.prog ops Q (o :: rest) a w :=
 wpList_step fun K hK => by
  rw [hw, if_pos rfl]
  exact wp_load_mid 25 x ho g off hx cs _ (by rw [← hcs]; exact World.rangeAt_of_block hg off 5) Tryz.underlying25 rfl (by rw [hn]; kernel_rfl) (hK _ _ h)
theorem results_cell_e {fn : Func} {p : Tmp} (h : fn.results = #[.cell p 28]) (tmps : Array Value) (w : World) (g : Nat) (t : TypeId) (cs : Array Value) (fr : Nat × Nat)
  (hp : tmps.getD p undef = .pointer (some ⟨g, 0, none⟩)) (hg : w.heap[g]? = some (.cells cs t fr)) (hn : cs.size = 17) :
  (results fn tmps).run Tryz.prog w = .ok (.agg cs) w :=
 results_cell_row h tmps w g t cs fr _ hp hg Tryz.underlying28 rfl (by rw [hn]; kernel_rfl)
end Go.Proofs.YtpcdngpppjdgcaaGreat
