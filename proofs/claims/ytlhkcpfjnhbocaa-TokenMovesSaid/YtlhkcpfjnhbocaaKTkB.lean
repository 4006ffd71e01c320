/- A token's code, by the program. -/
import Derived.Test.YtlhkcpfjnhbocaaKTkA
import Derived.Test.YtlhkcpfjnhbocaaKFrmD
namespace Go.Proofs.Ytlhkcpfjnhbocaa
set_option linter.unusedVariables false
set_option linter.unusedSimpArgs false
open Go.RowKit
set_option maxRecDepth 100000
/-- What stands ahead of a token's sum, and the whole code. -/
def headT (k i t : Nat) : List UInt8 := [UInt8.ofNat k] ++ grpL [i, t]
def codeT (k i t : Nat) : List UInt8 := headT k i t ++ loB 4 (crcOf (headT k i t))
theorem headT_len (k i t : Nat) : (headT k i t).length ≤ 23 := by
  unfold headT
  have := grpL_len [i, t]
  rw [List.length_append]
  simp only [List.length_cons, List.length_nil] at *
  omega
/-- A token in a block. -/
def KBox (w : World) (p : Nat) (k i t : Int) : Prop := w.heap[p]? = some (.cells #[.int .i64 k, .int .i64 i, .int .i64 t] 37 (0, 0))
section
variable {w w' : World} {p : Nat} {k i t : Int}
theorem KBox.g0 (h : KBox w p k i t) : w.cell? ⟨p, 0, none⟩ = some (.int .i64 k) := Go.Joins.cell_of_block h 0
theorem KBox.g1 (h : KBox w p k i t) : w.cell? ⟨p, 1, none⟩ = some (.int .i64 i) := Go.Joins.cell_of_block h 1
theorem KBox.g2 (h : KBox w p k i t) : w.cell? ⟨p, 2, none⟩ = some (.int .i64 t) := Go.Joins.cell_of_block h 2
theorem KBox.free (h : KBox w p k i t) (j : Nat) : w.frozen? ⟨p, j, none⟩ = false := Go.Joins.unfrozen_of_block h j
theorem KBox.lt (h : KBox w p k i t) : p < w.heap.size := (Array.getElem?_eq_some_iff.1 h).1
theorem KBox.new (w : World) (k i t : Int) : KBox (w.alloc (.cells #[.int .i64 k, .int .i64 i, .int .i64 t] 37)) w.heap.size k i t := heap_alloc_new w _
theorem KBox.alloc (h : KBox w p k i t) (o : Obj) : KBox (w.alloc o) p k i t := (Below.heap_alloc w o p h.lt).trans h
theorem KBox.keep {B : Nat} (h : KBox w p k i t) (hb : Below B w w') (hp : p < B) : KBox w' p k i t := (hb.block p hp).trans h
theorem KBox.other (h : KBox w p k i t) (D j : Nat) (u : Value) (hne : p ≠ D) : KBox (w.setCell ⟨D, j, none⟩ u) p k i t := (heap_setCell_other _ ⟨D, j, none⟩ p _ hne).trans h
theorem KBox.set0 (h : KBox w p k i t) (u : Int) : KBox (w.setCell ⟨p, 0, none⟩ (.int .i64 u)) p u i t := Go.Joins.block_setCell (i := 0) h (.int .i64 u)
theorem KBox.set1 (h : KBox w p k i t) (u : Int) : KBox (w.setCell ⟨p, 1, none⟩ (.int .i64 u)) p k u t := Go.Joins.block_setCell (i := 1) h (.int .i64 u)
theorem KBox.set2 (h : KBox w p k i t) (u : Int) : KBox (w.setCell ⟨p, 2, none⟩ (.int .i64 u)) p k i u := Go.Joins.block_setCell (i := 2) h (.int .i64 u)
theorem KBox.only {g : Nat} (h : KBox w p k i t) (ho : Only w w' g) (hne : p ≠ g) : KBox w' p k i t := (ho.block p h.lt (by rintro ⟨⟩; exact hne rfl)).trans h
end
set_option maxHeartbeats 4000000 in
theorem tenc_bad (k i t : Int) (w : World) (h : mayTok k i t = false) : Calls Try.prog 19 #[tokV k i t] w fun e w' => e = .returned (.tuple #[.slice none 0 0, .int .i64 180]) ∧ Below w.heap.size w w' := by
  have hm := tmay_any k i t (w.alloc (.cells #[.int .i64 k, .int .i64 i, .int .i64 t] 37))
  rw [h] at hm
  have HM := Lib.hid hm
  clear hm h
  unfold tokV at HM ⊢
  go_enter Try.func19, Try.ntmps19
  go_wp2_with fail
  refine HM.out.mono ?_
  rintro e w1 ⟨rfl, hb⟩
  have HB := Lib.hid (((Below.refl w.heap.size w).alloc (Nat.le_refl _) _).trans (hb.mono (by simp)))
  clear hb HM
  go_wp2_with fail
  go_ret2
  exact ⟨rfl, HB.out⟩
set_option maxHeartbeats 4000000 in
theorem tenc_good (k i t : Nat) (w : World) (h : mayTok k i t = true) : Calls Try.prog 19 #[tokV k i t] w (PutsOK (codeT k i t) w) := by
  have hb0 : k ≤ 2 ∧ i ≤ 1099511627776 ∧ t ≤ 1099511627776 := by
    unfold mayTok at h
    have := of_decide_eq_true h
    omega
  have hm := tmay_any k i t (w.alloc (.cells #[.int .i64 k, .int .i64 i, .int .i64 t] 37))
  rw [h] at hm
  have HM := Lib.hid hm
  have HB0 := Lib.hid hb0
  clear hm h hb0
  unfold tokV at HM ⊢
  go_enter Try.func19, Try.ntmps19
  go_wp2_with fail
  refine HM.out.mono ?_
  rintro e w1 ⟨rfl, hb⟩
  have hk1 : KBox w1 w.heap.size k i t := (KBox.new w k i t).keep hb (by simp)
  have hb1 := ((Below.refl w.heap.size w).alloc (Nat.le_refl _) (.cells #[.int .i64 k, .int .i64 i, .int .i64 t] 37)).trans (hb.mono (by simp))
  have hz1 := hb1.size
  have hl1 := hk1.lt
  obtain ⟨X, hX⟩ : ∃ X : Obj, X = .cells #[.int .u8 ((k : Int) % 256)] 5 := ⟨_, rfl⟩
  obtain ⟨Y, hY⟩ : ∃ Y : Obj, Y = .cells #[.int .i64 (i : Int), .int .i64 (t : Int)] 3 := ⟨_, rfl⟩
  have hown : OwnB (w1.alloc X) w1.heap.size (.slice (some ⟨w1.heap.size, 0, none⟩) 1 1) [UInt8.ofNat k] := by
    have h := own_lit w1 [UInt8.ofNat k] (by show 1 ≤ maxLen; decide)
    rw [hX, byte_nat']
    exact h
  have hown2 : OwnB ((w1.alloc X).alloc Y) w.heap.size (.slice (some ⟨w1.heap.size, 0, none⟩) 1 1) [UInt8.ofNat k] := (hown.below ((Below.refl _ _).alloc (Nat.le_refl _) Y)).base hz1
  have hnb : NBox ((w1.alloc X).alloc Y) (w1.heap.size + 1) [i, t] := by
    have h := NBox.new (w1.alloc X) [i, t]
    rw [hY]
    have e : (w1.alloc X).heap.size = w1.heap.size + 1 := by simp
    rw [e] at h
    exact h
  have hb3 : Below w.heap.size w ((w1.alloc X).alloc Y) := (hb1.alloc hz1 X).alloc (by simp; omega) Y
  have hp := pputcounts_any w.heap.size (w1.heap.size + 1) 2 [i, t] _ _ _ hown2 hb3.size hnb (by intro n hn; have := HB0.out; simp only [List.mem_cons, List.not_mem_nil, or_false] at hn; rcases hn with rfl | rfl <;> omega) (by simp)
  rw [hX, hY] at hp hb3
  have HP := Lib.hid hp
  have HB3 := Lib.hid hb3
  have c0 := hk1.g0
  have c1 := hk1.g1
  have c2 := hk1.g2
  clear hb hk1 hb1 hX hY hown hown2 hnb hp hb3 HM
  go_wp2_with fail
  refine HP.out.mono ?_
  rintro e w4 ⟨v4, rfl, hv4, hb4, -⟩
  have hsz4 := hb4.size
  have HV4 := Lib.hid hv4
  have HB4 := Lib.hid (HB3.out.trans hb4)
  have hhl := headT_len k i t
  obtain ⟨h, hh⟩ : ∃ h, h = headT k i t := ⟨_, rfl⟩
  have HH := Lib.hid hh
  have hv4' : OwnB w4 w.heap.size v4 h := by rw [hh]; exact hv4
  rw [← hh] at hhl
  have HV4' := Lib.hid hv4'
  have HR4 := Lib.hid hv4'.rdY
  have HHL := Lib.hid hhl
  clear hv4 hb4 hv4' hh hhl HV4 HP HB3 c0 c1 c2 hl1 hsz4 hz1
  go_wp2_with fail
  refine (sum_any v4 h _ _ HR4.out (by have := HHL.out; omega)).mono ?_
  rintro e w' ⟨rfl, rfl⟩
  have hlt := crcOf_lt h
  obtain ⟨q, hq⟩ : ∃ q, q = crcOf h := ⟨_, rfl⟩
  have HQ := Lib.hid hq
  rw [← hq] at hlt ⊢
  clear hq
  go_wp2_with fail
  refine (sumbytes_any q _ hlt).mono ?_
  rintro e w5 ⟨rfl, hb5⟩
  obtain ⟨b0, b1, b2, b3, hbs⟩ := arrB_four q
  have ear : arrB (loB 4 q) = .agg #[.int .u8 (b0.toNat : Int), .int .u8 (b1.toNat : Int), .int .u8 (b2.toNat : Int), .int .u8 (b3.toNat : Int)] := by rw [hbs]; rfl
  rw [ear]
  obtain ⟨X, hX⟩ : ∃ X : Obj, X = .cells #[.int .u8 (b0.toNat : Int), .int .u8 (b1.toNat : Int), .int .u8 (b2.toNat : Int), .int .u8 (b3.toNat : Int)] 60 := ⟨_, rfl⟩
  have hq3 : QBox (w5.alloc X) w5.heap.size (loB 4 q) := by rw [hX, hbs]; exact heap_alloc_new w5 _
  have hz4 := HB4.out.size
  have hz5 := hb5.size
  have hrd := hq3.rd (B := w5.heap.size + 1) (by omega) (by rw [loB_length]; omega)
  rw [loB_length] at hrd
  have hb6 := hb5.alloc hz5 X
  have ho6 := HV4'.out.below hb6
  have hz6 : w.heap.size ≤ (w5.alloc X).heap.size := by simp; omega
  have hb7 := HB4.out.trans (hb6.mono hz4)
  rw [hX] at hrd ho6 hz6 hb7
  have HRD := Lib.hid hrd
  have HO6 := Lib.hid ho6
  have HZ6 := Lib.hid hz6
  have HB7 := Lib.hid hb7
  obtain ⟨A, c, rfl, -⟩ := HV4'.out.rdY
  clear hbs ear hX hq3 hz4 hz5 hb5 hrd hb6 ho6 hz6 hb7 HB4 HR4
  go_wp2_with (at_builtin; go_must (refine append_bytesY rfl _ _ rfl w.heap.size _ h rfl HO6.out _ _ (loB 4 q) rfl HRD.out HZ6.out (by have := HHL.out; rw [loB_length]; omega) ?_))
  intro v7 w7 hv7 hg7
  have HX : Hid (OwnB w7 w.heap.size v7 (codeT k i t) ∧ Below w.heap.size w w7) := Lib.hid ⟨by unfold codeT; rw [← HH.out, ← HQ.out]; exact hv7, below_ownY HB7.out HO6.out HZ6.out hg7⟩
  clear hv7 hg7
  go_wp2_with fail
  go_ret2
  exact ⟨v7, rfl, HX.out.1, HX.out.2⟩
end Go.Proofs.Ytlhkcpfjnhbocaa
