/- The document's Set, plain; and where no step is left. -/
import Derived.Test.YtnamdlljdgllmaaGreatKTtD
namespace Go.Proofs.YtnamdlljdgllmaaGreat
open Lib (hid)
set_option linter.unusedVariables false
set_option linter.unusedSimpArgs false
open Go.RowKit
def emptyD : VT := .mk 7 0 ⟨#[]⟩ [] []
def setO (x : VT) : VT → List ByteArray → VT × Bool
  | _, [] => (x, true)
  | t, s :: r => if placeT t s < 0 then
      (if t.kind = 7 then (withT t t.items.length s (setO x emptyD r).1, (setO x emptyD r).2)
       else if t.kind = 6 ∧ r = [] ∧ idxI s.data.toList = (t.items.length : Int) then (withT t t.items.length ⟨#[]⟩ x, true) else (t, false))
    else match t.items[(placeT t s).toNat]? with
      | none => (t, false)
      | some y => (withT t (placeT t s) ⟨#[]⟩ (setO x y r).1, (setO x y r).2)
theorem setO_on {x t : VT} {s : ByteArray} {r : List ByteArray} (h : 0 ≤ placeT t s) (hj : (placeT t s).toNat < t.items.length) :
    setO x t (s :: r) = (withT t (placeT t s) ⟨#[]⟩ (setO x t.items[(placeT t s).toNat] r).1, (setO x t.items[(placeT t s).toNat] r).2) := by
  conv => lhs; unfold setO
  rw [if_neg (by omega), List.getElem?_eq_getElem hj]
theorem setO_off {x t : VT} {s : ByteArray} {r : List ByteArray} (h : placeT t s < 0) :
    setO x t (s :: r) = if t.kind = 7 then (withT t t.items.length s (setO x emptyD r).1, (setO x emptyD r).2)
       else if t.kind = 6 ∧ r = [] ∧ idxI s.data.toList = (t.items.length : Int) then (withT t t.items.length ⟨#[]⟩ x, true) else (t, false) := by
  conv => lhs; unfold setO
  rw [if_pos h]
theorem empty_may : mayT emptyD = true := by kernel_rfl
theorem empty_small : smallT emptyD := by
  show lensT 10000 emptyD = true
  kernel_rfl
def SetR (S : Nat → Prop) (res : VT × Bool) (w : World) (e : Ending) (w' : World) : Prop :=
  ∃ v', e = .returned (.tuple #[v', .bool res.2]) ∧ LV w' (fun b => S b ∨ (w.heap.size ≤ b ∧ b < w'.heap.size)) res.1 v' ∧ Below w.heap.size w w'
def RSetO (p : List ByteArray) : Prop := ∀ (S : Nat → Prop) (t x : VT) (v vx : Value) (A : Option Addr) (c : Nat) (w : World), (∀ b, S b → b < w.heap.size) → LV w S t v → LV w S x vx → mayT t = true → smallT t → StrsAt w S A p → p.length ≤ c → c ≤ 9223372036854775807 → p.length ≤ 140737488351232 →
  Calls Tryz.prog 60 #[v, .slice A p.length c, vx] w (SetR S (setO x t p) w)
theorem set_end {S : Nat → Prop} {w w5 : World} {m g : Nat} {u : VT} {ok : Bool} {res : VT × Bool} {c0 c1 c2 c3 c4 : Value} (hS : ∀ b, S b → b < w.heap.size) (hb : Below w.heap.size w w5) (hg : w.heap.size ≤ g) (hm : g < m) (hv : LV w5 (fun b => S b ∨ (m ≤ b ∧ b < w5.heap.size)) u (.agg #[c0, c1, c2, c3, c4])) (hr : res = (u, ok)) :
    SetR S res w (.returned (.tuple #[.agg #[c0, c1, c2, c3, c4], .bool ok])) (five w5 g 0 c0 c1 c2 c3 c4) := by
  have hr5 := five_rest w5 g 0 c0 c1 c2 c3 c4
  have hz := five_size w5 g 0 c0 c1 c2 c3 c4
  have hk : ∀ b, b ≠ g → (five w5 g 0 c0 c1 c2 c3 c4).heap[b]? = w5.heap[b]? := fun b hb' => five_other _ _ _ _ _ _ _ _ b hb'
  subst hr
  exact ⟨_, rfl, (hv.keep fun b hb' => hk b (hb'.elim (fun e => by have := hS b e; omega) (fun e => by have := e.1; omega))).imp fun b hb' => hb'.imp id fun e => ⟨by have := e.1; omega, by rw [hz]; exact e.2⟩, ⟨hr5.1.trans hb.os, hr5.2.1.trans hb.tape, hr5.2.2.trans hb.output, by rw [hz]; exact hb.size, fun b hb' => (hk b (by omega)).trans (hb.block b hb')⟩⟩
set_option maxHeartbeats 4000000 in
set_option maxRecDepth 100000 in
theorem rset_nil : RSetO [] := by
  intro S t x v vx A c w hS h hx hm hsm hp hpc h63 hn
  obtain ⟨A0, c0, A0', c0', B0, d0, B0', d0', rfl, rfl, -, -, -, -, -, hV, hX, hb0⟩ := two_vars hS h hx
  have hz0 : ((w.alloc (.cells #[.int .i64 t.kind, .int .i64 t.num, .string t.text, .slice A0 t.items.length c0, .slice A0' t.names.length c0'] 29)).alloc (.cells #[.int .i64 x.kind, .int .i64 x.num, .string x.text, .slice B0 x.items.length d0, .slice B0' x.names.length d0'] 29)).heap.size = w.heap.size + 2 := by simp
  have hR := Box.new (w := ((w.alloc (.cells #[.int .i64 t.kind, .int .i64 t.num, .string t.text, .slice A0 t.items.length c0, .slice A0' t.names.length c0'] 29)).alloc (.cells #[.int .i64 x.kind, .int .i64 x.num, .string x.text, .slice B0 x.items.length d0, .slice B0' x.names.length d0'] 29))) (.int .i64 0) (.int .i64 0) (.string ⟨#[]⟩) (.slice none 0 0) (.slice none 0 0)
  rw [hz0] at hR
  have hbr := below_box (w := ((w.alloc (.cells #[.int .i64 t.kind, .int .i64 t.num, .string t.text, .slice A0 t.items.length c0, .slice A0' t.names.length c0'] 29)).alloc (.cells #[.int .i64 x.kind, .int .i64 x.num, .string x.text, .slice B0 x.items.length d0, .slice B0' x.names.length d0'] 29))) (.cells #[.int .i64 0, .int .i64 0, .string ⟨#[]⟩, .slice none 0 0, .slice none 0 0] 29)
  have hX0 := hX
  have HB0 := hid hb0
  replace hX := hX.call hbr
  have HB := hid (toStart hb0 hbr)
  have HS := hid hS
  clear h hx hb0 hbr hS hV hp hm hsm
  have x0 := hX.x.c0
  have x1 := hX.x.c1
  have x2 := hX.x.c2
  have x3 := hX.x.c3
  have x4 := hX.x.c4
  have hbx := below_box (w := ((w.alloc (.cells #[.int .i64 t.kind, .int .i64 t.num, .string t.text, .slice A0 t.items.length c0, .slice A0' t.names.length c0'] 29)).alloc (.cells #[.int .i64 x.kind, .int .i64 x.num, .string x.text, .slice B0 x.items.length d0, .slice B0' x.names.length d0'] 29))) (.cells #[.int .i64 x.kind, .int .i64 x.num, .string x.text, .slice B0 x.items.length d0, .slice B0' x.names.length d0'] 29)
  have HX := hid hX0
  have HBX := hid (toStart HB0.out hbx)
  have hgx := heap_alloc_new ((w.alloc (.cells #[.int .i64 t.kind, .int .i64 t.num, .string t.text, .slice A0 t.items.length c0, .slice A0' t.names.length c0'] 29)).alloc (.cells #[.int .i64 x.kind, .int .i64 x.num, .string x.text, .slice B0 x.items.length d0, .slice B0' x.names.length d0'] 29)) (.cells #[.int .i64 x.kind, .int .i64 x.num, .string x.text, .slice B0 x.items.length d0, .slice B0' x.names.length d0'] 29)
  rw [hz0] at hgx
  have hfin : SetR S (setO x t []) w (.returned (.tuple #[.agg #[.int .i64 x.kind, .int .i64 x.num, .string x.text, .slice B0 x.items.length d0, .slice B0' x.names.length d0'], .bool true])) (((w.alloc (.cells #[.int .i64 t.kind, .int .i64 t.num, .string t.text, .slice A0 t.items.length c0, .slice A0' t.names.length c0'] 29)).alloc (.cells #[.int .i64 x.kind, .int .i64 x.num, .string x.text, .slice B0 x.items.length d0, .slice B0' x.names.length d0'] 29)).alloc (.cells #[.int .i64 x.kind, .int .i64 x.num, .string x.text, .slice B0 x.items.length d0, .slice B0' x.names.length d0'] 29)) :=
    ⟨_, rfl, ((HX.out.v.keep fun b hb => hbx.block b (HX.out.s b hb))).imp fun b hb => .inl hb, HBX.out⟩
  have HF := hid hfin
  have HG := hid hgx
  clear hX hR hbx hfin hgx hz0 hX0
  go_enter Tryz.func60, Tryz.ntmps60
  go_wp2_with fail
  (try simp only [Exit.inBlock, Exit.then])
  refine bodyPost_ret (results_cell_two rfl _ _ (w.heap.size + 2) 29 _ (0, 0) rfl HG.out (by kernel_rfl)) rfl ?_
  exact HF.out
set_option maxHeartbeats 8000000 in
set_option maxRecDepth 100000 in
theorem rset_step (s : ByteArray) (r : List ByteArray) (ih : RSetO r) : RSetO (s :: r) := by
  intro S t x v vx A c w hS h hx hm hsm hp hpc h63 hn
  obtain ⟨A0, c0, A0', c0', B0, d0, B0', d0', rfl, rfl, -, hva, -, -, -, hV, hX, hb0⟩ := two_vars hS h hx
  have hz0 : ((w.alloc (.cells #[.int .i64 t.kind, .int .i64 t.num, .string t.text, .slice A0 t.items.length c0, .slice A0' t.names.length c0'] 29)).alloc (.cells #[.int .i64 x.kind, .int .i64 x.num, .string x.text, .slice B0 x.items.length d0, .slice B0' x.names.length d0'] 29)).heap.size = w.heap.size + 2 := by simp
  have hR := Box.new (w := ((w.alloc (.cells #[.int .i64 t.kind, .int .i64 t.num, .string t.text, .slice A0 t.items.length c0, .slice A0' t.names.length c0'] 29)).alloc (.cells #[.int .i64 x.kind, .int .i64 x.num, .string x.text, .slice B0 x.items.length d0, .slice B0' x.names.length d0'] 29))) (.int .i64 0) (.int .i64 0) (.string ⟨#[]⟩) (.slice none 0 0) (.slice none 0 0)
  rw [hz0] at hR
  have hbr := below_box (w := ((w.alloc (.cells #[.int .i64 t.kind, .int .i64 t.num, .string t.text, .slice A0 t.items.length c0, .slice A0' t.names.length c0'] 29)).alloc (.cells #[.int .i64 x.kind, .int .i64 x.num, .string x.text, .slice B0 x.items.length d0, .slice B0' x.names.length d0'] 29))) (.cells #[.int .i64 0, .int .i64 0, .string ⟨#[]⟩, .slice none 0 0, .slice none 0 0] 29)
  replace hV := hV.call hbr
  replace hX := hX.call hbr
  have HB := hid (toStart hb0 hbr)
  obtain ⟨b, off, rfl, hb, hpx⟩ := hp (by simp)
  have hs0 := (hpx 0 (by simp)).1
  have hs1 := (hpx 0 (by simp)).2
  simp only [List.getElem_cons_zero, Nat.add_zero] at hs0 hs1
  have HP := hid hp
  have HM := hid (And.intro hm hsm)
  have HVA := hid hva
  have HLV := hid h
  have HLX := hid hx
  have HS := hid hS
  have hbS := hS b hb
  clear hb0 hz0 hp hpx hm hsm h hx hS hbr hva
  have hlen : ((0 : Int) == ((s :: r).length : Int)) = false := by first | (simp; done) | (simp; omega)
  have hlen2 : (((s :: r).length : Int) == (0 : Int)) = false := by first | (simp; done) | (simp; omega)
  have hl1 : (0 : Int) < ((s :: r).length : Int) := by first | (simp; done) | (simp; omega)
  go_enter Tryz.func60, Tryz.ntmps60
  go_wp2_with fail
  generalize (((w.alloc (.cells #[.int .i64 t.kind, .int .i64 t.num, .string t.text, .slice A0 t.items.length c0, .slice A0' t.names.length c0'] 29)).alloc (.cells #[.int .i64 x.kind, .int .i64 x.num, .string x.text, .slice B0 x.items.length d0, .slice B0' x.names.length d0'] 29)).alloc (.cells #[.int .i64 0, .int .i64 0, .string ⟨#[]⟩, .slice none 0 0, .slice none 0 0] 29)) = w0 at *
  have hdr : Below w0.heap.size w0 w0.drew := (Below.refl _ _).drew
  replace hV := hV.call hdr
  replace hX := hX.call hdr
  replace hR := Box.call hR hdr
  replace HB := hid (toStart HB.out hdr)
  clear hdr
  generalize hwd : w0.drew = wd at *
  refine wp_region_OT (Keep2 (w.heap.size + 2) (w.heap.size + 2)) (Keep2.refl _ _) (Keep2.trans _ _) [5] (.pure [0, 1, 2, 3] (.step 4 (.step 5 (.tail [])))) (by kernel_rfl) (by kernel_rfl) (fun _ d _ _ _ h => by cases d <;> exact h) ?_
  rw [hwd]
  clear hwd
  have kq : ∀ (p : LaterR (Keep2 (w.heap.size + 2) (w.heap.size + 2)) wd) (q o : Nat), q ≤ w.heap.size + 1 → p.u.cell? ⟨q, o, none⟩ = wd.cell? ⟨q, o, none⟩ := fun p q o hq => World.cell?_of_block (a := ⟨q, o, none⟩) (p.h.2 q (by have := hX.x.lt; omega) (by omega) (by omega))
  have y0 := fun p : LaterR (Keep2 (w.heap.size + 2) (w.heap.size + 2)) wd => (kq p w.heap.size 0 (by omega)).trans hV.x.c0
  have y1 := fun p : LaterR (Keep2 (w.heap.size + 2) (w.heap.size + 2)) wd => (kq p w.heap.size 1 (by omega)).trans hV.x.c1
  have y2 := fun p : LaterR (Keep2 (w.heap.size + 2) (w.heap.size + 2)) wd => (kq p w.heap.size 2 (by omega)).trans hV.x.c2
  have y3 := fun p : LaterR (Keep2 (w.heap.size + 2) (w.heap.size + 2)) wd => (kq p w.heap.size 3 (by omega)).trans hV.x.c3
  have y4 := fun p : LaterR (Keep2 (w.heap.size + 2) (w.heap.size + 2)) wd => (kq p w.heap.size 4 (by omega)).trans hV.x.c4
  have hsw : wd.cell? ⟨b, off, none⟩ = some (.string s) := (HB.out.cell (p := ⟨b, off, none⟩) hbS).trans hs0
  have ysv := fun p : LaterR (Keep2 (w.heap.size + 2) (w.heap.size + 2)) wd => (kq p b off (by omega)).trans hsw
  have HPL := hid (place_any _ t _ s wd hV.s hV.v hs1)
  have HV := hid hV
  have HX := hid hX
  have HR := hid hR
  have HSW := hid hs0
  clear kq hsw hV hX hR hs0
  refine ot_pure ?_
  simp only [atR]
  show wpQuiet _ _ _ _ [_, _, _, _] _
  try simp only [acR, Act.put]
  repeat (go_big_quiet_step (fail))
  refine wpQuiet_nil ?_
  clear y0 y1 y2 y3 y4 ysv
  refine ot_step rfl (fun K hK => ?_)
  go_simp
  refine HPL.out.mono ?_
  rintro e w1 ⟨rfl, hb1⟩
  refine hK _ _ (.inr (Keep2.of hb1)) ?_
  clear hK K HPL
  refine ot_step rfl (fun K hK => ?_)
  go_simp
  refine hK _ _ (.inl (by decide)) ?_
  clear hK K
  refine ot_end ?_
  have hV := HV.out.call hb1
  have hX := HX.out.call hb1
  have hR := Box.call HR.out hb1
  replace HB := hid (toStart HB.out hb1)
  clear HV HX HR
  clear hb1
  obtain ⟨P, hP⟩ : ∃ P, P = placeT t s := ⟨_, rfl⟩
  rw [← hP]
  have HPP := hid hP
  have hll := HM.out.2.lens
  clear hP
  by_cases hneg : P < 0
  · have hneg2 : decide (P < 0) = true := decide_eq_true hneg
    by_cases h7 : t.kind = 7
    · have hk7 : (t.kind == 7) = true := by rw [h7]; rfl
      have H7 := hid h7
      have HOFF := hid (setO_off (x := x) (r := r) (show placeT t s < 0 by rw [← HPP.out]; exact hneg))
      clear h7
      have hc1 : r.length + 1 ≤ c := by simpa using hpc
      have hn1 : r.length + 1 ≤ 140737488351232 := by simpa using hn
      have y0 := hV.x.c0
      have y1 := hV.x.c1
      have y2 := hV.x.c2
      have y3 := hV.x.c3
      have y4 := hV.x.c4
      go_wp2_with fail
      clear y0 y1 y2 y3 y4
      have hdr : Below w1.heap.size w1 w1.drew := (Below.refl _ _).drew
      replace hV := hV.call hdr
      replace hX := hX.call hdr
      replace hR := Box.call hR hdr
      replace HB := hid (toStart HB.out hdr)
      clear hdr
      generalize hwd : w1.drew = wd at *
      have hzd := hR.lt
      have hSd : ∀ b, S b → b < wd.heap.size := fun b hb => Nat.lt_of_lt_of_le (HS.out b hb) HB.out.size
      have kq : ∀ (p : LaterR (Keep2 (w.heap.size + 2) (w.heap.size + 2)) wd) (q o : Nat), q ≤ w.heap.size + 1 → p.u.cell? ⟨q, o, none⟩ = wd.cell? ⟨q, o, none⟩ := fun p q o hq => World.cell?_of_block (a := ⟨q, o, none⟩) (p.h.2 q (by omega) (by omega) (by omega))
      have q0 := fun p : LaterR (Keep2 (w.heap.size + 2) (w.heap.size + 2)) wd => (kq p (w.heap.size + 1) 0 (by omega)).trans hX.x.c0
      have q1 := fun p : LaterR (Keep2 (w.heap.size + 2) (w.heap.size + 2)) wd => (kq p (w.heap.size + 1) 1 (by omega)).trans hX.x.c1
      have q2 := fun p : LaterR (Keep2 (w.heap.size + 2) (w.heap.size + 2)) wd => (kq p (w.heap.size + 1) 2 (by omega)).trans hX.x.c2
      have q3 := fun p : LaterR (Keep2 (w.heap.size + 2) (w.heap.size + 2)) wd => (kq p (w.heap.size + 1) 3 (by omega)).trans hX.x.c3
      have q4 := fun p : LaterR (Keep2 (w.heap.size + 2) (w.heap.size + 2)) wd => (kq p (w.heap.size + 1) 4 (by omega)).trans hX.x.c4
      have hgz : w.heap.size + 3 ≤ wd.heap.size := by omega
      clear kq
      by_cases hce : c = 1
      focus
        obtain rfl : r = [] := by cases r with | nil => rfl | cons a b => exact absurd hc1 (by simp; omega)
        subst hce
        have htl : StrsAt w S (some ⟨b, off, none⟩) ([] : List ByteArray) := fun h => absurd h (by simp)
        have IH := hid (fun (W : World) (hW : Below wd.heap.size wd W) => ih S emptyD x _ _ (some ⟨b, off, none⟩) 0 W (fun b hb => Nat.lt_of_lt_of_le (hSd b hb) hW.size) (leaf_lv W S 7 0 ⟨#[]⟩ (by unfold Rng; omega) (by unfold Rng; omega) (by decide)) (HLX.out.keep (w' := W) fun b hb => (hW.block b (hSd b hb)).trans (HB.out.block b (HS.out b hb))) empty_may empty_small (htl.keep (w' := W) fun b hb => (hW.block b (hSd b hb)).trans (HB.out.block b (HS.out b hb))) (Nat.le_refl _) (by omega) (by decide))
      rotate_left
      focus
        have hce1 : 1 < c := by omega
        have hce2 : (1 : Int) < (c : Int) := by omega
        have htl : StrsAt w S (some ⟨b, off + 1, none⟩) r := by
          have := HP.out.tail (c := c) (.inr hce1)
          have ht : tailA (some ⟨b, off, none⟩) c = some ⟨b, off + 1, none⟩ := by
            unfold tailA
            rw [if_neg hce]
            simp [add_at]
          rw [ht] at this
          exact this
        have IH := hid (fun (W : World) (hW : Below wd.heap.size wd W) => ih S emptyD x _ _ (some ⟨b, off + 1, none⟩) (c - 1) W (fun b hb => Nat.lt_of_lt_of_le (hSd b hb) hW.size) (leaf_lv W S 7 0 ⟨#[]⟩ (by unfold Rng; omega) (by unfold Rng; omega) (by decide)) (HLX.out.keep (w' := W) fun b hb => (hW.block b (hSd b hb)).trans (HB.out.block b (HS.out b hb))) empty_may empty_small (htl.keep (w' := W) fun b hb => (hW.block b (hSd b hb)).trans (HB.out.block b (HS.out b hb))) (by omega) (by omega) (by omega))
      all_goals
        have HV := hid hV
        have HX := hid hX
        have HR := hid hR
        have HSD := hid hSd
        clear hV hX hR htl hSd
        refine wp_region_OT (Keep2 (w.heap.size + 2) (w.heap.size + 2)) (Keep2.refl _ _) (Keep2.trans _ _) [9, 10] (.pure [1, 2, 3] (.fork 0 (.fork 4 (.free [5, 6, 7] (.step 8 (.tail [9, 10]))) 8 (.step 4 (.free [5, 6, 7] (.tail [9, 10])))) 8 (.step 0 (.step 4 (.free [5, 6, 7] (.tail [9, 10])))))) (by kernel_rfl) (by kernel_rfl) (fun _ d _ _ _ h => by cases d <;> exact h) ?_
        rw [hwd]
        clear hwd
        refine ot_pure ?_
        simp only [atR]
        show wpQuiet _ _ _ _ [_, _, _] _
        try simp only [acR, Act.put]
        repeat (go_big_quiet_step (fail))
        refine wpQuiet_nil ?_
        clear q0 q1 q2 q3 q4
        refine ot_fork rfl rfl (fun K hK => ?_) (fun K hK => ?_)
        focus
          go_simp
          refine hK _ _ (.inr (Keep2.refl _ _ _)) ?_
          clear hK K
          refine ot_fork rfl rfl (fun K hK => ?_) (fun K hK => ?_)
        rotate_left
        iterate 2
          focus
            go_simp
            refine hK _ _ (.inr (Keep2.of (below_box _))) ?_
            clear hK K
            have hbn := below_box (w := wd) (.cells #[.int .i64 0, .int .i64 0, .string ⟨#[]⟩, .slice none 0 0, .slice none 0 0] 29)
            have hzb : (wd.alloc (.cells #[.int .i64 0, .int .i64 0, .string ⟨#[]⟩, .slice none 0 0, .slice none 0 0] 29)).heap.size = wd.heap.size + 1 := by simp
            have hYB := Box.new (w := wd) (.int .i64 0) (.int .i64 0) (.string ⟨#[]⟩) (.slice none 0 0) (.slice none 0 0)
            have HNB := hid hbn
            have hV := HV.out.call hbn
            have hX := HX.out.call hbn
            have hR := Box.call HR.out hbn
            replace HB := hid (toStart HB.out hbn)
            clear HV HX HR
            have HV := hid hV
            have HX := hid hX
            have HR := hid hR
            have HYB := hid hYB
            clear hbn hV hX hR hYB
            generalize wd.alloc (.cells #[.int .i64 0, .int .i64 0, .string ⟨#[]⟩, .slice none 0 0, .slice none 0 0] 29) = wa at *
            refine ot_step rfl (fun K hK => ?_)
            go_simp
            first
              | refine (IH.out wa HNB.out).mono ?_
              | refine hK _ _ (.inr (Keep2.refl _ _ _)) ?_
                clear hK K
                refine ot_step rfl (fun K hK => ?_)
                go_simp
                refine (IH.out wa HNB.out).mono ?_
            rintro e w2 ⟨v', rfl, hv, hb2⟩
            obtain ⟨A4, e4, A5, e5, rfl, -⟩ := hv.shape
            refine hK _ _ (.inr (Keep2.of hb2)) ?_
            clear hK K
            first
              | have _g := hce1
                obtain ⟨Y, hY⟩ : ∃ Y, Y = (setO x emptyD r).1 := ⟨_, rfl⟩
                obtain ⟨OK, hOK⟩ : ∃ OK, OK = (setO x emptyD r).2 := ⟨_, rfl⟩
              | obtain ⟨Y, hY⟩ : ∃ Y, Y = (setO x emptyD []).1 := ⟨_, rfl⟩
                obtain ⟨OK, hOK⟩ : ∃ OK, OK = (setO x emptyD []).2 := ⟨_, rfl⟩
            rw [← hY] at hv ⊢
            rw [← hOK]
            have HY2 := hid (And.intro hY hOK)
            clear hY hOK
            refine ot_free ?_
            simp only [atR]
            show wpQuiet _ _ _ _ [_, _, _] _
            try simp only [acR, Act.put]
            repeat (go_big_quiet_step (fail))
            refine wpQuiet_nil ?_
            have hV := HV.out.call hb2
            have hX := HX.out.call hb2
            have hR := Box.call HR.out hb2
            replace HB := hid (toStart HB.out hb2)
            clear HV HX HR
            have hYB := Box.call HYB.out hb2
            have hz2 := hb2.size
            have gc0 := hYB.c0
            have gc1 := hYB.c1
            have gc2 := hYB.c2
            have gc3 := hYB.c3
            have gc4 := hYB.c4
            have gf0 := hYB.free 0
            have gf1 := hYB.free 1
            have gf2 := hYB.free 2
            have gf3 := hYB.free 3
            have gf4 := hYB.free 4
            have HYB := hid hYB
            clear hYB
            refine ot_last rfl (fun K hK => ?_)
            go_simp
            refine hK _ _ ?_
            clear hK K
            refine ot_last rfl (fun K hK => ?_)
            go_simp
            refine hK _ _ ?_
            clear hK K
            refine ot_end ?_
            generalize hw3 : (((((w2.setCell ⟨wd.heap.size, 0, none⟩ (.int .i64 Y.kind)).setCell ⟨wd.heap.size, 1, none⟩ (.int .i64 Y.num)).setCell ⟨wd.heap.size, 2, none⟩ (.string Y.text)).setCell ⟨wd.heap.size, 3, none⟩ (.slice A4 Y.items.length e4)).setCell ⟨wd.heap.size, 4, none⟩ (.slice A5 Y.names.length e5)) = w3 at *
            have h5 : five w2 wd.heap.size 0 (.int .i64 Y.kind) (.int .i64 Y.num) (.string Y.text) (.slice A4 Y.items.length e4) (.slice A5 Y.names.length e5) = w3 := hw3
            clear hw3
            have hk5 := five_other w2 wd.heap.size 0 (.int .i64 Y.kind) (.int .i64 Y.num) (.string Y.text) (.slice A4 Y.items.length e4) (.slice A5 Y.names.length e5)
            have hz5 := five_size w2 wd.heap.size 0 (.int .i64 Y.kind) (.int .i64 Y.num) (.string Y.text) (.slice A4 Y.items.length e4) (.slice A5 Y.names.length e5)
            have hr5 := five_rest w2 wd.heap.size 0 (.int .i64 Y.kind) (.int .i64 Y.num) (.string Y.text) (.slice A4 Y.items.length e4) (.slice A5 Y.names.length e5)
            have hYb := five_box (c0 := .int .i64 Y.kind) (c1 := .int .i64 Y.num) (c2 := .string Y.text) (c3 := .slice A4 Y.items.length e4) (c4 := .slice A5 Y.names.length e5) HYB.out
            rw [h5] at hk5 hz5 hr5 hYb
            have hgw3 : w.heap.size + 3 ≤ w3.heap.size := by rw [hz5]; omega
            have hne : ∀ b, S b → b ≠ wd.heap.size := fun b hb => by have := HSD.out b hb; omega
            have hY : Vr w3 (fun b => S b ∨ (w.heap.size + 3 ≤ b ∧ b < w3.heap.size)) wd.heap.size Y A4 e4 A5 e5 := ⟨hYb, (hv.keep fun b hb => hk5 b (hb.elim (hne b) fun e => by have := e.1; omega)).imp fun b hb => hb.imp id fun e => ⟨by have := e.1; omega, by rw [hz5]; exact e.2⟩, fun b hb => hb.elim (fun e => by have := HSD.out b e; omega) fun e => e.2⟩
            replace hV : Vr w3 S w.heap.size t _ _ _ _ := ⟨(hk5 _ (by omega)).trans hV.x, hV.v.keep fun b hb => hk5 b (hne b hb), fun b hb => by rw [hz5]; exact hV.s b hb⟩
            replace hX : Vr w3 S (w.heap.size + 1) x _ _ _ _ := ⟨(hk5 _ (by omega)).trans hX.x, hX.v.keep fun b hb => hk5 b (hne b hb), fun b hb => by rw [hz5]; exact hX.s b hb⟩
            replace hR : Box w3 (w.heap.size + 2) _ _ _ _ _ := (hk5 _ (by omega)).trans hR
            replace HB : Hid (Below w.heap.size w w3) := ⟨hr5.1.trans HB.out.os, hr5.2.1.trans HB.out.tape, hr5.2.2.trans HB.out.output, by rw [hz5]; exact HB.out.size, fun b hb => (hk5 b (by omega)).trans (HB.out.block b hb)⟩
            clear gc0 gc1 gc2 gc3 gc4 gf0 gf1 gf2 gf3 gf4 hk5 hz5 hr5 hYb h5 hv hb2 HYB HNB IH HP HLV HLX HVA
            have hgy : wd.heap.size ≠ w.heap.size + 2 := by omega
          rotate_left
        focus
          go_simp
          refine (IH.out wd (Below.refl _ _)).mono ?_
          rintro e w2 ⟨v', rfl, hv, hb2⟩
          obtain ⟨A4, e4, A5, e5, rfl, -⟩ := hv.shape
          refine hK _ _ (.inr (Keep2.of hb2)) ?_
          clear hK K
          first
            | have _g := hce1
              obtain ⟨Y, hY⟩ : ∃ Y, Y = (setO x emptyD r).1 := ⟨_, rfl⟩
              obtain ⟨OK, hOK⟩ : ∃ OK, OK = (setO x emptyD r).2 := ⟨_, rfl⟩
            | obtain ⟨Y, hY⟩ : ∃ Y, Y = (setO x emptyD []).1 := ⟨_, rfl⟩
              obtain ⟨OK, hOK⟩ : ∃ OK, OK = (setO x emptyD []).2 := ⟨_, rfl⟩
          rw [← hY] at hv ⊢
          rw [← hOK]
          have HY2 := hid (And.intro hY hOK)
          clear hY hOK
          refine ot_free ?_
          simp only [atR]
          show wpQuiet _ _ _ _ [_, _, _] _
          try simp only [acR, Act.put]
          repeat (go_big_quiet_step (fail))
          refine wpQuiet_nil ?_
          refine ot_step rfl (fun K hK => ?_)
          go_simp
          refine hK _ _ (.inr (Keep2.of (below_box _))) ?_
          clear hK K
          refine ot_last rfl (fun K hK => ?_)
          go_simp
          refine hK _ _ ?_
          clear hK K
          refine ot_last rfl (fun K hK => ?_)
          go_simp
          refine hK _ _ ?_
          clear hK K
          refine ot_end ?_
          have hV := HV.out.call hb2
          have hX := HX.out.call hb2
          have hR := Box.call HR.out hb2
          replace HB := hid (toStart HB.out hb2)
          clear HV HX HR
          have hbn := below_box (w := w2) (.cells #[.int .i64 Y.kind, .int .i64 Y.num, .string Y.text, .slice A4 Y.items.length e4, .slice A5 Y.names.length e5] 29)
          have hz2 := hb2.size
          have hY : Vr (w2.alloc (.cells #[.int .i64 Y.kind, .int .i64 Y.num, .string Y.text, .slice A4 Y.items.length e4, .slice A5 Y.names.length e5] 29)) (fun b => S b ∨ (w.heap.size + 3 ≤ b ∧ b < w2.heap.size)) w2.heap.size Y A4 e4 A5 e5 := Vr.new (fun b hb => hb.elim (fun e => Nat.lt_of_lt_of_le (HSD.out b e) hz2) fun e => e.2) (hv.imp fun b hb => hb.imp id fun e => ⟨by omega, e.2⟩)
          have hzb : (w2.alloc (.cells #[.int .i64 Y.kind, .int .i64 Y.num, .string Y.text, .slice A4 Y.items.length e4, .slice A5 Y.names.length e5] 29)).heap.size = w2.heap.size + 1 := by simp
          replace hV := hV.call hbn
          replace hX := hX.call hbn
          replace hR := Box.call hR hbn
          replace HB := hid (toStart HB.out hbn)
          clear hbn hv hb2
          generalize w2.alloc (.cells #[.int .i64 Y.kind, .int .i64 Y.num, .string Y.text, .slice A4 Y.items.length e4, .slice A5 Y.names.length e5] 29) = w3 at *
          have hY : Vr w3 (fun b => S b ∨ (w.heap.size + 3 ≤ b ∧ b < w3.heap.size)) w2.heap.size Y A4 e4 A5 e5 := ⟨hY.x, hY.v.imp fun b hb => hb.imp id fun e => ⟨e.1, by omega⟩, fun b hb => hb.elim (fun e => by have := HSD.out b e; omega) fun e => e.2⟩
          clear IH HP HLV HLX HVA
          have hgy : w2.heap.size ≠ w.heap.size + 2 := by omega
        all_goals
          have hgz3 : w.heap.size + 3 ≤ w3.heap.size := by omega
          have hYl := hY.x.lt
          go_wp2_with fail
          have hdr : Below w3.heap.size w3 w3.drew := (Below.refl _ _).drew
          replace hV := hV.call hdr
          replace hX := hX.call hdr
          replace hY := hY.call hdr
          replace hR := Box.call hR hdr
          replace HB := hid (toStart HB.out hdr)
          have hdz := hdr.size
          clear hdr
          generalize hwe : w3.drew = we at *
          have hsw : we.cell? ⟨b, off, none⟩ = some (.string s) := (HB.out.cell (p := ⟨b, off, none⟩) hbS).trans HSW.out
          have kq : ∀ (p : LaterR (Keep2 (w.heap.size + 2) (w.heap.size + 2)) we) (q o : Nat), q < we.heap.size → q ≠ w.heap.size + 2 → p.u.cell? ⟨q, o, none⟩ = we.cell? ⟨q, o, none⟩ := fun p q o hq hne => World.cell?_of_block (a := ⟨q, o, none⟩) (p.h.2 q hq hne hne)
          have y0 := fun p : LaterR (Keep2 (w.heap.size + 2) (w.heap.size + 2)) we => (kq p w.heap.size 0 hV.x.lt (by omega)).trans hV.x.c0
          have y1 := fun p : LaterR (Keep2 (w.heap.size + 2) (w.heap.size + 2)) we => (kq p w.heap.size 1 hV.x.lt (by omega)).trans hV.x.c1
          have y2 := fun p : LaterR (Keep2 (w.heap.size + 2) (w.heap.size + 2)) we => (kq p w.heap.size 2 hV.x.lt (by omega)).trans hV.x.c2
          have y3 := fun p : LaterR (Keep2 (w.heap.size + 2) (w.heap.size + 2)) we => (kq p w.heap.size 3 hV.x.lt (by omega)).trans hV.x.c3
          have y4 := fun p : LaterR (Keep2 (w.heap.size + 2) (w.heap.size + 2)) we => (kq p w.heap.size 4 hV.x.lt (by omega)).trans hV.x.c4
          have z0 := fun p : LaterR (Keep2 (w.heap.size + 2) (w.heap.size + 2)) we => (kq p _ 0 hY.x.lt hgy).trans hY.x.c0
          have z1 := fun p : LaterR (Keep2 (w.heap.size + 2) (w.heap.size + 2)) we => (kq p _ 1 hY.x.lt hgy).trans hY.x.c1
          have z2 := fun p : LaterR (Keep2 (w.heap.size + 2) (w.heap.size + 2)) we => (kq p _ 2 hY.x.lt hgy).trans hY.x.c2
          have z3 := fun p : LaterR (Keep2 (w.heap.size + 2) (w.heap.size + 2)) we => (kq p _ 3 hY.x.lt hgy).trans hY.x.c3
          have z4 := fun p : LaterR (Keep2 (w.heap.size + 2) (w.heap.size + 2)) we => (kq p _ 4 hY.x.lt hgy).trans hY.x.c4
          have ysv := fun p : LaterR (Keep2 (w.heap.size + 2) (w.heap.size + 2)) we => (kq p b off (by have := HB.out.size; omega) (by omega)).trans hsw
          have HWI := hid (rwith_any (fun b => S b ∨ (w.heap.size + 3 ≤ b ∧ b < we.heap.size)) t _ (t.items.length : Int) s Y _ we (fun b hb => hb.elim (fun e => Nat.lt_of_lt_of_le (HS.out b e) HB.out.size) (fun e => e.2)) (hV.v.imp fun b hb => .inl hb) (hY.v.imp fun b hb => hb.imp id fun e => ⟨e.1, Nat.lt_of_lt_of_le e.2 hdz⟩) (by omega) (by omega) (by omega) hs1)
          have HR := hid hR
          clear hV hX hR hY kq hsw
          refine wp_region_OT (Keep2 (w.heap.size + 2) (w.heap.size + 2)) (Keep2.refl _ _) (Keep2.trans _ _) [8, 9] (.pure [0, 1, 2, 3, 4, 5] (.free [7] (.step 6 (.tail [8, 9])))) (by kernel_rfl) (by kernel_rfl) (fun _ d _ _ _ h => by cases d <;> exact h) ?_
          rw [hwe]
          clear hwe
          refine ot_pure ?_
          simp only [atR]
          show wpQuiet _ _ _ _ [_, _, _, _, _, _] _
          try simp only [acR, Act.put]
          repeat (go_big_quiet_step (fail))
          refine wpQuiet_nil ?_
          clear ysv y0 y1 y2 y3 y4 z0 z1 z2 z3 z4
          refine ot_free ?_
          simp only [atR]
          show wpQuiet _ _ _ _ [_] _
          try simp only [acR, Act.put]
          repeat (go_big_quiet_step (fail))
          refine wpQuiet_nil ?_
          refine ot_step rfl (fun K hK => ?_)
          go_simp
          refine HWI.out.mono ?_
          rintro e w5 ⟨v', rfl, hv, hb5⟩
          obtain ⟨A7, e7, A8, e8, rfl, -⟩ := hv.shape
          refine hK _ _ (.inr (Keep2.of hb5)) ?_
          clear hK K
          have hR := Box.call HR.out hb5
          replace HB := hid (toStart HB.out hb5)
          have hz5 := hb5.size
          clear HR HWI
          first
            | have _g := hce1
              have HE := hid (show setO x t (s :: r) = (withT t (t.items.length : Int) s Y, OK) from by rw [HOFF.out, if_pos H7.out, ← HY2.out.1, ← HY2.out.2])
            | have HE := hid (show setO x t (s :: []) = (withT t (t.items.length : Int) s Y, OK) from by rw [HOFF.out, if_pos H7.out, ← HY2.out.1, ← HY2.out.2])
          obtain ⟨U, hU⟩ : ∃ U, U = withT t (t.items.length : Int) s Y := ⟨_, rfl⟩
          rw [← hU] at hv HE ⊢
          clear hU
          have HVV := hid (hv.imp (S' := fun b => S b ∨ (w.heap.size + 3 ≤ b ∧ b < w5.heap.size)) fun b hb => hb.elim (fun e => e.imp id fun e => ⟨e.1, Nat.lt_of_lt_of_le e.2 hz5⟩) fun e => .inr ⟨by omega, e.2⟩)
          clear hv hb5
          have r0 := hR.c0
          have r1 := hR.c1
          have r2 := hR.c2
          have r3 := hR.c3
          have r4 := hR.c4
          have rf0 := hR.free 0
          have rf1 := hR.free 1
          have rf2 := hR.free 2
          have rf3 := hR.free 3
          have rf4 := hR.free 4
          have HR := hid hR
          clear hR
          refine ot_last rfl (fun K hK => ?_)
          go_simp
          refine hK _ _ ?_
          clear hK K
          refine ot_last rfl (fun K hK => ?_)
          go_simp
          refine hK _ _ ?_
          clear hK K
          refine ot_end ?_
          go_wp2_with fail
          (try simp only [Exit.inBlock, Exit.then])
          refine bodyPost_ret (results_cell_two rfl _ _ (w.heap.size + 2) 29 _ (0, 0) rfl (five_box HR.out) (by kernel_rfl)) rfl ?_
          exact set_end (m := w.heap.size + 3) HS.out HB.out (by omega) (by omega) HVV.out HE.out
    have hk7 : (t.kind == 7) = false := beq_false_of_ne h7
    by_cases h6 : t.kind = 6
    · have hk6 : (t.kind == 6) = true := by rw [h6]; rfl
      have H6 := hid h6
      have H7 := hid h7
      have hsw : w1.cell? ⟨b, off, none⟩ = some (.string s) := (HB.out.cell (p := ⟨b, off, none⟩) hbS).trans HSW.out
      have HOFF := hid (setO_off (x := x) (r := r) (show placeT t s < 0 by rw [← HPP.out]; exact hneg))
      clear h6 h7
      have y0 := hV.x.c0
      have y1 := hV.x.c1
      have y2 := hV.x.c2
      have y3 := hV.x.c3
      have y4 := hV.x.c4
      by_cases hr0 : r = []
      rotate_left
      · have hrl : 0 < r.length := by cases r with | nil => exact absurd rfl hr0 | cons a b => simp
        have hl2 : (((r.length + 1 : Nat) : Int) == 1) = false := by simp; omega
        have hl3 : (((s :: r).length : Int) == 1) = false := by simp; omega
        have HE : Hid (setO x t (s :: r) = (t, false)) := by rw [HOFF.out, if_neg H7.out, if_neg (fun h => hr0 h.2.1)]; rfl
        have r0 := hR.c0
        have r1 := hR.c1
        have r2 := hR.c2
        have r3 := hR.c3
        have r4 := hR.c4
        have rf0 := hR.free 0
        have rf1 := hR.free 1
        have rf2 := hR.free 2
        have rf3 := hR.free 3
        have rf4 := hR.free 4
        have HV := hid hV
        have HR := hid hR
        clear hV hX hR
        go_wp2_with fail
        (try simp only [Exit.inBlock, Exit.then])
        refine bodyPost_ret (results_cell_two rfl _ _ (w.heap.size + 2) 29 _ (0, 0) rfl (five_box HR.out) (by kernel_rfl)) rfl ?_
        exact set_end (m := w.heap.size + 3) HS.out HB.out (by omega) (by omega) (HV.out.v.imp fun b hb => .inl hb) HE.out
      subst hr0
      have HIX := hid (rindex_any s w1 hs1)
      obtain ⟨I, hI⟩ : ∃ I, I = idxI s.data.toList := ⟨_, rfl⟩
      rw [← hI] at HIX HOFF
      clear hI
      go_wp2_with fail
      refine HIX.out.mono ?_
      rintro e w1' ⟨rfl, rfl⟩
      by_cases hix : I = (t.items.length : Int)
      rotate_left
      · have hix2 : (I == (t.items.length : Int)) = false := beq_false_of_ne hix
        have HE : Hid (setO x t [s] = (t, false)) := by rw [HOFF.out, if_neg H7.out, if_neg (fun h => hix h.2.2)]; rfl
        have r0 := hR.c0
        have r1 := hR.c1
        have r2 := hR.c2
        have r3 := hR.c3
        have r4 := hR.c4
        have rf0 := hR.free 0
        have rf1 := hR.free 1
        have rf2 := hR.free 2
        have rf3 := hR.free 3
        have rf4 := hR.free 4
        have HV := hid hV
        have HR := hid hR
        clear hV hX hR
        go_wp2_with fail
        (try simp only [Exit.inBlock, Exit.then])
        refine bodyPost_ret (results_cell_two rfl _ _ (w.heap.size + 2) 29 _ (0, 0) rfl (five_box HR.out) (by kernel_rfl)) rfl ?_
        exact set_end (m := w.heap.size + 3) HS.out HB.out (by omega) (by omega) (HV.out.v.imp fun b hb => .inl hb) HE.out
      have hix2 : (I == (t.items.length : Int)) = true := by rw [hix]; simp
      have HE : Hid (setO x t [s] = (withT t (t.items.length : Int) ⟨#[]⟩ x, true)) := by rw [HOFF.out, if_neg H7.out, if_pos ⟨H6.out, by first | rfl | trivial, hix⟩]; rfl
      have hgz : w.heap.size + 3 ≤ w1.heap.size := hR.lt
      have HWI := hid (rwith_any S t _ (t.items.length : Int) ⟨#[]⟩ x _ w1 hV.s hV.v hX.v (by omega) (by omega) (by omega) (by decide))
      have x0 := hX.x.c0
      have x1 := hX.x.c1
      have x2 := hX.x.c2
      have x3 := hX.x.c3
      have x4 := hX.x.c4
      have HR := hid hR
      clear hV hX hR hix
      go_wp2_with fail
      refine HWI.out.mono ?_
      rintro e w5 ⟨v', rfl, hv, hb5⟩
      obtain ⟨A7, e7, A8, e8, rfl, -⟩ := hv.shape
      have hR := Box.call HR.out hb5
      replace HB := hid (toStart HB.out hb5)
      clear HR HWI y0 y1 y2 y3 y4 x0 x1 x2 x3 x4 hsw
      obtain ⟨U, hU⟩ : ∃ U, U = withT t (t.items.length : Int) ⟨#[]⟩ x := ⟨_, rfl⟩
      rw [← hU] at hv HE ⊢
      clear hU
      have HVV := hid (hv.imp (S' := fun b => S b ∨ (w.heap.size + 3 ≤ b ∧ b < w5.heap.size)) fun b hb => hb.imp id fun e => ⟨by omega, e.2⟩)
      clear hv hb5
      have r0 := hR.c0
      have r1 := hR.c1
      have r2 := hR.c2
      have r3 := hR.c3
      have r4 := hR.c4
      have rf0 := hR.free 0
      have rf1 := hR.free 1
      have rf2 := hR.free 2
      have rf3 := hR.free 3
      have rf4 := hR.free 4
      have HR := hid hR
      clear hR
      go_wp2_with fail
      (try simp only [Exit.inBlock, Exit.then])
      refine bodyPost_ret (results_cell_two rfl _ _ (w.heap.size + 2) 29 _ (0, 0) rfl (five_box HR.out) (by kernel_rfl)) rfl ?_
      exact set_end (m := w.heap.size + 3) HS.out HB.out (by omega) (by omega) HVV.out HE.out
    · have hk6 : (t.kind == 6) = false := beq_false_of_ne h6
      have e1 : setO x t (s :: r) = (t, false) := by rw [setO_off (by rw [← HPP.out]; exact hneg), if_neg h7, if_neg (fun h => h6 h.1)]
      have HE := hid e1
      clear h6 h7 e1
      have y0 := hV.x.c0
      have y1 := hV.x.c1
      have y2 := hV.x.c2
      have y3 := hV.x.c3
      have y4 := hV.x.c4
      have r0 := hR.c0
      have r1 := hR.c1
      have r2 := hR.c2
      have r3 := hR.c3
      have r4 := hR.c4
      have rf0 := hR.free 0
      have rf1 := hR.free 1
      have rf2 := hR.free 2
      have rf3 := hR.free 3
      have rf4 := hR.free 4
      have HV := hid hV
      have HR := hid hR
      clear hV hX hR
      go_wp2_with fail
      (try simp only [Exit.inBlock, Exit.then])
      refine bodyPost_ret (results_cell_two rfl _ _ (w.heap.size + 2) 29 _ (0, 0) rfl (five_box HR.out) (by kernel_rfl)) rfl ?_
      exact set_end (m := w.heap.size + 3) HS.out HB.out (by omega) (by omega) (HV.out.v.imp fun b hb => .inl hb) HE.out
  · have h0 : 0 ≤ P := Int.not_lt.1 hneg
    have hneg2 : decide (P < 0) = false := decide_eq_false hneg
    have hPl : (placeT t s).toNat < t.items.length := placeT_lt (may_nl HM.out.1) (by rw [← HPP.out]; exact h0)
    have HSO := setO_on (x := x) (r := r) (by rw [← HPP.out]; exact h0) hPl
    simp only [← HPP.out] at hPl HSO
    obtain ⟨j, rfl⟩ : ∃ j : Nat, P = j := ⟨P.toNat, by omega⟩
    simp only [Int.toNat_natCast] at hPl HSO
    have HSO := hid HSO
    have hc1 : r.length + 1 ≤ c := by simpa using hpc
    have hn1 : r.length + 1 ≤ 140737488351232 := by simpa using hn
    go_wp2_with fail
    have hdr : Below w1.heap.size w1 w1.drew := (Below.refl _ _).drew
    replace hV := hV.call hdr
    replace hX := hX.call hdr
    replace hR := Box.call hR hdr
    replace HB := hid (toStart HB.out hdr)
    clear hdr
    generalize hwd : w1.drew = wd at *
    have hzd := hR.lt
    obtain ⟨b2, off2, rfl, hb2, hls⟩ := HVA.out (by omega)
    obtain ⟨u0, u1, u2, u3, u4, g0, g1, g2, g3, g4, hx⟩ := hls.at j hPl
    obtain ⟨A2, e2, A6, e6, hag, -⟩ := hx.shape
    injection hag with hag; injection hag with hag
    injection hag with z0 hag; injection hag with z1 hag; injection hag with z2 hag; injection hag with z3 hag; injection hag with z4 hag
    subst z0 z1 z2 z3 z4
    have hbS2 := HS.out b2 hb2
    have hSd : ∀ b, S b → b < wd.heap.size := fun b hb => Nat.lt_of_lt_of_le (HS.out b hb) HB.out.size
    have hw : ∀ o, wd.cell? ⟨b2, o, none⟩ = w.cell? ⟨b2, o, none⟩ := fun o => HB.out.cell (p := ⟨b2, o, none⟩) hbS2
    rw [← hw] at g0 g1 g2 g3 g4
    have kq : ∀ (p : LaterR (Keep2 (w.heap.size + 2) (w.heap.size + 2)) wd) (q o : Nat), q ≤ w.heap.size + 1 → p.u.cell? ⟨q, o, none⟩ = wd.cell? ⟨q, o, none⟩ := fun p q o hq => World.cell?_of_block (a := ⟨q, o, none⟩) (p.h.2 q (by omega) (by omega) (by omega))
    have y3 := fun p : LaterR (Keep2 (w.heap.size + 2) (w.heap.size + 2)) wd => (kq p w.heap.size 3 (by omega)).trans hV.x.c3
    have m0 := fun p : LaterR (Keep2 (w.heap.size + 2) (w.heap.size + 2)) wd => (kq p b2 _ (by omega)).trans g0
    have m1 := fun p : LaterR (Keep2 (w.heap.size + 2) (w.heap.size + 2)) wd => (kq p b2 _ (by omega)).trans g1
    have m2 := fun p : LaterR (Keep2 (w.heap.size + 2) (w.heap.size + 2)) wd => (kq p b2 _ (by omega)).trans g2
    have m3 := fun p : LaterR (Keep2 (w.heap.size + 2) (w.heap.size + 2)) wd => (kq p b2 _ (by omega)).trans g3
    have m4 := fun p : LaterR (Keep2 (w.heap.size + 2) (w.heap.size + 2)) wd => (kq p b2 _ (by omega)).trans g4
    have q0 := fun p : LaterR (Keep2 (w.heap.size + 2) (w.heap.size + 2)) wd => (kq p (w.heap.size + 1) 0 (by omega)).trans hX.x.c0
    have q1 := fun p : LaterR (Keep2 (w.heap.size + 2) (w.heap.size + 2)) wd => (kq p (w.heap.size + 1) 1 (by omega)).trans hX.x.c1
    have q2 := fun p : LaterR (Keep2 (w.heap.size + 2) (w.heap.size + 2)) wd => (kq p (w.heap.size + 1) 2 (by omega)).trans hX.x.c2
    have q3 := fun p : LaterR (Keep2 (w.heap.size + 2) (w.heap.size + 2)) wd => (kq p (w.heap.size + 1) 3 (by omega)).trans hX.x.c3
    have q4 := fun p : LaterR (Keep2 (w.heap.size + 2) (w.heap.size + 2)) wd => (kq p (w.heap.size + 1) 4 (by omega)).trans hX.x.c4
    have hjl : (j : Int) < (t.items.length : Int) := by omega
    have hjb : t.items.length ≤ 10000 := hll.1
    have HXI := hid hx
    have HGE := hid (show wd.heap.size ≥ w.heap.size + 3 by omega)
    have hgz : w.heap.size + 3 ≤ wd.heap.size := by omega
    clear kq g0 g1 g2 g3 g4 hw hx
    by_cases hce : c = 1
    focus
      obtain rfl : r = [] := by cases r with | nil => rfl | cons a b => exact absurd hc1 (by simp; omega)
      subst hce
      have htl : StrsAt w S (some ⟨b, off, none⟩) ([] : List ByteArray) := fun h => absurd h (by simp)
      have IH := hid (fun (W : World) (hW : Below wd.heap.size wd W) => ih S t.items[j] x _ _ (some ⟨b, off, none⟩) 0 W (fun b hb => Nat.lt_of_lt_of_le (hSd b hb) hW.size) (HXI.out.keep (w' := W) fun b hb => (hW.block b (hSd b hb)).trans (HB.out.block b (HS.out b hb))) (HLX.out.keep (w' := W) fun b hb => (hW.block b (hSd b hb)).trans (HB.out.block b (HS.out b hb))) (may_item HM.out.1 hPl) (smallT.item t j hPl HM.out.2) (htl.keep (w' := W) fun b hb => (hW.block b (hSd b hb)).trans (HB.out.block b (HS.out b hb))) (Nat.le_refl _) (by omega) (by decide))
    rotate_left
    focus
      have hce1 : 1 < c := by omega
      have hce2 : (1 : Int) < (c : Int) := by omega
      have htl : StrsAt w S (some ⟨b, off + 1, none⟩) r := by
        have := HP.out.tail (c := c) (.inr hce1)
        have ht : tailA (some ⟨b, off, none⟩) c = some ⟨b, off + 1, none⟩ := by
          unfold tailA
          rw [if_neg hce]
          simp [add_at]
        rw [ht] at this
        exact this
      have IH := hid (fun (W : World) (hW : Below wd.heap.size wd W) => ih S t.items[j] x _ _ (some ⟨b, off + 1, none⟩) (c - 1) W (fun b hb => Nat.lt_of_lt_of_le (hSd b hb) hW.size) (HXI.out.keep (w' := W) fun b hb => (hW.block b (hSd b hb)).trans (HB.out.block b (HS.out b hb))) (HLX.out.keep (w' := W) fun b hb => (hW.block b (hSd b hb)).trans (HB.out.block b (HS.out b hb))) (may_item HM.out.1 hPl) (smallT.item t j hPl HM.out.2) (htl.keep (w' := W) fun b hb => (hW.block b (hSd b hb)).trans (HB.out.block b (HS.out b hb))) (by omega) (by omega) (by omega))
    all_goals
      have HV := hid hV
      have HX := hid hX
      have HR := hid hR
      have HSD := hid hSd
      clear hV hX hR htl hSd
      refine wp_region_OT (Keep2 (w.heap.size + 2) (w.heap.size + 2)) (Keep2.refl _ _) (Keep2.trans _ _) [13, 14] (.pure [0, 1, 2, 3, 4, 5, 6, 7] (.fork 8 (.free [9, 10, 11] (.step 12 (.tail [13, 14]))) 12 (.step 8 (.free [9, 10, 11] (.tail [13, 14]))))) (by kernel_rfl) (by kernel_rfl) (fun _ d _ _ _ h => by cases d <;> exact h) ?_
      rw [hwd]
      clear hwd
      refine ot_pure ?_
      simp only [atR]
      show wpQuiet _ _ _ _ [_, _, _, _, _, _, _, _] _
      try simp only [acR, Act.put]
      repeat (go_big_quiet_step (fail))
      refine wpQuiet_nil ?_
      clear y3 m0 m1 m2 m3 m4 q0 q1 q2 q3 q4
      refine ot_fork rfl rfl (fun K hK => ?_) (fun K hK => ?_)
      focus
        go_simp
        refine (IH.out wd (Below.refl _ _)).mono ?_
        rintro e w2 ⟨v', rfl, hv, hb2⟩
        obtain ⟨A4, e4, A5, e5, rfl, -⟩ := hv.shape
        refine hK _ _ (.inr (Keep2.of hb2)) ?_
        clear hK K
        first
          | have _g := hce1
            obtain ⟨Y, hY⟩ : ∃ Y, Y = (setO x t.items[j] r).1 := ⟨_, rfl⟩
            obtain ⟨OK, hOK⟩ : ∃ OK, OK = (setO x t.items[j] r).2 := ⟨_, rfl⟩
          | obtain ⟨Y, hY⟩ : ∃ Y, Y = (setO x t.items[j] []).1 := ⟨_, rfl⟩
            obtain ⟨OK, hOK⟩ : ∃ OK, OK = (setO x t.items[j] []).2 := ⟨_, rfl⟩
        rw [← hY] at hv ⊢
        rw [← hOK]
        have HY2 := hid (And.intro hY hOK)
        clear hY hOK
        refine ot_free ?_
        simp only [atR]
        show wpQuiet _ _ _ _ [_, _, _] _
        try simp only [acR, Act.put]
        repeat (go_big_quiet_step (fail))
        refine wpQuiet_nil ?_
        refine ot_step rfl (fun K hK => ?_)
        go_simp
        refine hK _ _ (.inr (Keep2.of (below_box _))) ?_
        clear hK K
        refine ot_last rfl (fun K hK => ?_)
        go_simp
        refine hK _ _ ?_
        clear hK K
        refine ot_last rfl (fun K hK => ?_)
        go_simp
        refine hK _ _ ?_
        clear hK K
        refine ot_end ?_
        have hV := HV.out.call hb2
        have hX := HX.out.call hb2
        have hR := Box.call HR.out hb2
        replace HB := hid (toStart HB.out hb2)
        clear HV HX HR
        have hbn := below_box (w := w2) (.cells #[.int .i64 Y.kind, .int .i64 Y.num, .string Y.text, .slice A4 Y.items.length e4, .slice A5 Y.names.length e5] 29)
        have hz2 := hb2.size
        have hY : Vr (w2.alloc (.cells #[.int .i64 Y.kind, .int .i64 Y.num, .string Y.text, .slice A4 Y.items.length e4, .slice A5 Y.names.length e5] 29)) (fun b => S b ∨ (w.heap.size + 3 ≤ b ∧ b < w2.heap.size)) w2.heap.size Y A4 e4 A5 e5 := Vr.new (fun b hb => hb.elim (fun e => Nat.lt_of_lt_of_le (HSD.out b e) hz2) fun e => e.2) (hv.imp fun b hb => hb.imp id fun e => ⟨by omega, e.2⟩)
        have hzb : (w2.alloc (.cells #[.int .i64 Y.kind, .int .i64 Y.num, .string Y.text, .slice A4 Y.items.length e4, .slice A5 Y.names.length e5] 29)).heap.size = w2.heap.size + 1 := by simp
        replace hV := hV.call hbn
        replace hX := hX.call hbn
        replace hR := Box.call hR hbn
        replace HB := hid (toStart HB.out hbn)
        clear hbn hv hb2
        generalize w2.alloc (.cells #[.int .i64 Y.kind, .int .i64 Y.num, .string Y.text, .slice A4 Y.items.length e4, .slice A5 Y.names.length e5] 29) = w3 at *
        have hY : Vr w3 (fun b => S b ∨ (w.heap.size + 3 ≤ b ∧ b < w3.heap.size)) w2.heap.size Y A4 e4 A5 e5 := ⟨hY.x, hY.v.imp fun b hb => hb.imp id fun e => ⟨e.1, by omega⟩, fun b hb => hb.elim (fun e => by have := HSD.out b e; omega) fun e => e.2⟩
        clear IH HP HLV HLX HXI HVA
      rotate_left
      focus
        go_simp
        refine hK _ _ (.inr (Keep2.of (below_box _))) ?_
        clear hK K
        have hbn := below_box (w := wd) (.cells #[.int .i64 0, .int .i64 0, .string ⟨#[]⟩, .slice none 0 0, .slice none 0 0] 29)
        have hzb : (wd.alloc (.cells #[.int .i64 0, .int .i64 0, .string ⟨#[]⟩, .slice none 0 0, .slice none 0 0] 29)).heap.size = wd.heap.size + 1 := by simp
        have hYB := Box.new (w := wd) (.int .i64 0) (.int .i64 0) (.string ⟨#[]⟩) (.slice none 0 0) (.slice none 0 0)
        have HNB := hid hbn
        have hV := HV.out.call hbn
        have hX := HX.out.call hbn
        have hR := Box.call HR.out hbn
        replace HB := hid (toStart HB.out hbn)
        clear HV HX HR
        have HV := hid hV
        have HX := hid hX
        have HR := hid hR
        have HYB := hid hYB
        clear hbn hV hX hR hYB
        generalize wd.alloc (.cells #[.int .i64 0, .int .i64 0, .string ⟨#[]⟩, .slice none 0 0, .slice none 0 0] 29) = wa at *
        refine ot_step rfl (fun K hK => ?_)
        go_simp
        refine (IH.out wa HNB.out).mono ?_
        rintro e w2 ⟨v', rfl, hv, hb2⟩
        obtain ⟨A4, e4, A5, e5, rfl, -⟩ := hv.shape
        refine hK _ _ (.inr (Keep2.of hb2)) ?_
        clear hK K
        first
          | have _g := hce1
            obtain ⟨Y, hY⟩ : ∃ Y, Y = (setO x t.items[j] r).1 := ⟨_, rfl⟩
            obtain ⟨OK, hOK⟩ : ∃ OK, OK = (setO x t.items[j] r).2 := ⟨_, rfl⟩
          | obtain ⟨Y, hY⟩ : ∃ Y, Y = (setO x t.items[j] []).1 := ⟨_, rfl⟩
            obtain ⟨OK, hOK⟩ : ∃ OK, OK = (setO x t.items[j] []).2 := ⟨_, rfl⟩
        rw [← hY] at hv ⊢
        rw [← hOK]
        have HY2 := hid (And.intro hY hOK)
        clear hY hOK
        refine ot_free ?_
        simp only [atR]
        show wpQuiet _ _ _ _ [_, _, _] _
        try simp only [acR, Act.put]
        repeat (go_big_quiet_step (fail))
        refine wpQuiet_nil ?_
        have hV := HV.out.call hb2
        have hX := HX.out.call hb2
        have hR := Box.call HR.out hb2
        replace HB := hid (toStart HB.out hb2)
        clear HV HX HR
        have hYB := Box.call HYB.out hb2
        have hz2 := hb2.size
        have gc0 := hYB.c0
        have gc1 := hYB.c1
        have gc2 := hYB.c2
        have gc3 := hYB.c3
        have gc4 := hYB.c4
        have gf0 := hYB.free 0
        have gf1 := hYB.free 1
        have gf2 := hYB.free 2
        have gf3 := hYB.free 3
        have gf4 := hYB.free 4
        have HYB := hid hYB
        clear hYB
        refine ot_last rfl (fun K hK => ?_)
        go_simp
        refine hK _ _ ?_
        clear hK K
        refine ot_last rfl (fun K hK => ?_)
        go_simp
        refine hK _ _ ?_
        clear hK K
        refine ot_end ?_
        generalize hw3 : (((((w2.setCell ⟨wd.heap.size, 0, none⟩ (.int .i64 Y.kind)).setCell ⟨wd.heap.size, 1, none⟩ (.int .i64 Y.num)).setCell ⟨wd.heap.size, 2, none⟩ (.string Y.text)).setCell ⟨wd.heap.size, 3, none⟩ (.slice A4 Y.items.length e4)).setCell ⟨wd.heap.size, 4, none⟩ (.slice A5 Y.names.length e5)) = w3 at *
        have h5 : five w2 wd.heap.size 0 (.int .i64 Y.kind) (.int .i64 Y.num) (.string Y.text) (.slice A4 Y.items.length e4) (.slice A5 Y.names.length e5) = w3 := hw3
        clear hw3
        have hk5 := five_other w2 wd.heap.size 0 (.int .i64 Y.kind) (.int .i64 Y.num) (.string Y.text) (.slice A4 Y.items.length e4) (.slice A5 Y.names.length e5)
        have hz5 := five_size w2 wd.heap.size 0 (.int .i64 Y.kind) (.int .i64 Y.num) (.string Y.text) (.slice A4 Y.items.length e4) (.slice A5 Y.names.length e5)
        have hr5 := five_rest w2 wd.heap.size 0 (.int .i64 Y.kind) (.int .i64 Y.num) (.string Y.text) (.slice A4 Y.items.length e4) (.slice A5 Y.names.length e5)
        have hYb := five_box (c0 := .int .i64 Y.kind) (c1 := .int .i64 Y.num) (c2 := .string Y.text) (c3 := .slice A4 Y.items.length e4) (c4 := .slice A5 Y.names.length e5) HYB.out
        rw [h5] at hk5 hz5 hr5 hYb
        have hgw3 : w.heap.size + 3 ≤ w3.heap.size := by rw [hz5]; omega
        have hne : ∀ b, S b → b ≠ wd.heap.size := fun b hb => by have := HSD.out b hb; omega
        have hY : Vr w3 (fun b => S b ∨ (w.heap.size + 3 ≤ b ∧ b < w3.heap.size)) wd.heap.size Y A4 e4 A5 e5 := ⟨hYb, (hv.keep fun b hb => hk5 b (hb.elim (hne b) fun e => by have := e.1; omega)).imp fun b hb => hb.imp id fun e => ⟨by have := e.1; omega, by rw [hz5]; exact e.2⟩, fun b hb => hb.elim (fun e => by have := HSD.out b e; omega) fun e => e.2⟩
        replace hV : Vr w3 S w.heap.size t _ _ _ _ := ⟨(hk5 _ (by omega)).trans hV.x, hV.v.keep fun b hb => hk5 b (hne b hb), fun b hb => by rw [hz5]; exact hV.s b hb⟩
        replace hX : Vr w3 S (w.heap.size + 1) x _ _ _ _ := ⟨(hk5 _ (by omega)).trans hX.x, hX.v.keep fun b hb => hk5 b (hne b hb), fun b hb => by rw [hz5]; exact hX.s b hb⟩
        replace hR : Box w3 (w.heap.size + 2) _ _ _ _ _ := (hk5 _ (by omega)).trans hR
        replace HB : Hid (Below w.heap.size w w3) := ⟨hr5.1.trans HB.out.os, hr5.2.1.trans HB.out.tape, hr5.2.2.trans HB.out.output, by rw [hz5]; exact HB.out.size, fun b hb => (hk5 b (by omega)).trans (HB.out.block b hb)⟩
        clear gc0 gc1 gc2 gc3 gc4 gf0 gf1 gf2 gf3 gf4 hk5 hz5 hr5 hYb h5 hv hb2 HYB HNB IH HP HLV HLX HXI HVA
      all_goals
        have HWI := hid (rwith_any (fun b => S b ∨ (w.heap.size + 3 ≤ b ∧ b < w3.heap.size)) t _ (j : Int) ⟨#[]⟩ Y _ w3 (fun b hb => hb.elim (fun e => Nat.lt_of_lt_of_le (HS.out b e) HB.out.size) (fun e => e.2)) (hV.v.imp fun b hb => .inl hb) (hY.v.imp fun b hb => hb) (by omega) (by omega) (by omega) (by decide))
        have y0 := hV.x.c0
        have y1 := hV.x.c1
        have y2 := hV.x.c2
        have y3 := hV.x.c3
        have y4 := hV.x.c4
        have z0 := hY.x.c0
        have z1 := hY.x.c1
        have z2 := hY.x.c2
        have z3 := hY.x.c3
        have z4 := hY.x.c4
        have HR := hid hR
        clear hV hX hR hY
        go_wp2_with fail
        refine HWI.out.mono ?_
        rintro e w5 ⟨v', rfl, hv, hb5⟩
        obtain ⟨A7, e7, A8, e8, rfl, -⟩ := hv.shape
        have hR := Box.call HR.out hb5
        replace HB := hid (toStart HB.out hb5)
        have hz5 := hb5.size
        clear HR HWI y0 y1 y2 y3 y4 z0 z1 z2 z3 z4
        first
          | have _g := hce1
            have HE := hid (show setO x t (s :: r) = (withT t (j : Int) ⟨#[]⟩ Y, OK) from by rw [HSO.out, ← HY2.out.1, ← HY2.out.2])
          | have HE := hid (show setO x t (s :: []) = (withT t (j : Int) ⟨#[]⟩ Y, OK) from by rw [HSO.out, ← HY2.out.1, ← HY2.out.2])
        obtain ⟨U, hU⟩ : ∃ U, U = withT t (j : Int) ⟨#[]⟩ Y := ⟨_, rfl⟩
        rw [← hU] at hv HE ⊢
        clear hU
        have HVV := hid (hv.imp (S' := fun b => S b ∨ (w.heap.size + 3 ≤ b ∧ b < w5.heap.size)) fun b hb => hb.elim (fun e => e.imp id fun e => ⟨e.1, Nat.lt_of_lt_of_le e.2 hz5⟩) fun e => .inr ⟨by omega, e.2⟩)
        clear hv hb5
        have r0 := hR.c0
        have r1 := hR.c1
        have r2 := hR.c2
        have r3 := hR.c3
        have r4 := hR.c4
        have rf0 := hR.free 0
        have rf1 := hR.free 1
        have rf2 := hR.free 2
        have rf3 := hR.free 3
        have rf4 := hR.free 4
        have HR := hid hR
        clear hR
        go_wp2_with fail
        (try simp only [Exit.inBlock, Exit.then])
        refine bodyPost_ret (results_cell_two rfl _ _ (w.heap.size + 2) 29 _ (0, 0) rfl (five_box HR.out) (by kernel_rfl)) rfl ?_
        exact set_end (m := w.heap.size + 3) HS.out HB.out (by omega) (by omega) HVV.out HE.out
end Go.Proofs.YtnamdlljdgllmaaGreat

/- What lies elsewhere stays: the program's answers. Plain. -/
namespace Go.Proofs.YtnamdlljdgllmaaGreat
set_option linter.unusedVariables false
set_option linter.unusedSimpArgs false
theorem mayP_names {p : List ByteArray} (h : mayP p = true) : NamesOk p := by
  unfold mayP at h
  simp only [Bool.and_eq_true, List.all_eq_true] at h
  exact h.2
theorem mayP_len {p : List ByteArray} (h : mayP p = true) : p.length ≤ 8 := by
  unfold mayP at h
  simp only [Bool.and_eq_true, decide_eq_true_eq] at h
  exact h.1.2
theorem goT_zero {fin : VT → List ByteArray → Int × VT} {t : VT} {p : List ByteArray} (hw : wrongT t p = 0) (h : (goT fin t p).1 = 0) : changeT fin t p = (0, (goT fin t p).2) := by
  unfold changeT
  rw [if_pos hw, if_pos h]
section
variable {t : VT} {p q : List ByteArray} (hw : wrongT t p = 0) (hv : wrongT t q = 0) (h1 : begP p q = false) (h2 : begP q p = false)
include hw hv h1 h2
end
theorem setT_self {t u : VT} {k : Nat} (h : t.items[k]? = some u) : setT t k u = t := by
  cases t with
  | mk kd i s l ns =>
    show VT.mk kd i s (l.set k u) ns = _
    have h' : l[k]? = some u := h
    obtain ⟨hk, e⟩ := List.getElem?_eq_some_iff.1 h'
    rw [← e, List.set_getElem_self]
end Go.Proofs.YtnamdlljdgllmaaGreat

/- The document's Set and the program's: plain. -/
namespace Go.Proofs.YtnamdlljdgllmaaGreat
set_option linter.unusedVariables false
set_option linter.unusedSimpArgs false
open Go.RowKit
theorem rset_any : ∀ p : List ByteArray, RSetO p
  | [] => rset_nil
  | s :: r => rset_step s r (rset_any r)
theorem place_empty (s : ByteArray) : placeT emptyD s < 0 := by
  rw [placeT_doc rfl]
  show nmI 0 [] s < 0
  unfold nmI
  decide
theorem withT_at {t : VT} {i : Int} {nm : ByteArray} {y : VT} (h0 : 0 ≤ i) (h : i.toNat < t.items.length) : withT t i nm y = setT t i.toNat y := by
  unfold withT
  rw [if_pos (by omega)]
theorem withT_doc {t : VT} {nm : ByteArray} {y : VT} (h : t.kind = 7) : withT t (t.items.length : Int) nm y = addI (addN t nm) y := by
  unfold withT
  rw [if_neg (by omega), if_pos h]
theorem withT_arr {t : VT} {nm : ByteArray} {y : VT} (h : t.kind ≠ 7) : withT t (t.items.length : Int) nm y = addI t y := by
  unfold withT
  rw [if_neg (by omega), if_neg h]
theorem setO_empty (x : VT) : ∀ r : List ByteArray, setO x emptyD r = (nestT r x, true)
  | [] => rfl
  | s :: r => by
    rw [setO_off (place_empty s), if_pos (show emptyD.kind = 7 from rfl), setO_empty x r]
    show (withT emptyD _ s (nestT r x), true) = _
    rw [withT_doc rfl]
    rfl
theorem setO_is (x : VT) : ∀ (p : List ByteArray) (t : VT), mayT t = true → p ≠ [] → ((goT (setFin x) t p).1 = 0 → setO x t p = ((goT (setFin x) t p).2, true)) ∧ ((goT (setFin x) t p).1 ≠ 0 → (setO x t p).2 = false)
  | [], t, _, h => absurd rfl h
  | s :: r, t, hm, _ => by
    by_cases he : placeT t s < 0 ∨ r = []
    · rw [goT_end he, setFin_cons]
      by_cases hn : placeT t s < 0
      · rw [if_neg (by omega), setO_off hn]
        by_cases h7 : t.kind = 7
        · rw [if_pos h7, if_pos h7, setO_empty, withT_doc h7]
          exact ⟨fun _ => rfl, fun h => absurd rfl h⟩
        · rw [if_neg h7, if_neg h7]
          by_cases h6 : t.kind = 6 ∧ nextT t s r = true
          · have h6' : t.kind = 6 ∧ r = [] ∧ idxI s.data.toList = (t.items.length : Int) := by
              refine ⟨h6.1, ?_⟩
              have := h6.2
              unfold nextT at this
              simp at this
              exact ⟨this.2, this.1⟩
            rw [if_pos h6, if_pos h6', withT_arr h7]
            exact ⟨fun _ => rfl, fun h => absurd rfl h⟩
          · have h6' : ¬ (t.kind = 6 ∧ r = [] ∧ idxI s.data.toList = (t.items.length : Int)) := fun k => h6 ⟨k.1, by unfold nextT; simpa using And.intro k.2.2 k.2.1⟩
            rw [if_neg h6, if_neg h6']
            exact ⟨fun h => absurd h (show ¬ (40 : Int) = 0 by decide), fun _ => rfl⟩
      · have h0 : 0 ≤ placeT t s := Int.not_lt.1 hn
        obtain rfl := he.resolve_left hn
        have hj := placeT_lt (may_nl hm) h0
        rw [if_pos h0, setO_on h0 hj]
        refine ⟨fun _ => ?_, fun h => absurd rfl h⟩
        show (withT t (placeT t s) _ x, true) = _
        rw [withT_at h0 hj]
    · have h0 : 0 ≤ placeT t s := Int.not_lt.1 fun k => he (.inl k)
      have hr : r ≠ [] := fun k => he (.inr k)
      have hj := placeT_lt (may_nl hm) h0
      obtain ⟨i1, i2⟩ := setO_is x r t.items[(placeT t s).toNat] (may_item hm hj) hr
      rw [goT_on h0 hr hj, setO_on h0 hj]
      refine ⟨fun h => ?_, fun h => i2 h⟩
      rw [i1 h]
      show (withT t (placeT t s) _ _, true) = _
      rw [withT_at h0 hj]
end Go.Proofs.YtnamdlljdgllmaaGreat
