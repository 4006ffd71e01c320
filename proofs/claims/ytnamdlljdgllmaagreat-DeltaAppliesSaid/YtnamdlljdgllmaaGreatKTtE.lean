/- The document's Drop. -/
import Derived.Test.YtnamdlljdgllmaaGreatKTtD
namespace Go.Proofs.YtnamdlljdgllmaaGreat
open Lib (hid)
set_option linter.unusedVariables false
set_option linter.unusedSimpArgs false
open Go.RowKit
def RDropO (p : List ByteArray) : Prop := ∀ (S : Nat → Prop) (t : VT) (v : Value) (A : Option Addr) (c : Nat) (w : World), (∀ b, S b → b < w.heap.size) → LV w S t v → mayT t = true → smallT t → StrsAt w S A p → p.length ≤ c → c ≤ 9223372036854775807 → p.length ≤ 140737488351232 →
  Calls Tryz.prog 61 #[v, .slice A p.length c] w fun e w' => ∃ v', e = .returned v' ∧ LV w' (fun b => S b ∨ (w.heap.size ≤ b ∧ b < w'.heap.size)) (goT dropFin t p).2 v' ∧ Below w.heap.size w w'
theorem drop_fin {S : Nat → Prop} {w w3 : World} {r : Nat} {u : VT} {A A' : Option Addr} {c c' : Nat} {m : Nat} (h : LV w3 (fun b => S b ∨ (m ≤ b ∧ b < w3.heap.size)) u (agg5 u A c A' c')) (hS : ∀ b, S b → b < w.heap.size) (hm : r < m) (hr : w.heap.size ≤ r) (hb : Below w.heap.size w w3) (hx : ∃ a0 a1 a2 a3 a4, Box w3 r a0 a1 a2 a3 a4) :
    LV (five w3 r 0 (.int .i64 u.kind) (.int .i64 u.num) (.string u.text) (.slice A u.items.length c) (.slice A' u.names.length c')) (fun b => S b ∨ (w.heap.size ≤ b ∧ b < (five w3 r 0 (.int .i64 u.kind) (.int .i64 u.num) (.string u.text) (.slice A u.items.length c) (.slice A' u.names.length c')).heap.size)) u (agg5 u A c A' c') ∧
      Below w.heap.size w (five w3 r 0 (.int .i64 u.kind) (.int .i64 u.num) (.string u.text) (.slice A u.items.length c) (.slice A' u.names.length c')) ∧
      Box (five w3 r 0 (.int .i64 u.kind) (.int .i64 u.num) (.string u.text) (.slice A u.items.length c) (.slice A' u.names.length c')) r (.int .i64 u.kind) (.int .i64 u.num) (.string u.text) (.slice A u.items.length c) (.slice A' u.names.length c') := by
  have hr6 := five_rest w3 r 0 (.int .i64 u.kind) (.int .i64 u.num) (.string u.text) (.slice A u.items.length c) (.slice A' u.names.length c')
  have hk6 := five_other w3 r 0 (.int .i64 u.kind) (.int .i64 u.num) (.string u.text) (.slice A u.items.length c) (.slice A' u.names.length c')
  have hz6 := five_size w3 r 0 (.int .i64 u.kind) (.int .i64 u.num) (.string u.text) (.slice A u.items.length c) (.slice A' u.names.length c')
  obtain ⟨a0, a1, a2, a3, a4, hx⟩ := hx
  refine ⟨(h.keep fun b hb' => hk6 b (hb'.elim (fun e => by have := hS b e; omega) (fun e => by have := e.1; omega))).imp fun b hb' => hb'.imp id fun e => ⟨by have := e.1; omega, by rw [hz6]; exact e.2⟩, ⟨hr6.1.trans hb.os, hr6.2.1.trans hb.tape, hr6.2.2.trans hb.output, by rw [hz6]; exact hb.size, fun b hb' => (hk6 b (by omega)).trans (hb.block b hb')⟩, five_box hx⟩
set_option maxHeartbeats 4000000 in
set_option maxRecDepth 100000 in
theorem rdrop_step (s : ByteArray) (r : List ByteArray) (ih : r ≠ [] → RDropO r) : RDropO (s :: r) := by
  intro S t v A c w hS h hm hsm hp hpc h63 hn
  obtain ⟨A0, c0, A0', c0', rfl, -, hva, -, hV, hb0⟩ := one_var hS h
  have hz0 : (w.alloc (.cells #[.int .i64 t.kind, .int .i64 t.num, .string t.text, .slice A0 t.items.length c0, .slice A0' t.names.length c0'] 29)).heap.size = w.heap.size + 1 := by simp
  have hR := Box.new (w := (w.alloc (.cells #[.int .i64 t.kind, .int .i64 t.num, .string t.text, .slice A0 t.items.length c0, .slice A0' t.names.length c0'] 29))) (.int .i64 0) (.int .i64 0) (.string ⟨#[]⟩) (.slice none 0 0) (.slice none 0 0)
  rw [hz0] at hR
  have hbr := below_box (w := (w.alloc (.cells #[.int .i64 t.kind, .int .i64 t.num, .string t.text, .slice A0 t.items.length c0, .slice A0' t.names.length c0'] 29))) (.cells #[.int .i64 0, .int .i64 0, .string ⟨#[]⟩, .slice none 0 0, .slice none 0 0] 29)
  replace hV := hV.call hbr
  have HB := hid (toStart hb0 hbr)
  obtain ⟨b, off, rfl, hb, hpx⟩ := hp (by simp)
  have hs0 := (hpx 0 (by simp)).1
  have hs1 := (hpx 0 (by simp)).2
  simp only [List.getElem_cons_zero, Nat.add_zero] at hs0 hs1
  have HP := hid hp
  have HM := hid (And.intro hm hsm)
  have HVA := hid hva
  clear hva
  have HLV := hid h
  have HS := hid hS
  have hbS := hS b hb
  clear hb0 hz0 hp hpx hm hsm h hS hbr
  have hlen : (0 : Int) < ((s :: r).length : Int) := by simp
  go_enter Tryz.func61, Tryz.ntmps61
  go_wp2_with fail
  generalize ((w.alloc (.cells #[.int .i64 t.kind, .int .i64 t.num, .string t.text, .slice A0 t.items.length c0, .slice A0' t.names.length c0'] 29)).alloc (.cells #[.int .i64 0, .int .i64 0, .string ⟨#[]⟩, .slice none 0 0, .slice none 0 0] 29)) = w0 at *
  have hdr : Below w0.heap.size w0 w0.drew := (Below.refl _ _).drew
  replace hV := hV.call hdr
  replace hR := Box.call hR hdr
  replace HB := hid (toStart HB.out hdr)
  clear hdr
  generalize hwd : w0.drew = wd at *
  refine wp_region_OT (Keep2 (w.heap.size + 1) (w.heap.size + 1)) (Keep2.refl _ _) (Keep2.trans _ _) [5] (.pure [0, 1, 2, 3] (.step 4 (.step 5 (.tail [])))) (by kernel_rfl) (by kernel_rfl) (fun _ d _ _ _ h => by cases d <;> exact h) ?_
  rw [hwd]
  clear hwd
  have kq : ∀ (p : LaterR (Keep2 (w.heap.size + 1) (w.heap.size + 1)) wd) (q o : Nat), q ≤ w.heap.size → p.u.cell? ⟨q, o, none⟩ = wd.cell? ⟨q, o, none⟩ := fun p q o hq => World.cell?_of_block (a := ⟨q, o, none⟩) (p.h.2 q (by have := hV.x.lt; omega) (by omega) (by omega))
  have y0 := fun p : LaterR (Keep2 (w.heap.size + 1) (w.heap.size + 1)) wd => (kq p w.heap.size 0 (Nat.le_refl _)).trans hV.x.c0
  have y1 := fun p : LaterR (Keep2 (w.heap.size + 1) (w.heap.size + 1)) wd => (kq p w.heap.size 1 (Nat.le_refl _)).trans hV.x.c1
  have y2 := fun p : LaterR (Keep2 (w.heap.size + 1) (w.heap.size + 1)) wd => (kq p w.heap.size 2 (Nat.le_refl _)).trans hV.x.c2
  have y3 := fun p : LaterR (Keep2 (w.heap.size + 1) (w.heap.size + 1)) wd => (kq p w.heap.size 3 (Nat.le_refl _)).trans hV.x.c3
  have y4 := fun p : LaterR (Keep2 (w.heap.size + 1) (w.heap.size + 1)) wd => (kq p w.heap.size 4 (Nat.le_refl _)).trans hV.x.c4
  have hsw : wd.cell? ⟨b, off, none⟩ = some (.string s) := (HB.out.cell (p := ⟨b, off, none⟩) hbS).trans hs0
  have ys := fun p : LaterR (Keep2 (w.heap.size + 1) (w.heap.size + 1)) wd => (kq p b off (by omega)).trans hsw
  have HPL := hid (place_any S t _ s wd hV.s hV.v hs1)
  have HV := hid hV
  have HR := hid hR
  clear kq hsw hV hR hs0
  refine ot_pure ?_
  simp only [atR]
  show wpQuiet _ _ _ _ [_, _, _, _] _
  try simp only [acR, Act.put]
  repeat (go_big_quiet_step (fail))
  refine wpQuiet_nil ?_
  clear y0 y1 y2 y3 y4 ys
  refine ot_step rfl (fun K hK => ?_)
  go_simp
  refine HPL.out.mono ?_
  rintro e w1 ⟨rfl, hb1⟩
  refine hK _ _ (.inr (Keep2.of hb1)) ?_
  clear hK K HPL
  refine ot_step rfl (fun K hK => ?_)
  go_simp
  refine hK _ _ (.inl (by decide)) ?_
  clear hK K
  refine ot_end ?_
  have hV := HV.out.call hb1
  have hR := Box.call HR.out hb1
  replace HB := hid (toStart HB.out hb1)
  clear hb1 HV HR
  obtain ⟨P, hP⟩ : ∃ P, P = placeT t s := ⟨_, rfl⟩
  rw [← hP]
  have HPP := hid hP
  clear hP
  by_cases hneg : P < 0
  · have y0 := hV.x.c0
    have y1 := hV.x.c1
    have y2 := hV.x.c2
    have y3 := hV.x.c3
    have y4 := hV.x.c4
    have r0 := hR.c0
    have r1 := hR.c1
    have r2 := hR.c2
    have r3 := hR.c3
    have r4 := hR.c4
    have rf0 := hR.free 0
    have rf1 := hR.free 1
    have rf2 := hR.free 2
    have rf3 := hR.free 3
    have rf4 := hR.free 4
    have HV := hid hV
    have HR := hid hR
    clear hV hR
    go_wp2_with fail
    (try simp only [Exit.inBlock, Exit.then])
    have hr6 := five_rest w1 (w.heap.size + 1) 0 (.int .i64 t.kind) (.int .i64 t.num) (.string t.text) (.slice A0 t.items.length c0) (.slice A0' t.names.length c0')
    have hk6 := five_other w1 (w.heap.size + 1) 0 (.int .i64 t.kind) (.int .i64 t.num) (.string t.text) (.slice A0 t.items.length c0) (.slice A0' t.names.length c0')
    have hz6 := five_size w1 (w.heap.size + 1) 0 (.int .i64 t.kind) (.int .i64 t.num) (.string t.text) (.slice A0 t.items.length c0) (.slice A0' t.names.length c0')
    refine bodyPost_ret (results_cell_row rfl _ _ (w.heap.size + 1) 29 _ (0, 0) _ rfl (five_box HR.out) Tryz.underlying29 rfl (by kernel_rfl)) rfl ?_
    have e1 : (goT dropFin t (s :: r)).2 = t := by rw [goT_end (.inl (by rw [← HPP.out]; exact hneg)), dropFin_cons]; exact if_pos (by rw [← HPP.out]; exact hneg)
    refine ⟨_, rfl, ?_, hr6.1.trans HB.out.os, hr6.2.1.trans HB.out.tape, hr6.2.2.trans HB.out.output, by show _ ≤ (five _ _ _ _ _ _ _ _).heap.size; rw [hz6]; exact HB.out.size, fun q hq => (hk6 q (by omega)).trans (HB.out.block q hq)⟩
    rw [e1]
    exact (HV.out.v.keep fun q hq => hk6 q (by have := HS.out q hq; omega)).imp fun q hq => .inl hq
  · have h0 : 0 ≤ P := Int.not_lt.1 hneg
    have hPl : (placeT t s).toNat < t.items.length := placeT_lt (may_nl HM.out.1) (by rw [← HPP.out]; exact h0)
    rw [← HPP.out] at hPl
    obtain ⟨j, rfl⟩ : ∃ j : Nat, P = j := ⟨P.toNat, by omega⟩
    simp only [Int.toNat_natCast] at hPl
    have hll := HM.out.2.lens
    by_cases hr0 : r = []
    · subst hr0
      simp only [List.length_nil, Nat.zero_add] at *
      by_cases h6 : t.kind = 6
      · have hk6 : (t.kind == 6) = true := by rw [h6]; rfl
        have H6 := hid h6
        clear h6
        have HWI := hid (rwith_any S t _ (j : Int) ⟨#[]⟩ nullT (agg5 nullT none 0 none 0) w1 hV.s hV.v (leaf_lv _ _ 1 0 ⟨#[]⟩ (by unfold Rng; omega) (by unfold Rng; omega) (by decide)) (by omega) (by omega) (by omega) (by decide))
        have y0 := hV.x.c0
        have y1 := hV.x.c1
        have y2 := hV.x.c2
        have y3 := hV.x.c3
        have y4 := hV.x.c4
        have HV := hid hV
        have HR := hid hR
        clear hV hR
        go_wp2_with fail
        refine HWI.out.mono ?_
        rintro e w3 ⟨v', rfl, hv, hb3⟩
        obtain ⟨A7, e7, A8, e8, rfl, -⟩ := hv.shape
        have hR := Box.call HR.out hb3
        have hlR := HR.out.lt
        replace HB := hid (toStart HB.out hb3)
        have e1 : withT t (j : Int) ⟨#[]⟩ nullT = (goT dropFin t [s]).2 := by
          rw [goT_end (.inr rfl), dropFin_cons]
          show _ = if _ then _ else _
          rw [if_neg (by rw [← HPP.out]; omega), if_neg (by rw [H6.out]; decide)]
          unfold withT
          rw [if_pos (by omega)]
          simp only [← HPP.out, Int.toNat_natCast]
        obtain ⟨Y, hY⟩ : ∃ Y, Y = withT t (j : Int) ⟨#[]⟩ nullT := ⟨_, rfl⟩
        rw [← hY] at hv e1 ⊢
        clear hY
        have hfin := drop_fin (S := S) (w := w) (r := w.heap.size + 1) (m := w1.heap.size) hv HS.out (by omega) (by omega) HB.out ⟨_, _, _, _, _, hR⟩
        have HF := hid (And.intro hfin e1)
        clear hfin e1 hv hb3 HV HR HWI y0 y1 y2 y3 y4
        have r0 := hR.c0
        have r1 := hR.c1
        have r2 := hR.c2
        have r3 := hR.c3
        have r4 := hR.c4
        have rf0 := hR.free 0
        have rf1 := hR.free 1
        have rf2 := hR.free 2
        have rf3 := hR.free 3
        have rf4 := hR.free 4
        clear hR
        go_wp2_with fail
        (try simp only [Exit.inBlock, Exit.then])
        refine bodyPost_ret (results_cell_row rfl _ _ (w.heap.size + 1) 29 _ (0, 0) _ rfl HF.out.1.2.2 Tryz.underlying29 rfl (by kernel_rfl)) rfl ?_
        rw [← HF.out.2]
        exact ⟨_, rfl, HF.out.1.1, HF.out.1.2.1⟩
      · have hk6 : (t.kind == 6) = false := beq_false_of_ne h6
        have h7 : t.kind = 7 := by
          by_cases e : t.kind = 7
          · exact e
          · have := placeT_else (s := s) e h6
            rw [← HPP.out] at this
            omega
        have H7 := hid h7
        clear h7 h6
        have HCL := hid (rclone_any S t _ w1 hV.s hV.v)
        have y0 := hV.x.c0
        have y1 := hV.x.c1
        have y2 := hV.x.c2
        have y3 := hV.x.c3
        have y4 := hV.x.c4
        have HV := hid hV
        have HR := hid hR
        clear hV hR
        go_wp2_with fail
        refine HCL.out.mono ?_
        rintro e w2 ⟨v', rfl, hov, hb2⟩
        obtain ⟨A, c9, A', c9', xs0, rfl, -, -, fA', fA, -, -⟩ := hov.shape
        obtain ⟨xs, htop⟩ := TopV.of hov (fun b hb => hb.2)
        have hR := Box.call HR.out hb2
        have hlR := HR.out.lt
        have hz2 := hb2.size
        replace HB := hid (toStart HB.out hb2)
        have hks : Rng t.kind ∧ Rng t.num ∧ t.text.size ≤ 140737488351232 ∧ ∀ s ∈ t.names, s.size ≤ 140737488351232 := by
          obtain ⟨_, _, _, _, -, r1, r2, r3, -, -, s6, -⟩ := hov.lv.shape
          exact ⟨r1, r2, r3, strs_sizes s6⟩
        have HK := hid hks
        have HFA := hid (And.intro fA fA')
        have htop1 := htop.imp (S' := fun b => w1.heap.size ≤ b ∧ b < w2.heap.size ∧ (∀ a, A = some a → a.block ≠ b) ∧ (∀ a, A' = some a → a.block ≠ b)) (fun b hb => ⟨hb.1.1, hb.1.2, hb.2.1, hb.2.2⟩) (fun a ha hb => hb.2.2.1 a ha rfl) (fun a ha hb => hb.2.2.2 a ha rfl) (fun b hb => hb.2.1)
        have HTOP := hid htop1
        clear y0 y1 y2 y3 y4 HCL HV HR htop htop1 hov fA fA' hks hb2
        have hBX := Box.new (w := w2) (.int .i64 t.kind) (.int .i64 t.num) (.string t.text) (.slice A t.items.length c9) (.slice A' t.names.length c9')
        have hbx : Below w2.heap.size w2 (w2.alloc (.cells #[.int .i64 t.kind, .int .i64 t.num, .string t.text, .slice A t.items.length c9, .slice A' t.names.length c9'] 29)) := below_box _
        have hzx : (w2.alloc (.cells #[.int .i64 t.kind, .int .i64 t.num, .string t.text, .slice A t.items.length c9, .slice A' t.names.length c9'] 29)).heap.size = w2.heap.size + 1 := by simp
        replace hR := Box.call hR hbx
        replace HB := hid (toStart HB.out hbx)
        have htop2 := HTOP.out.keep (w' := w2.alloc (.cells #[.int .i64 t.kind, .int .i64 t.num, .string t.text, .slice A t.items.length c9, .slice A' t.names.length c9'] 29)) hbx.size (fun b hb => hbx.block b hb.2.1) (fun a ha => hbx.block _ (HTOP.out.na a ha).2) (fun a ha => hbx.block _ (HTOP.out.nb a ha).2)
        have HTOP2 := hid htop2
        clear htop2 HTOP
        go_wp2_with fail
        have hdr : Below (w2.alloc (.cells #[.int .i64 t.kind, .int .i64 t.num, .string t.text, .slice A t.items.length c9, .slice A' t.names.length c9'] 29)).heap.size (w2.alloc (.cells #[.int .i64 t.kind, .int .i64 t.num, .string t.text, .slice A t.items.length c9, .slice A' t.names.length c9'] 29)) (w2.alloc (.cells #[.int .i64 t.kind, .int .i64 t.num, .string t.text, .slice A t.items.length c9, .slice A' t.names.length c9'] 29)).drew := (Below.refl _ _).drew
        replace hBX := Box.call hBX hdr
        replace hR := Box.call hR hdr
        replace HB := hid (toStart HB.out hdr)
        have htop2 := HTOP2.out.keep (w' := (w2.alloc (.cells #[.int .i64 t.kind, .int .i64 t.num, .string t.text, .slice A t.items.length c9, .slice A' t.names.length c9'] 29)).drew) hdr.size (fun b hb => hdr.block b (HTOP2.out.lt b hb)) (fun a ha => hdr.block _ (HTOP2.out.na a ha).2) (fun a ha => hdr.block _ (HTOP2.out.nb a ha).2)
        have hzd : (w2.alloc (.cells #[.int .i64 t.kind, .int .i64 t.num, .string t.text, .slice A t.items.length c9, .slice A' t.names.length c9'] 29)).drew.heap.size = w2.heap.size + 1 := hzx
        clear hdr hbx hzx HTOP2
        generalize hwd : (w2.alloc (.cells #[.int .i64 t.kind, .int .i64 t.num, .string t.text, .slice A t.items.length c9, .slice A' t.names.length c9'] 29)).drew = wd at *
        generalize hg6 : w2.heap.size = g6 at *
        obtain ⟨q, rfl⟩ : ∃ q, A = some ⟨q, 0, none⟩ := by
          cases hA : A with
          | none =>
            rcases htop2.ri.2 with ⟨-, h'⟩ | ⟨g, cap, cur, hv, -⟩
            · omega
            · rw [hA] at hv; cases hv
          | some a => exact ⟨a.block, by rw [row_at htop2.ri a hA]⟩
        have hqw := (HFA.out.1 _ rfl)
        replace hqw : w1.heap.size ≤ q ∧ q < g6 := hqw
        have hcap : t.items.length ≤ c9 ∧ c9 ≤ 9223372036854775807 := by
          rcases htop2.ri.2 with ⟨hv, -⟩ | ⟨g, cap, cur, hv, -, -, h1, h2, -⟩
          · cases hv
          · injection hv with e1 e2 e3
            subst e3
            exact ⟨h1, by unfold maxLen at h2; omega⟩
        have hxl : xs.length = t.items.length * 5 := htop2.ri.1
        refine wp_region_OT (LowR (g6 + 1)) (LowR.refl _) (LowR.trans _) [13] (.pure [1, 2, 3, 4, 6, 7, 8, 9, 10] (.step 0 (.step 5 (.step 11 (.step 12 (.step 13 (.tail []))))))) (by kernel_rfl) (by kernel_rfl) (fun _ d _ _ _ h => by cases d <;> exact h) ?_
        try rw [hwd]
        clear hwd
        have b3 : ∀ p : LaterR (LowR (g6 + 1)) wd, p.u.cell? ⟨g6, 3, none⟩ = some (.slice (some ⟨q, 0, none⟩) t.items.length c9) := fun p => (World.cell?_of_block (a := ⟨g6, 3, none⟩) (p.h g6 (by omega))).trans hBX.c3
        have hjc : (j : Int) ≤ (c9 : Int) := by omega
        have hjc2 : (j : Int) + 1 ≤ (t.items.length : Int) := by omega
        have HT2 := hid htop2
        have HBX := hid hBX
        have HR := hid hR
        clear htop2 hBX hR
        have HNL := hid (show t.names.length = t.items.length from may_nl_eq HM.out.1 H7.out)
        by_cases hcj : c9 = j + 1
        focus
          subst hcj
        rotate_left
        focus
          have hcj2 : j + 1 < c9 := by omega
        all_goals
          refine ot_pure ?_
          simp only [atR]
          show wpQuiet _ _ _ _ [_, _, _, _, _, _, _, _, _] _
          try simp only [acR, Act.put]
          repeat (go_big_quiet_step (fail))
          refine wpQuiet_nil ?_
          clear b3
          refine ot_step rfl (fun K hK => ?_)
          go_simp
          refine hK _ _ (.inr fun b hb => Below.heap_alloc _ _ _ (by omega)) ?_
          clear hK K
          have hza : (wd.alloc (.cells #[] 29)).heap.size = g6 + 2 := by simp [hzd]
          have hna := heap_alloc_new wd (.cells #[] 29)
          have hba : Below wd.heap.size wd (wd.alloc (.cells #[] 29)) := below_box _
          rw [hzd] at hna
          generalize wd.alloc (.cells #[] 29) = wa at *
          have hsrc : ∀ i v, xs[i]? = some v → wd.cell? ⟨q, 0 + i, none⟩ = some v := fun i v hi => by
            have := HT2.out.ri.cells (g := q) rfl i v hi
            rw [addr_at] at this
            exact this
          have hqa : wa.heap[q]? = wd.heap[q]? := hba.block q (by omega)
          have HBA := hid (And.intro hba hqa)
          have hown0 : wa.ownsRow 0 29 5 (.slice (some ⟨g6 + 1, 0, none⟩) 0 0) 0 [] := ⟨rfl, .inr ⟨g6 + 1, 0, #[], rfl, Nat.zero_le _, hna, Nat.le_refl _, Nat.zero_le _, rfl, rfl⟩⟩
          have HZD := hid hzd
          have HZA := hid hza
          have HSRC := hid hsrc
          clear hba hqa hna hza hsrc hzd
          refine ot_act rfl rfl (fun K hK => ?_)
          obtain ⟨i0, hi, hi0, hi1, hi2⟩ := info_parts Tryz.infoVal
          first
            | have _g := hcj2
              refine wp_append_moved _ _ _ 27 rfl 0 29 i0 _ 5 80 Tryz.underlying27 hi hi0 hi1 hi2 rfl (by decide) (.slice (some ⟨g6 + 1, 0, none⟩) 0 0) 0 [] rfl hown0 ⟨q, 0, none⟩ j c9 (xs.take (j * 5)) rfl (by rw [List.length_take]; omega) ?_ (fun u hu => HT2.out.one u (List.mem_of_mem_take hu)) (by unfold maxLen; omega) (by omega) (by omega) ?_
            | refine wp_append_moved _ _ _ 27 rfl 0 29 i0 _ 5 80 Tryz.underlying27 hi hi0 hi1 hi2 rfl (by decide) (.slice (some ⟨g6 + 1, 0, none⟩) 0 0) 0 [] rfl hown0 ⟨q, 0, none⟩ j (j + 1) (xs.take (j * 5)) rfl (by rw [List.length_take]; omega) ?_ (fun u hu => HT2.out.one u (List.mem_of_mem_take hu)) (by unfold maxLen; omega) (by omega) (by omega) ?_
          · intro i u hu
            rw [addr_at]
            have hi5 : i < j * 5 := by
              have := (List.getElem?_eq_some_iff.1 hu).1
              rw [List.length_take] at this
              omega
            rw [List.getElem?_take_of_lt hi5] at hu
            exact (World.cell?_of_block (a := ⟨q, 0 + i, none⟩) HBA.out.2).trans (HSRC.out i u hu)
          intro v1 wb hown1 hg1 hmv1
          have hv1 : ∀ k, v1.ownBlock = some k → g6 + 1 ≤ k := by
            intro k hk
            rcases hmv1 with h' | ⟨q', h1, h2⟩
            · rw [h'] at hk
              simp only [Value.ownBlock, Option.some.injEq] at hk
              omega
            · rw [h2] at hk
              injection hk with hk
              have := HZA.out
              omega
          have hk1 : ∀ b, b ≤ g6 → wb.heap[b]? = wd.heap[b]? := fun b hb => (hg1.block b (by have := HZA.out; omega) (by simp only [Value.ownBlock, ne_eq, Option.some.injEq]; omega)).trans (HBA.out.1.block b (by have := HZD.out; omega))
          have hzb : g6 + 2 ≤ wb.heap.size := by have := hg1.size; have := HZA.out; omega
          have hown1' : wb.ownsRow 0 29 5 v1 j (xs.take (j * 5)) := by
            have h := hown1
            rw [Nat.zero_add, List.nil_append] at h
            exact h
          have hsb : wb.os = wd.os ∧ wb.tape = wd.tape ∧ wb.output = wd.output := ⟨hg1.os.trans HBA.out.1.os, hg1.tape.trans HBA.out.1.tape, hg1.output.trans HBA.out.1.output⟩
          refine hK _ _ (.inr fun b hb => hg1.block b (by have := HZA.out; omega) (by simp only [Value.ownBlock, ne_eq, Option.some.injEq]; omega)) ?_
          clear hK K hown1 hown0 hmv1 hg1
          simp only [acR, Act.put]
          refine ot_act rfl rfl (fun K hK => ?_)
          obtain ⟨i0, hi, hi0, hi1, hi2⟩ := info_parts Tryz.infoVal
          first
            | have _g := hcj2
              refine wp_append_moved _ _ _ 27 rfl 0 29 i0 _ 5 80 Tryz.underlying27 hi hi0 hi1 hi2 rfl (by decide) v1 j (xs.take (j * 5)) rfl hown1' ⟨q, (j + 1) * 5, none⟩ (t.items.length - (j + 1)) (c9 - (j + 1)) (xs.drop ((j + 1) * 5)) ?_ (by rw [List.length_drop]; omega) ?_ (fun u hu => HT2.out.one u (List.mem_of_mem_drop hu)) (by unfold maxLen; omega) (by omega) (by omega) ?_
            | refine wp_append_moved _ _ _ 27 rfl 0 29 i0 _ 5 80 Tryz.underlying27 hi hi0 hi1 hi2 rfl (by decide) v1 j (xs.take (j * 5)) rfl hown1' ⟨q, 0, none⟩ 0 0 (xs.drop ((j + 1) * 5)) ?_ (by rw [List.length_drop]; omega) ?_ (fun u hu => HT2.out.one u (List.mem_of_mem_drop hu)) (by unfold maxLen; omega) (by omega) (by omega) ?_
          · rfl
          · intro i u hu
            rw [addr_at]
            rw [List.getElem?_drop] at hu
            first
              | have _g := hcj2
                have hs := HSRC.out _ u hu
                rw [Nat.zero_add] at hs
                exact (World.cell?_of_block (a := ⟨q, (j + 1) * 5 + i, none⟩) (hk1 q (by omega))).trans hs
              | have := (List.getElem?_eq_some_iff.1 hu).1
                exfalso
                omega
          intro v2 wc hown2 hg2 hmv2
          have hv2 : ∀ k, v2.ownBlock = some k → g6 + 1 ≤ k := by
            intro k hk
            rcases hmv2 with h' | ⟨q', h1, h2⟩
            · rw [h'] at hk
              exact hv1 k hk
            · rw [h2] at hk
              injection hk with hk
              omega
          have hk2 : ∀ b, b ≤ g6 → wc.heap[b]? = wd.heap[b]? := fun b hb => (hg2.block b (by omega) (fun e => by have := hv1 b e.symm; omega)).trans (hk1 b hb)
          have hzc : g6 + 2 ≤ wc.heap.size := by have := hg2.size; omega
          have hsc : wc.os = wd.os ∧ wc.tape = wd.tape ∧ wc.output = wd.output := ⟨hg2.os.trans hsb.1, hg2.tape.trans hsb.2.1, hg2.output.trans hsb.2.2⟩
          first
            | have _g := hcj2
              have hln : (t.items.eraseIdx j).length = j + (t.items.length - (j + 1)) := by rw [List.length_eraseIdx_of_lt hPl]; omega
            | have hln : (t.items.eraseIdx j).length = j + 0 := by rw [List.length_eraseIdx_of_lt hPl]; omega
          rw [← hln] at hown2
          obtain ⟨A2, c2, rfl⟩ : ∃ A2 c2, v2 = .slice A2 (t.items.eraseIdx j).length c2 := by
            rcases hown2.2 with ⟨e, h0⟩ | ⟨p, cap, cur, h1, h2, -⟩
            · exact ⟨none, 0, by rw [e, h0]⟩
            · exact ⟨_, cap, h1⟩
          refine hK _ _ (.inr fun b hb => hg2.block b (by omega) (fun e => by have := hv1 b e.symm; omega)) ?_
          clear hK K hown1' hmv2 hg2 hv1 hk1 hzb hsb
          simp only [acR, Act.put]
          have TC := HT2.out.cut (A2 := A2) (c2 := c2) hPl (by have := HZD.out; omega) hown2 (fun a ha => by have := hv2 a.block (by rw [ha]; rfl); have := HZD.out; omega) (fun b hb => hk2 b (by have := HZD.out; omega))
          first
            | have _g := hcj2
              have BXc : Box wc g6 (.int .i64 t.kind) (.int .i64 t.num) (.string t.text) (.slice (some ⟨q, 0, none⟩) t.items.length c9) (.slice A' t.names.length c9') := (hk2 g6 (Nat.le_refl _)).trans HBX.out
            | have BXc : Box wc g6 (.int .i64 t.kind) (.int .i64 t.num) (.string t.text) (.slice (some ⟨q, 0, none⟩) t.items.length (j + 1)) (.slice A' t.names.length c9') := (hk2 g6 (Nat.le_refl _)).trans HBX.out
          have Rc : Box wc (w.heap.size + 1) _ _ _ _ _ := (hk2 (w.heap.size + 1) (by omega)).trans HR.out
          have hbc : Below w.heap.size w wc := ⟨hsc.1.trans HB.out.os, hsc.2.1.trans HB.out.tape, hsc.2.2.trans HB.out.output, by have := HB.out.size; have := HZD.out; omega, fun b hb => (hk2 b (by omega)).trans (HB.out.block b hb)⟩
          have hA2 : ∀ a, A2 = some a → g6 + 1 ≤ a.block := fun a ha => hv2 a.block (by rw [ha]; rfl)
          have b3 := BXc.c3
          have bf3 := BXc.free 3
          have HC := hid (And.intro TC (And.intro BXc (And.intro Rc (And.intro hbc hA2))))
          have HLN := hid hln
          clear TC BXc Rc hbc hown2 hk2 hsc hv2 hA2 HB HBX HR HT2 HSRC HBA hln
          refine ot_step rfl (fun K hK => ?_)
          go_simp
          refine hK _ _ (.inr (LowR.refl _ _)) ?_
          clear hK K
          refine ot_step rfl (fun K hK => ?_)
          go_simp
          refine hK _ _ (.inl (by decide)) ?_
          clear hK K b3 bf3
          refine ot_end ?_
          obtain ⟨TC, BXc, Rc, hbc, hA2⟩ := HC.out
          have hBX : Box (wc.setCell ⟨g6, 3, none⟩ (.slice A2 (t.items.eraseIdx j).length c2)) g6 (.int .i64 t.kind) (.int .i64 t.num) (.string t.text) (.slice A2 (t.items.eraseIdx j).length c2) (.slice A' t.names.length c9') := Go.Joins.block_setCell (i := 3) BXc _
          have hR : Box (wc.setCell ⟨g6, 3, none⟩ (.slice A2 (t.items.eraseIdx j).length c2)) (w.heap.size + 1) _ _ _ _ _ := Box.far Rc (p := ⟨g6, 3, none⟩) (by show _ ≠ g6; omega) _
          have htop2 := TC.keep (w' := wc.setCell ⟨g6, 3, none⟩ (.slice A2 (t.items.eraseIdx j).length c2)) (by simp) (fun b hb => heap_setCell_other _ ⟨g6, 3, none⟩ b _ (by have := hb.2.1; show b ≠ g6; omega)) (fun a ha => heap_setCell_other _ ⟨g6, 3, none⟩ _ _ (by have := hA2 a ha; show a.block ≠ g6; omega)) (fun a ha => heap_setCell_other _ ⟨g6, 3, none⟩ _ _ (by have := (HFA.out.2 a ha).2; show a.block ≠ g6; omega))
          have hbw : Below w.heap.size w (wc.setCell ⟨g6, 3, none⟩ (.slice A2 (t.items.eraseIdx j).length c2)) := hbc.setCell (by show w.heap.size ≤ g6; omega) _
          have hzw : g6 + 2 ≤ (wc.setCell ⟨g6, 3, none⟩ (.slice A2 (t.items.eraseIdx j).length c2)).heap.size := by simpa using hzc
          have HA2 := hid hA2
          clear TC BXc Rc hbc hA2 HC hzc HZD HZA
          generalize wc.setCell ⟨g6, 3, none⟩ (.slice A2 (t.items.eraseIdx j).length c2) = wq at *
          have HBX := hid hBX
          have HR := hid hR
          have HT2 := hid htop2
          have HB := hid hbw
          clear hBX hR htop2 hbw
          obtain ⟨m, hm⟩ : ∃ m, m = (t.items.eraseIdx j).length := ⟨_, rfl⟩
          have HMM := hid hm
          clear hm
          go_wp2_with fail
          have hdr : Below wq.heap.size wq wq.drew := (Below.refl _ _).drew
          have hBX := Box.call HBX.out hdr
          have hR := Box.call HR.out hdr
          have hbd := toStart HB.out hdr
          have htop2 := HT2.out.keep (w' := wq.drew) hdr.size (fun b hb => hdr.block b (HT2.out.lt b hb)) (fun a ha => hdr.block _ (HT2.out.na a ha).2) (fun a ha => hdr.block _ (HT2.out.nb a ha).2)
          have hzd : g6 + 2 ≤ wq.drew.heap.size := hzw
          clear hdr HT2 HBX HR HB hzw
          generalize hwe : wq.drew = we at *
          obtain ⟨q', rfl⟩ : ∃ q', A' = some ⟨q', 0, none⟩ := by
            cases hA : A' with
            | none =>
              rcases htop2.rn.2 with ⟨-, h'⟩ | ⟨g, cap, cur, hv, -⟩
              · have := HNL.out; omega
              · rw [hA] at hv; cases hv
            | some a => exact ⟨a.block, by rw [row_at htop2.rn a hA]⟩
          have hqw' := (HFA.out.2 _ rfl)
          replace hqw' : w1.heap.size ≤ q' ∧ q' < g6 := hqw'
          have hcap' : t.names.length ≤ c9' ∧ c9' ≤ 9223372036854775807 := by
            rcases htop2.rn.2 with ⟨hv, -⟩ | ⟨g, cap, cur, hv, -, -, h1, h2, -⟩
            · cases hv
            · injection hv with e1 e2 e3
              subst e3
              exact ⟨h1, by unfold maxLen at h2; omega⟩
          refine wp_region_OT (LowR (g6 + 1)) (LowR.refl _) (LowR.trans _) [13] (.pure [1, 2, 3, 4, 6, 7, 8, 9, 10] (.step 0 (.step 5 (.step 11 (.step 12 (.step 13 (.tail []))))))) (by kernel_rfl) (by kernel_rfl) (fun _ d _ _ _ h => by cases d <;> exact h) ?_
          try rw [hwe]
          clear hwe
          have b4 : ∀ p : LaterR (LowR (g6 + 1)) we, p.u.cell? ⟨g6, 4, none⟩ = some (.slice (some ⟨q', 0, none⟩) t.names.length c9') := fun p => (World.cell?_of_block (a := ⟨g6, 4, none⟩) (p.h g6 (by omega))).trans hBX.c4
          have hjc' : (j : Int) ≤ (c9' : Int) := by have := HNL.out; omega
          have hjn : (j : Int) + 1 ≤ (t.names.length : Int) := by have := HNL.out; omega
          have HT2 := hid htop2
          have HBX := hid hBX
          have HR := hid hR
          have HB := hid hbd
          clear htop2 hBX hR hbd
          obtain ⟨Z, hZ⟩ : ∃ Z, Z = we.heap.size := ⟨_, rfl⟩
          by_cases hcj' : c9' = j + 1
          focus
            subst hcj'
          rotate_left
          focus
            have hcj3 : j + 1 < c9' := by omega
          all_goals
            refine ot_pure ?_
            simp only [atR]
            show wpQuiet _ _ _ _ [_, _, _, _, _, _, _, _, _] _
            try simp only [acR, Act.put]
            repeat (go_big_quiet_step (fail))
            refine wpQuiet_nil ?_
            clear b4
            refine ot_step rfl (fun K hK => ?_)
            go_simp
            refine hK _ _ (.inr fun b hb => Below.heap_alloc _ _ _ (by omega)) ?_
            clear hK K
            have hza : (we.alloc (.cells #[] 9)).heap.size = Z + 1 := by simp [hZ]
            have hna := heap_alloc_new we (.cells #[] 9)
            have hba : Below we.heap.size we (we.alloc (.cells #[] 9)) := below_box _
            rw [← hZ] at hna hba hzd ⊢
            generalize we.alloc (.cells #[] 9) = wa at *
            have hsrc : ∀ i v, (t.names.map Value.string)[i]? = some v → we.cell? ⟨q', 0 + i, none⟩ = some v := fun i v hi => by
              have := HT2.out.rn.cells (g := q') rfl i v hi
              rw [addr_at] at this
              exact this
            have hqa : wa.heap[q']? = we.heap[q']? := hba.block q' (by omega)
            have HBA := hid (And.intro hba hqa)
            have hown0 : wa.ownsRow 0 9 1 (.slice (some ⟨Z, 0, none⟩) 0 0) 0 [] := ⟨rfl, .inr ⟨Z, 0, #[], rfl, Nat.zero_le _, hna, Nat.le_refl _, Nat.zero_le _, rfl, rfl⟩⟩
            have HZD := hid hZ
            have HZA := hid hza
            have HSRC := hid hsrc
            have hone : ∀ u ∈ t.names.map Value.string, u.oneCell' = true := fun u hu => by obtain ⟨_, _, rfl⟩ := List.mem_map.1 hu; rfl
            have hml : (t.names.map Value.string).length = t.names.length := by simp
            have HONE := hid (And.intro hone hml)
            clear hba hqa hna hza hsrc hZ hone hml
            refine ot_act rfl rfl (fun K hK => ?_)
            obtain ⟨i0, hi, hi0, hi1, hi2⟩ := info_parts Tryz.infoStr
            first
              | have _g := hcj3
                refine wp_append_moved _ _ _ 23 rfl 0 9 i0 (.string ⟨#[]⟩) 1 16 Tryz.underlying23 hi hi0 hi1 hi2 rfl (by decide) (.slice (some ⟨Z, 0, none⟩) 0 0) 0 [] rfl hown0 ⟨q', 0, none⟩ j c9' ((t.names.map Value.string).take j) rfl (by rw [List.length_take, HONE.out.2]; omega) ?_ (fun u hu => HONE.out.1 u (List.mem_of_mem_take hu)) (by unfold maxLen; omega) (by omega) (by omega) ?_
              | refine wp_append_moved _ _ _ 23 rfl 0 9 i0 (.string ⟨#[]⟩) 1 16 Tryz.underlying23 hi hi0 hi1 hi2 rfl (by decide) (.slice (some ⟨Z, 0, none⟩) 0 0) 0 [] rfl hown0 ⟨q', 0, none⟩ j (j + 1) ((t.names.map Value.string).take j) rfl (by rw [List.length_take, HONE.out.2]; omega) ?_ (fun u hu => HONE.out.1 u (List.mem_of_mem_take hu)) (by unfold maxLen; omega) (by omega) (by omega) ?_
            · intro i u hu
              rw [addr_at]
              have hi5 : i < j := by
                have := (List.getElem?_eq_some_iff.1 hu).1
                rw [List.length_take] at this
                omega
              rw [List.getElem?_take_of_lt hi5] at hu
              exact (World.cell?_of_block (a := ⟨q', 0 + i, none⟩) HBA.out.2).trans (HSRC.out i u hu)
            intro v1 wb hown1 hg1 hmv1
            have hv1 : ∀ k, v1.ownBlock = some k → Z ≤ k := by
              intro k hk
              rcases hmv1 with h' | ⟨q2, h1, h2⟩
              · rw [h'] at hk
                simp only [Value.ownBlock, Option.some.injEq] at hk
                omega
              · rw [h2] at hk
                injection hk with hk
                have := HZA.out
                omega
            have hk1 : ∀ b, b < Z → wb.heap[b]? = we.heap[b]? := fun b hb => (hg1.block b (by have := HZA.out; omega) (by simp only [Value.ownBlock, ne_eq, Option.some.injEq]; omega)).trans (HBA.out.1.block b hb)
            have hzb : Z + 1 ≤ wb.heap.size := by have := hg1.size; have := HZA.out; omega
            have hown1' : wb.ownsRow 0 9 1 v1 j ((t.names.map Value.string).take j) := by
              have h := hown1
              rw [Nat.zero_add, List.nil_append] at h
              exact h
            have hsb : wb.os = we.os ∧ wb.tape = we.tape ∧ wb.output = we.output := ⟨hg1.os.trans HBA.out.1.os, hg1.tape.trans HBA.out.1.tape, hg1.output.trans HBA.out.1.output⟩
            refine hK _ _ (.inr fun b hb => hg1.block b (by have := HZA.out; omega) (by simp only [Value.ownBlock, ne_eq, Option.some.injEq]; omega)) ?_
            clear hK K hown1 hown0 hmv1 hg1
            simp only [acR, Act.put]
            refine ot_act rfl rfl (fun K hK => ?_)
            obtain ⟨i0, hi, hi0, hi1, hi2⟩ := info_parts Tryz.infoStr
            first
              | have _g := hcj3
                refine wp_append_moved _ _ _ 23 rfl 0 9 i0 (.string ⟨#[]⟩) 1 16 Tryz.underlying23 hi hi0 hi1 hi2 rfl (by decide) v1 j ((t.names.map Value.string).take j) rfl hown1' ⟨q', j + 1, none⟩ (t.names.length - (j + 1)) (c9' - (j + 1)) ((t.names.map Value.string).drop (j + 1)) ?_ (by rw [List.length_drop, HONE.out.2]; omega) ?_ (fun u hu => HONE.out.1 u (List.mem_of_mem_drop hu)) (by unfold maxLen; omega) (by omega) (by omega) ?_
              | refine wp_append_moved _ _ _ 23 rfl 0 9 i0 (.string ⟨#[]⟩) 1 16 Tryz.underlying23 hi hi0 hi1 hi2 rfl (by decide) v1 j ((t.names.map Value.string).take j) rfl hown1' ⟨q', 0, none⟩ 0 0 ((t.names.map Value.string).drop (j + 1)) ?_ (by rw [List.length_drop, HONE.out.2]; omega) ?_ (fun u hu => HONE.out.1 u (List.mem_of_mem_drop hu)) (by unfold maxLen; omega) (by omega) (by omega) ?_
            · rfl
            · intro i u hu
              rw [addr_at]
              rw [List.getElem?_drop] at hu
              first
                | have _g := hcj3
                  have hs := HSRC.out _ u hu
                  rw [Nat.zero_add] at hs
                  exact (World.cell?_of_block (a := ⟨q', j + 1 + i, none⟩) (hk1 q' (by omega))).trans hs
                | have := (List.getElem?_eq_some_iff.1 hu).1
                  rw [HONE.out.2] at this
                  exfalso
                  omega
            intro v2 wc hown2 hg2 hmv2
            have hv2 : ∀ k, v2.ownBlock = some k → Z ≤ k := by
              intro k hk
              rcases hmv2 with h' | ⟨q2, h1, h2⟩
              · rw [h'] at hk
                exact hv1 k hk
              · rw [h2] at hk
                injection hk with hk
                omega
            have hk2 : ∀ b, b < Z → wc.heap[b]? = we.heap[b]? := fun b hb => (hg2.block b (by omega) (fun e => by have := hv1 b e.symm; omega)).trans (hk1 b hb)
            have hzc : Z + 1 ≤ wc.heap.size := by have := hg2.size; omega
            have hsc : wc.os = we.os ∧ wc.tape = we.tape ∧ wc.output = we.output := ⟨hg2.os.trans hsb.1, hg2.tape.trans hsb.2.1, hg2.output.trans hsb.2.2⟩
            first
              | have _g := hcj3
                have hln : (t.names.eraseIdx j).length = j + (t.names.length - (j + 1)) := by rw [List.length_eraseIdx_of_lt (by omega)]; omega
              | have hln : (t.names.eraseIdx j).length = j + 0 := by rw [List.length_eraseIdx_of_lt (by omega)]; omega
            rw [← hln, names_cut t.names j (by omega)] at hown2
            obtain ⟨A3, c3, rfl⟩ : ∃ A3 c3, v2 = .slice A3 (t.names.eraseIdx j).length c3 := by
              rcases hown2.2 with ⟨e, h0⟩ | ⟨p, cap, cur, h1, h2, -⟩
              · exact ⟨none, 0, by rw [e, h0]⟩
              · exact ⟨_, cap, h1⟩
            refine hK _ _ (.inr fun b hb => hg2.block b (by omega) (fun e => by have := hv1 b e.symm; omega)) ?_
            clear hK K hown1' hmv2 hg2 hv1 hk1 hzb hsb
            simp only [acR, Act.put]
            have hA3 : ∀ a, A3 = some a → Z ≤ a.block := fun a ha => hv2 a.block (by rw [ha]; rfl)
            have TC := HT2.out.cutn (A2 := A3) (c2 := c3) (by have := HZD.out; omega) hown2 (fun a ha => by have := hA3 a ha; have := HZD.out; omega) (fun b hb => hk2 b (by have := HZD.out; omega))
            first
              | have _g := hcj3
                have BXc : Box wc g6 (.int .i64 t.kind) (.int .i64 t.num) (.string t.text) (.slice A2 (t.items.eraseIdx j).length c2) (.slice (some ⟨q', 0, none⟩) t.names.length c9') := (hk2 g6 (by omega)).trans HBX.out
              | have BXc : Box wc g6 (.int .i64 t.kind) (.int .i64 t.num) (.string t.text) (.slice A2 (t.items.eraseIdx j).length c2) (.slice (some ⟨q', 0, none⟩) t.names.length (j + 1)) := (hk2 g6 (by omega)).trans HBX.out
            have Rc : Box wc (w.heap.size + 1) _ _ _ _ _ := (hk2 (w.heap.size + 1) (by omega)).trans HR.out
            have hbc : Below w.heap.size w wc := ⟨hsc.1.trans HB.out.os, hsc.2.1.trans HB.out.tape, hsc.2.2.trans HB.out.output, by have := HB.out.size; have := HZD.out; omega, fun b hb => (hk2 b (by omega)).trans (HB.out.block b hb)⟩
            have b4 := BXc.c4
            have bf4 := BXc.free 4
            have HC := hid (And.intro TC (And.intro BXc (And.intro Rc (And.intro hbc hA3))))
            have HLN2 := hid hln
            clear TC BXc Rc hbc hown2 hk2 hsc hv2 hA3 HB HBX HR HT2 HSRC HBA hln
            refine ot_step rfl (fun K hK => ?_)
            go_simp
            refine hK _ _ (.inr (LowR.refl _ _)) ?_
            clear hK K
            refine ot_step rfl (fun K hK => ?_)
            go_simp
            refine hK _ _ (.inl (by decide)) ?_
            clear hK K b4 bf4
            refine ot_end ?_
            obtain ⟨TC, BXc, Rc, hbc, hA3⟩ := HC.out
            have hBX : Box (wc.setCell ⟨g6, 4, none⟩ (.slice A3 (t.names.eraseIdx j).length c3)) g6 (.int .i64 t.kind) (.int .i64 t.num) (.string t.text) (.slice A2 (t.items.eraseIdx j).length c2) (.slice A3 (t.names.eraseIdx j).length c3) := Go.Joins.block_setCell (i := 4) BXc _
            have hR : Box (wc.setCell ⟨g6, 4, none⟩ (.slice A3 (t.names.eraseIdx j).length c3)) (w.heap.size + 1) _ _ _ _ _ := Box.far Rc (p := ⟨g6, 4, none⟩) (by show _ ≠ g6; omega) _
            have T5 := TC.keep (w' := wc.setCell ⟨g6, 4, none⟩ (.slice A3 (t.names.eraseIdx j).length c3)) (by simp) (fun b hb => heap_setCell_other _ ⟨g6, 4, none⟩ b _ (by have := hb.2.1; show b ≠ g6; omega)) (fun a ha => heap_setCell_other _ ⟨g6, 4, none⟩ _ _ (by have := HA2.out a ha; show a.block ≠ g6; omega)) (fun a ha => heap_setCell_other _ ⟨g6, 4, none⟩ _ _ (by have := hA3 a ha; show a.block ≠ g6; omega))
            have hbw : Below w.heap.size w (wc.setCell ⟨g6, 4, none⟩ (.slice A3 (t.names.eraseIdx j).length c3)) := hbc.setCell (by show w.heap.size ≤ g6; omega) _
            clear TC BXc Rc hbc HC hzc
            generalize wc.setCell ⟨g6, 4, none⟩ (.slice A3 (t.names.eraseIdx j).length c3) = wr at *
            have hfin := with_fin (S := S) (w := w) (k := t.kind) (i := t.num) (s := t.text) T5 (r := w.heap.size + 1) (fun b hb => ⟨by have := hb.1; omega, .inr (by have := hb.1; omega)⟩) (fun a ha => by have := HA2.out a ha; omega) (fun a ha => by have := hA3 a ha; omega) HS.out hbw (by omega) HK.out.1 HK.out.2.1 HK.out.2.2.1 (by have := HLN.out; omega) (by have := HNL.out; rw [List.length_eraseIdx_of_lt (by omega)]; omega) (fun y hy => HK.out.2.2.2 y (List.mem_of_mem_eraseIdx hy))
            have FIN := five_box (c0 := .int .i64 t.kind) (c1 := .int .i64 t.num) (c2 := .string t.text) (c3 := .slice A2 (t.items.eraseIdx j).length c2) (c4 := .slice A3 (t.names.eraseIdx j).length c3) hR
            have z0 := hBX.c0
            have z1 := hBX.c1
            have z2 := hBX.c2
            have z3 := hBX.c3
            have z4 := hBX.c4
            have r0 := hR.c0
            have r1 := hR.c1
            have r2 := hR.c2
            have r3 := hR.c3
            have r4 := hR.c4
            have rf0 := hR.free 0
            have rf1 := hR.free 1
            have rf2 := hR.free 2
            have rf3 := hR.free 3
            have rf4 := hR.free 4
            have HF := hid (And.intro hfin FIN)
            clear T5 hbw hfin FIN hBX hR hA3
            go_wp2_with fail
            (try simp only [Exit.inBlock, Exit.then])
            refine bodyPost_ret (results_cell_row rfl _ _ (w.heap.size + 1) 29 _ (0, 0) _ rfl HF.out.2 Tryz.underlying29 rfl (by kernel_rfl)) rfl ?_
            have e1 : (goT dropFin t [s]).2 = .mk t.kind t.num t.text (t.items.eraseIdx j) (t.names.eraseIdx j) := by
              rw [goT_end (.inr rfl), dropFin_cons]
              show (if _ then _ else _) = _
              rw [if_neg (by rw [← HPP.out]; omega), if_pos H7.out, ← HPP.out, Int.toNat_natCast]
              cases t; rfl
            refine ⟨_, rfl, ?_, HF.out.1.2⟩
            rw [e1]
            exact HF.out.1.1
    · have hrl : 0 < r.length := by cases r with | nil => exact absurd rfl hr0 | cons a b => simp
      have hlen1 : (1 : Int) < ((r.length + 1 : Nat) : Int) := by omega
      have hlen2 : decide ((1 : Int) < ((r.length + 1 : Nat) : Int)) = true := decide_eq_true hlen1
      have hc1 : r.length + 1 ≤ c := by simpa using hpc
      have hn1 : r.length + 1 ≤ 140737488351232 := by simpa using hn
      go_wp2_with fail
      have hdr : Below w1.heap.size w1 w1.drew := (Below.refl _ _).drew
      replace hV := hV.call hdr
      replace hR := Box.call hR hdr
      replace HB := hid (toStart HB.out hdr)
      clear hdr
      generalize hwd : w1.drew = wd at *
      have hzd := hR.lt
      obtain ⟨b2, off2, rfl, hb2, hls⟩ := HVA.out (by omega)
      obtain ⟨d0, d1, d2, d3, d4, g0, g1, g2, g3, g4, hx⟩ := hls.at j hPl
      obtain ⟨A2, e2, A6, e6, hag, -⟩ := hx.shape
      injection hag with hag; injection hag with hag
      injection hag with z0 hag; injection hag with z1 hag; injection hag with z2 hag; injection hag with z3 hag; injection hag with z4 hag
      subst z0 z1 z2 z3 z4
      have hbS2 := HS.out b2 hb2
      have hSd : ∀ b, S b → b < wd.heap.size := fun b hb => Nat.lt_of_lt_of_le (HS.out b hb) HB.out.size
      have hxd := hx.keep (w' := wd) fun b hb => HB.out.block b (HS.out b hb)
      have htl : StrsAt wd S (some ⟨b, off + 1, none⟩) r := by
        have := (HP.out.tail (c := c) (.inr (by omega))).keep (w' := wd) fun b hb => HB.out.block b (HS.out b hb)
        have ht : tailA (some ⟨b, off, none⟩) c = some ⟨b, off + 1, none⟩ := by
          unfold tailA
          rw [if_neg (by omega)]
          simp [add_at]
        rw [ht] at this
        exact this
      have IH := hid (ih hr0 S t.items[j] _ (some ⟨b, off + 1, none⟩) (c - 1) wd hSd hxd (may_item HM.out.1 hPl) (smallT.item t j hPl HM.out.2) htl (by omega) (by omega) (by omega))
      have hw : ∀ o, wd.cell? ⟨b2, o, none⟩ = w.cell? ⟨b2, o, none⟩ := fun o => HB.out.cell (p := ⟨b2, o, none⟩) hbS2
      rw [← hw] at g0 g1 g2 g3 g4
      refine wp_region_OT (Keep2 (w.heap.size + 1) (w.heap.size + 1)) (Keep2.refl _ _) (Keep2.trans _ _) [11] (.pure [0, 1, 2, 3, 4, 5, 6, 7, 8] (.step 9 (.step 10 (.step 11 (.tail []))))) (by kernel_rfl) (by kernel_rfl) (fun _ d _ _ _ h => by cases d <;> exact h) ?_
      rw [hwd]
      clear hwd
      have kq : ∀ (p : LaterR (Keep2 (w.heap.size + 1) (w.heap.size + 1)) wd) (q o : Nat), q ≤ w.heap.size → p.u.cell? ⟨q, o, none⟩ = wd.cell? ⟨q, o, none⟩ := fun p q o hq => World.cell?_of_block (a := ⟨q, o, none⟩) (p.h.2 q (by omega) (by omega) (by omega))
      have y0 := fun p : LaterR (Keep2 (w.heap.size + 1) (w.heap.size + 1)) wd => (kq p w.heap.size 0 (Nat.le_refl _)).trans hV.x.c0
      have y1 := fun p : LaterR (Keep2 (w.heap.size + 1) (w.heap.size + 1)) wd => (kq p w.heap.size 1 (Nat.le_refl _)).trans hV.x.c1
      have y2 := fun p : LaterR (Keep2 (w.heap.size + 1) (w.heap.size + 1)) wd => (kq p w.heap.size 2 (Nat.le_refl _)).trans hV.x.c2
      have y3 := fun p : LaterR (Keep2 (w.heap.size + 1) (w.heap.size + 1)) wd => (kq p w.heap.size 3 (Nat.le_refl _)).trans hV.x.c3
      have y4 := fun p : LaterR (Keep2 (w.heap.size + 1) (w.heap.size + 1)) wd => (kq p w.heap.size 4 (Nat.le_refl _)).trans hV.x.c4
      have m0 := fun p : LaterR (Keep2 (w.heap.size + 1) (w.heap.size + 1)) wd => (kq p b2 _ (by omega)).trans g0
      have m1 := fun p : LaterR (Keep2 (w.heap.size + 1) (w.heap.size + 1)) wd => (kq p b2 _ (by omega)).trans g1
      have m2 := fun p : LaterR (Keep2 (w.heap.size + 1) (w.heap.size + 1)) wd => (kq p b2 _ (by omega)).trans g2
      have m3 := fun p : LaterR (Keep2 (w.heap.size + 1) (w.heap.size + 1)) wd => (kq p b2 _ (by omega)).trans g3
      have m4 := fun p : LaterR (Keep2 (w.heap.size + 1) (w.heap.size + 1)) wd => (kq p b2 _ (by omega)).trans g4
      have HV := hid hV
      have HR := hid hR
      have hjl : (j : Int) < (t.items.length : Int) := by omega
      have hjb : t.items.length ≤ 10000 := hll.1
      clear kq hV hR g0 g1 g2 g3 g4 hw hx hxd htl hSd
      refine ot_pure ?_
      simp only [atR]
      show wpQuiet _ _ _ _ [_, _, _, _, _, _, _, _, _] _
      try simp only [acR, Act.put]
      repeat (go_big_quiet_step (fail))
      refine wpQuiet_nil ?_
      clear y0 y1 y2 y3 y4 m0 m1 m2 m3 m4
      refine ot_step rfl (fun K hK => ?_)
      go_simp
      refine IH.out.mono ?_
      rintro e w2 ⟨v', rfl, hv, hb2'⟩
      obtain ⟨A4, e4, A5, e5, rfl, -⟩ := hv.shape
      refine hK _ _ (.inr (Keep2.of hb2')) ?_
      clear hK K IH
      have hV := HV.out.call hb2'
      have hR := Box.call HR.out hb2'
      replace HB := hid (toStart HB.out hb2')
      have hz2 := hb2'.size
      clear hb2' HV HR
      obtain ⟨X, hX⟩ : ∃ X, X = (goT dropFin t.items[j] r).2 := ⟨_, rfl⟩
      rw [← hX] at hv ⊢
      have HX := hid hX
      clear hX
      have HWI := hid (rwith_any (fun b => S b ∨ (wd.heap.size ≤ b ∧ b < w2.heap.size)) t _ (j : Int) ⟨#[]⟩ X _ w2 (fun b hb => hb.elim (hV.s b) (fun e => e.2)) (hV.v.imp fun b hb => .inl hb) hv (by omega) (by omega) (by omega) (by decide))
      have HV := hid hV
      have HR := hid hR
      clear hV hR hv
      refine ot_step rfl (fun K hK => ?_)
      go_simp
      refine HWI.out.mono ?_
      rintro e w3 ⟨v', rfl, hv, hb3⟩
      obtain ⟨A7, e7, A8, e8, rfl, -⟩ := hv.shape
      refine hK _ _ (.inr (Keep2.of hb3)) ?_
      clear hK K HWI
      have hR := Box.call HR.out hb3
      replace HB := hid (toStart HB.out hb3)
      have hz3 := hb3.size
      have e1 : withT t (j : Int) ⟨#[]⟩ X = (goT dropFin t (s :: r)).2 := by
        rw [goT_on (by rw [← HPP.out]; exact h0) hr0 (by rw [← HPP.out]; simpa using hPl)]
        unfold withT
        rw [if_pos (by omega), HX.out]
        simp only [← HPP.out, Int.toNat_natCast]
      obtain ⟨Y, hY⟩ : ∃ Y, Y = withT t (j : Int) ⟨#[]⟩ X := ⟨_, rfl⟩
      rw [← hY] at hv e1 ⊢
      clear hY
      have hfin := drop_fin (S := S) (w := w) (r := w.heap.size + 1) (m := wd.heap.size) (hv.imp fun q hq => hq.elim (fun e => e.imp id fun e => ⟨e.1, by omega⟩) fun e => .inr ⟨by omega, e.2⟩) HS.out (by omega) (by omega) HB.out ⟨_, _, _, _, _, hR⟩
      have HF := hid (And.intro hfin e1)
      clear hfin e1 hv hb3 HV HR
      have r0 := hR.c0
      have r1 := hR.c1
      have r2 := hR.c2
      have r3 := hR.c3
      have r4 := hR.c4
      have rf0 := hR.free 0
      have rf1 := hR.free 1
      have rf2 := hR.free 2
      have rf3 := hR.free 3
      have rf4 := hR.free 4
      clear hR
      refine ot_step rfl (fun K hK => ?_)
      go_simp
      refine hK _ _ (.inl (by decide)) ?_
      clear hK K
      refine ot_end ?_
      go_wp2_with fail
      (try simp only [Exit.inBlock, Exit.then])
      refine bodyPost_ret (results_cell_row rfl _ _ (w.heap.size + 1) 29 _ (0, 0) _ rfl HF.out.1.2.2 Tryz.underlying29 rfl (by kernel_rfl)) rfl ?_
      rw [← HF.out.2]
      exact ⟨_, rfl, HF.out.1.1, HF.out.1.2.1⟩
end Go.Proofs.YtnamdlljdgllmaaGreat
