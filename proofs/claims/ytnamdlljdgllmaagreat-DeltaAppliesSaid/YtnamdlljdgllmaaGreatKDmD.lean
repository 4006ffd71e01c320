/- Changes done one behind the other, by the program. -/
import Derived.Test.YtnamdlljdgllmaaGreatKTuE
import Derived.Test.YtnamdlljdgllmaaGreatKValM
namespace Go.Proofs.YtnamdlljdgllmaaGreat
open Lib (hid)
set_option linter.unusedVariables false
set_option linter.unusedSimpArgs false
open Go.RowKit
set_option maxRecDepth 100000
def LensD (K : Nat) (l : List DelT) : Prop := ∀ d ∈ l, lensT K d.val = true
theorem take_dels {l : List DelT} {k : Nat} (hk : k < l.length) : l.take (k + 1) = l.take k ++ [l[k]] := List.take_succ_eq_append_getElem hk
theorem doL_next {l : List DelT} {t u : VT} {k : Nat} (hk : k < l.length) (h : doL (l.take k) t = (0, u)) : doL (l.take (k + 1)) t = if (doD l[k] u).1 = 0 then doD l[k] u else ((doD l[k] u).1, nilT) := by
  rw [take_dels hk, doL_snoc, h]
  rfl
theorem doL_end {l : List DelT} {t u : VT} {k : Nat} (hk : k < l.length) (h : doL (l.take k) t = (0, u)) (hx : (doD l[k] u).1 ≠ 0) : doL l t = ((doD l[k] u).1, nilT) := by
  have h1 := doL_next hk h
  rw [if_neg hx] at h1
  have h2 := doL_bad (r := l.drop (k + 1)) (l := l.take (k + 1)) (t := t) (by rw [h1]; exact hx)
  rw [List.take_append_drop, h1] at h2
  exact h2
structure MadeL (w wr : World) (g : Nat) (u : VT) (A : Option Addr) (c : Nat) (A' : Option Addr) (c' : Nat) : Prop where
  below : Below w.heap.size w wr
  zero : Box wr (w.heap.size + 1) (.int .i64 0) (.int .i64 0) (.string ⟨#[]⟩) (.slice none 0 0) (.slice none 0 0)
  box : Box wr g (.int .i64 u.kind) (.int .i64 u.num) (.string u.text) (.slice A u.items.length c) (.slice A' u.names.length c')
  val : LV wr (fun b => w.heap.size + 2 ≤ b ∧ b < wr.heap.size ∧ b ≠ g) u (.agg #[.int .i64 u.kind, .int .i64 u.num, .string u.text, .slice A u.items.length c, .slice A' u.names.length c'])
  far : w.heap.size + 2 ≤ g
theorem MadeL.end {w wr : World} {g : Nat} {u : VT} {A : Option Addr} {c : Nat} {A' : Option Addr} {c' : Nat} {r : Int × VT} (h : MadeL w wr g u A c A' c') (hr : r = (0, u)) :
    ChangeR r w (.returned (.tuple #[.agg #[.int .i64 u.kind, .int .i64 u.num, .string u.text, .slice A u.items.length c, .slice A' u.names.length c'], .int .i64 0])) (five wr (w.heap.size + 1) 0 (.int .i64 u.kind) (.int .i64 u.num) (.string u.text) (.slice A u.items.length c) (.slice A' u.names.length c')) :=
  change_endq 1 h.below (h.val.imp fun b hb => ⟨by have := hb.1; omega, hb.2.1⟩) hr
theorem zero_end {w wr : World} {x : Int} {r : Int × VT} (hb : Below w.heap.size w wr) (hr : r = (x, nilT)) : ChangeR r w (.returned (.tuple #[.agg #[.int .i64 0, .int .i64 0, .string ⟨#[]⟩, .slice none 0 0, .slice none 0 0], .int .i64 x])) (five wr (w.heap.size + 1) 0 (.int .i64 0) (.int .i64 0) (.string ⟨#[]⟩) (.slice none 0 0) (.slice none 0 0)) := by
  subst hr
  exact change_endq 1 hb (leaf_lv _ _ _ _ _ (by unfold Rng; omega) (by unfold Rng; omega) (by decide)) rfl
set_option maxHeartbeats 16000000 in
theorem dlapply_any (S : Nat → Prop) (t : VT) (v : Value) (A : Option Addr) (c : Nat) (l : List DelT) (w : World) (K D : Nat) (hS : ∀ b, S b → b < w.heap.size) (h : LV w S t v) (hd : depthT t ≤ D) (hlt : lensT K t = true) (hK : K ≤ 9000) (hD : D ≤ 1000000)
    (hl : DelsL w S A l) (hcap : CapsD w A l) (hn : l.length ≤ 140737488351232) (hsm : l.length ≤ 64 → SmallD l ∧ SmallZD l ∧ LensD K l) :
    Calls Tryz.prog 23 #[v, .slice A l.length c] w (ChangeR (applyD l t) w) := by
  obtain ⟨A0, c0, A0', c0', rfl, -, -, -, v1, hb0⟩ := one_var hS h
  have hV := h
  have hz1 : (w.alloc (.cells #[.int .i64 t.kind, .int .i64 t.num, .string t.text, .slice A0 t.items.length c0, .slice A0' t.names.length c0'] 29)).heap.size = w.heap.size + 1 := by simp
  have hz2 : ((w.alloc (.cells #[.int .i64 t.kind, .int .i64 t.num, .string t.text, .slice A0 t.items.length c0, .slice A0' t.names.length c0'] 29)).alloc (.cells #[.int .i64 0, .int .i64 0, .string ⟨#[]⟩, .slice none 0 0, .slice none 0 0] 29)).heap.size = w.heap.size + 2 := by simp
  have hB : Below w.heap.size w ((w.alloc (.cells #[.int .i64 t.kind, .int .i64 t.num, .string t.text, .slice A0 t.items.length c0, .slice A0' t.names.length c0'] 29)).alloc (.cells #[.int .i64 0, .int .i64 0, .string ⟨#[]⟩, .slice none 0 0, .slice none 0 0] 29)) := hb0.alloc (by omega) _
  have hX := v1.x.alloc (.cells #[.int .i64 0, .int .i64 0, .string ⟨#[]⟩, .slice none 0 0, .slice none 0 0] 29)
  have hR : Box ((w.alloc (.cells #[.int .i64 t.kind, .int .i64 t.num, .string t.text, .slice A0 t.items.length c0, .slice A0' t.names.length c0'] 29)).alloc (.cells #[.int .i64 0, .int .i64 0, .string ⟨#[]⟩, .slice none 0 0, .slice none 0 0] 29)) (w.heap.size + 1) (.int .i64 0) (.int .i64 0) (.string ⟨#[]⟩) (.slice none 0 0) (.slice none 0 0) := by
    have h := Box.new (w := w.alloc (.cells #[.int .i64 t.kind, .int .i64 t.num, .string t.text, .slice A0 t.items.length c0, .slice A0' t.names.length c0'] 29)) (.int .i64 0) (.int .i64 0) (.string ⟨#[]⟩) (.slice none 0 0) (.slice none 0 0)
    rw [hz1] at h
    exact h
  obtain ⟨W, hW⟩ : ∃ W, W = (w.alloc (.cells #[.int .i64 t.kind, .int .i64 t.num, .string t.text, .slice A0 t.items.length c0, .slice A0' t.names.length c0'] 29)).alloc (.cells #[.int .i64 0, .int .i64 0, .string ⟨#[]⟩, .slice none 0 0, .slice none 0 0] 29) := ⟨_, rfl⟩
  rw [← hW] at hB hX hR hz2
  have HSD := hid (And.intro hd (And.intro hlt hsm))
  have HV := hid hV
  have HL := hid hl
  have HCP := hid hcap
  have HS := hid hS
  have HC := hid (dlcheck_w S A c l W (fun b hb => by have := hS b hb; omega) (hl.below hS hB) hn (fun h => (hsm h).1))
  have HB := hid hB
  have HX := hid hX
  have HR := hid hR
  have HZ2 := hid hz2
  obtain ⟨res, hres⟩ : ∃ r, r = applyD l t := ⟨_, rfl⟩
  have HRES := hid hres
  rw [← hres]
  clear hd hlt hsm h hV hl hcap hS v1 hb0 hz1 hB hX hR hz2 hres
  go_enter Tryz.func23, Tryz.ntmps23
  go_wp2_with fail
  rw [← hW]
  clear hW
  refine HC.out.mono ?_
  rintro e w3 ⟨rfl, hb3⟩
  obtain ⟨x, hx⟩ : ∃ x, x = checkD l := ⟨_, rfl⟩
  rw [← hx]
  have HXC := hid hx
  have HX3 := hid (HX.out.call hb3)
  have HR3 := hid (HR.out.call hb3)
  have HB3 := hid (HB.out.trans (hb3.mono HB.out.size))
  have HZ3 : Hid (w.heap.size + 2 ≤ w3.heap.size) := hid (by have := hb3.size; have := HZ2.out; omega)
  clear hb3 hx HC HX HR HB HZ2
  by_cases hx0 : x = 0
  rotate_left
  · have d1 : (x != 0) = true := by simpa using hx0
    have HE : Hid (res = (x, nilT)) := hid (by rw [HRES.out]; unfold applyD; rw [← HXC.out, if_pos hx0])
    have HEND := hid (zero_end HB3.out HE.out)
    have HBOX := hid (five_box (c0 := .int .i64 0) (c1 := .int .i64 0) (c2 := .string ⟨#[]⟩) (c3 := .slice none 0 0) (c4 := .slice none 0 0) HR3.out)
    have rf := fun i => HR3.out.free i
    have r0 := HR3.out.c0
    have r1 := HR3.out.c1
    have r2 := HR3.out.c2
    have r3 := HR3.out.c3
    have r4 := HR3.out.c4
    clear hx0
    go_wp2_with fail
    refine bodyPost_ret (results_cell_two rfl _ _ (w.heap.size + 1) 29 _ (0, 0) rfl HBOX.out (by kernel_rfl)) rfl ?_
    exact HEND.out
  subst hx0
  have HCZ := hid (checkD_zero HXC.out.symm)
  have HSQ := hid (HSD.out.2.2 HCZ.out.1)
  have HAP : Hid (res = if docB t = true then doL l t else (20, nilT)) := hid (by rw [HRES.out]; unfold applyD; rw [if_neg (by rw [← HXC.out]; simp)])
  obtain ⟨kd, hkd⟩ : ∃ k, k = t.kind := ⟨_, rfl⟩
  have q0 := HX3.out.c0
  have q1 := HX3.out.c1
  have q2 := HX3.out.c2
  have q3 := HX3.out.c3
  have q4 := HX3.out.c4
  have HLV3 := hid (HV.out.keep fun b hb => HB3.out.block b (HS.out b hb))
  have HM := hid (may_any S t _ w3 (fun b hb => Nat.lt_of_lt_of_le (HS.out b hb) HB3.out.size) HLV3.out (by have := HSD.out.1; omega))
  rw [← hkd] at q0 HM HLV3
  have HKD := hid hkd
  clear hkd HRES
  by_cases h7 : kd = 7
  rotate_left
  · have d1 : (kd != 7) = true := bne_iff_ne.2 h7
    have HE : Hid (res = (20, nilT)) := hid (by rw [HAP.out, if_neg (fun k => h7 (by rw [HKD.out]; exact (docB_iff.1 k).2))])
    have HEND := hid (zero_end HB3.out HE.out)
    have HBOX := hid (five_box (c0 := .int .i64 0) (c1 := .int .i64 0) (c2 := .string ⟨#[]⟩) (c3 := .slice none 0 0) (c4 := .slice none 0 0) HR3.out)
    have rf := fun i => HR3.out.free i
    have r0 := HR3.out.c0
    have r1 := HR3.out.c1
    have r2 := HR3.out.c2
    have r3 := HR3.out.c3
    have r4 := HR3.out.c4
    clear h7
    go_wp2_with fail
    refine bodyPost_ret (results_cell_two rfl _ _ (w.heap.size + 1) 29 _ (0, 0) rfl HBOX.out (by kernel_rfl)) rfl ?_
    exact HEND.out
  subst h7
  go_wp2_with fail
  refine HM.out.mono ?_
  rintro e w4 ⟨rfl, hb4⟩
  have HX4 := hid (HX3.out.call hb4)
  have HR4 := hid (HR3.out.call hb4)
  have HB4 := hid (HB3.out.trans (hb4.mono HB3.out.size))
  have HZ4 : Hid (w.heap.size + 2 ≤ w4.heap.size) := hid (by have := hb4.size; have := HZ3.out; omega)
  have HLV4 := hid (HLV3.out.keep (w' := w4) fun b hb => hb4.block b (Nat.lt_of_lt_of_le (HS.out b hb) HB3.out.size))
  clear q0 q1 q2 q3 q4 hb4 HM HX3 HR3 HB3 HZ3 HLV3
  cases hmt : mayT t
  · have HE : Hid (res = (20, nilT)) := hid (by rw [HAP.out, if_neg (fun k => by have := (docB_iff.1 k).1; rw [hmt] at this; cases this)])
    have HEND := hid (zero_end HB4.out HE.out)
    have HBOX := hid (five_box (c0 := .int .i64 0) (c1 := .int .i64 0) (c2 := .string ⟨#[]⟩) (c3 := .slice none 0 0) (c4 := .slice none 0 0) HR4.out)
    have rf := fun i => HR4.out.free i
    have r0 := HR4.out.c0
    have r1 := HR4.out.c1
    have r2 := HR4.out.c2
    have r3 := HR4.out.c3
    have r4 := HR4.out.c4
    clear hmt
    go_wp2_with fail
    refine bodyPost_ret (results_cell_two rfl _ _ (w.heap.size + 1) 29 _ (0, 0) rfl HBOX.out (by kernel_rfl)) rfl ?_
    exact HEND.out
  have HDOC : Hid (DocK K D t) := hid ⟨docB_iff.2 ⟨hmt, HKD.out.symm⟩, HSD.out.2.1, HSD.out.1⟩
  have HAL : Hid (res = doL l t) := hid (by rw [HAP.out, if_pos HDOC.out.doc])
  have q0 := HX4.out.c0
  have q1 := HX4.out.c1
  have q2 := HX4.out.c2
  have q3 := HX4.out.c3
  have q4 := HX4.out.c4
  have HLV5 := HLV4.out
  rw [HKD.out] at HLV5
  have HCL := hid (clone_any S t _ w4 (fun b hb => Nat.lt_of_lt_of_le (HS.out b hb) HB4.out.size) HLV5)
  rw [← HKD.out] at HCL q0
  clear hmt HAP HLV5 HLV4
  go_wp2_with fail
  refine HCL.out.mono ?_
  rintro e w5 ⟨v5, rfl, hv5, hb5⟩
  obtain ⟨A5, c5, A5', c5', rfl, -⟩ := hv5.shape
  have hz45 := HZ4.out
  have hz55 := hb5.size
  have hm0 : MadeL w (w5.alloc (.cells #[.int .i64 t.kind, .int .i64 t.num, .string t.text, .slice A5 t.items.length c5, .slice A5' t.names.length c5'] 29)) w5.heap.size t A5 c5 A5' c5' :=
    { below := (HB4.out.trans (hb5.mono HB4.out.size)).alloc (Nat.le_trans HB4.out.size hb5.size) _
      zero := (HR4.out.call hb5).alloc _
      box := Box.new _ _ _ _ _
      val := (hv5.keep fun b hb => Below.heap_alloc w5 _ b hb.2).imp fun b hb => ⟨by have := hb.1; omega, by have := hb.2; simp; omega, by have := hb.2; omega⟩
      far := by omega }
  obtain ⟨g5, hg5⟩ : ∃ g, g = w5.heap.size := ⟨_, rfl⟩
  obtain ⟨w6, hw6⟩ : ∃ W, W = w5.alloc (.cells #[.int .i64 t.kind, .int .i64 t.num, .string t.text, .slice A5 t.items.length c5, .slice A5' t.names.length c5'] 29) := ⟨_, rfl⟩
  rw [← hg5, ← hw6] at hm0
  have h0 : Hid (∃ (u : VT) (A : Option Addr) (c : Nat) (A' : Option Addr) (c' : Nat), MadeL w w6 g5 u A c A' c' ∧ doL (l.take 0) t = (0, u) ∧ DocK (K + 0) (D + 16 * 0) u) := hid ⟨t, A5, c5, A5', c5', hm0, by simp [doL], by simpa using HDOC.out⟩
  clear q0 q1 q2 q3 q4 hv5 hb5 hm0 HCL HX4 HR4 HB4 HZ4 hz45 hz55 HKD
  go_wp2_with fail
  rw [← hw6, ← hg5]
  clear hw6 hg5
  go_wp2_with fail
  go_loopw [31] (fun i wr => ∃ k : Nat, i = .int .i64 k ∧ k ≤ l.length ∧ Hid (∃ (u : VT) (A : Option Addr) (c : Nat) (A' : Option Addr) (c' : Nat), MadeL w wr g5 u A c A' c' ∧ doL (l.take k) t = (0, u) ∧ DocK (K + k) (D + 16 * k) u)) (fun i _ => l.length - (intOf i).toNat)
  case atStart => exact ⟨0, rfl, by omega, h0⟩
  case round =>
    obtain ⟨k, rfl, hk, HH⟩ := hrel
    obtain ⟨u, A6, c6, A6', c6', hm, hdo, hdk⟩ := HH.out
    clear HH
    by_cases hlt : k < l.length
    · have d1 : decide ((k : Int) < (l.length : Int)) = true := decide_eq_true (by omega)
      obtain ⟨p, off, PA, pc, VA, vc, VA', vc', rfl, hpS, ho, x0, x1, x2, x3, x4, x5, x6, x7⟩ := HL.out.cells k hlt
      have h63 := HCP.out k hlt p off rfl PA _ pc x1
      have hp := hm.below.block p (HS.out p hpS)
      have z0 := (World.cell?_of_block (a := ⟨p, off + k * 8, none⟩) hp).trans x0
      have z1 := (World.cell?_of_block (a := ⟨p, off + k * 8 + 1, none⟩) hp).trans x1
      have z2 := (World.cell?_of_block (a := ⟨p, off + k * 8 + 2, none⟩) hp).trans x2
      have z3 := (World.cell?_of_block (a := ⟨p, off + k * 8 + 3, none⟩) hp).trans x3
      have z4 := (World.cell?_of_block (a := ⟨p, off + k * 8 + 4, none⟩) hp).trans x4
      have z5 := (World.cell?_of_block (a := ⟨p, off + k * 8 + 5, none⟩) hp).trans x5
      have z6 := (World.cell?_of_block (a := ⟨p, off + k * 8 + 6, none⟩) hp).trans x6
      have z7 := (World.cell?_of_block (a := ⟨p, off + k * 8 + 7, none⟩) hp).trans x7
      have hmay := HCZ.out.2 _ (List.getElem_mem hlt)
      have h64 := HCZ.out.1
      have HM6 := hid hm
      have HDK := hid hdk
      have HDO := hid hdo
      obtain ⟨X, hX⟩ : ∃ X : Obj, X = .cells #[.int .i64 l[k].kind, .slice PA l[k].path.length pc, .int .i64 l[k].val.kind, .int .i64 l[k].val.num, .string l[k].val.text, .slice VA l[k].val.items.length vc, .slice VA' l[k].val.names.length vc', .int .i64 l[k].num] 31 := ⟨_, rfl⟩
      have hb7 : Below w.heap.size w (wr.alloc X) := hm.below.alloc hm.below.size X
      have hD7 : DBox (wr.alloc X) wr.heap.size (.int .i64 l[k].kind) (.slice PA l[k].path.length pc) (.int .i64 l[k].val.kind) (.int .i64 l[k].val.num) (.string l[k].val.text) (.slice VA l[k].val.items.length vc) (.slice VA' l[k].val.names.length vc') (.int .i64 l[k].num) := by rw [hX]; exact DBox.new wr _ _ _ _ _ _ _ _
      have hM7 := hm.box.alloc X
      have HZ7 := hid (hm.zero.alloc X)
      have hgl := hm.box.lt
      have hfar := hm.far
      have hz7 : (wr.alloc X).heap.size = wr.heap.size + 1 := by simp
      have HLV7 := hm.val.keep (w' := wr.alloc X) fun b hb => Below.heap_alloc wr X b hb.2.1
      have HDO7 := hid (dldo_any (fun b => b < (wr.alloc X).heap.size) u _ l[k] PA pc VA vc VA' vc' (wr.alloc X) (fun b hb => hb) (HLV7.imp fun b hb => by have := hb.2.1; omega) (by have := hdk.deep; omega) (lens_mono (by omega) _ hdk.lens) ((ho.keep fun b hb => hb7.block b (HS.out b hb)).imp fun b hb => by have := HS.out b hb; have := hb7.size; omega) hmay h63 (HSQ.out.1 _ (List.getElem_mem hlt)))
      have HNX := hid (doD_step hmay (HSQ.out.2.1 _ (List.getElem_mem hlt)) (lens_mono (K := K) (K' := K + k) (by omega) _ (HSQ.out.2.2 _ (List.getElem_mem hlt))) hdk)
      have HB7 := hid hb7
      have HM7 := hid hM7
      have HZ7z := hid (And.intro hz7 (And.intro hgl hfar))
      have y0 := hM7.c0
      have y1 := hM7.c1
      have y2 := hM7.c2
      have y3 := hM7.c3
      have y4 := hM7.c4
      have s0 := hD7.g0
      have s1 := hD7.g1
      have s2 := hD7.g2
      have s3 := hD7.g3
      have s4 := hD7.g4
      have s5 := hD7.g5
      have s6 := hD7.g6
      have s7 := hD7.g7
      rw [hX] at y0 y1 y2 y3 y4 s0 s1 s2 s3 s4 s5 s6 s7 HDO7
      have HXX := hid hX
      clear x0 x1 x2 x3 x4 x5 x6 x7 hp ho hmay hm hdk hdo hb7 hD7 hM7 HLV7 hz7 hgl hfar h63 hpS hX
      go_wp2_with fail
      refine HDO7.out.mono ?_
      rintro e w8 ⟨v8, rfl, hv8, hb8⟩
      rw [← HXX.out] at hv8 hb8
      obtain ⟨A8, c8, A8', c8', rfl, -⟩ := hv8.shape
      obtain ⟨r, hr⟩ : ∃ r, r = doD l[k] u := ⟨_, rfl⟩
      rw [← hr] at hv8 HNX ⊢
      have HRR := hid hr
      obtain ⟨y, u8⟩ := r
      simp only at hv8 HNX ⊢
      obtain ⟨hz7, hgl, hfar⟩ := HZ7z.out
      have hz8 := hb8.size
      have hM8 := HM7.out.call hb8
      have hZ8 := HZ7.out.call hb8
      have hB8 := HB7.out.trans (hb8.mono HB7.out.size)
      obtain ⟨Y, hY⟩ : ∃ Y : Obj, Y = .cells #[.int .i64 u8.kind, .int .i64 u8.num, .string u8.text, .slice A8 u8.items.length c8, .slice A8' u8.names.length c8'] 29 := ⟨_, rfl⟩
      have hN9 : Box (w8.alloc Y) w8.heap.size (.int .i64 u8.kind) (.int .i64 u8.num) (.string u8.text) (.slice A8 u8.items.length c8) (.slice A8' u8.names.length c8') := by rw [hY]; exact Box.new _ _ _ _ _
      have hM9 := hM8.alloc Y
      have hZ9 := hZ8.alloc Y
      have hB9 : Below w.heap.size w (w8.alloc Y) := hB8.alloc hB8.size Y
      have hv9 := hv8.keep (w' := w8.alloc Y) fun b hb => Below.heap_alloc w8 Y b hb.2
      have hz9 : (w8.alloc Y).heap.size = w8.heap.size + 1 := by simp
      have HX9 := hid (And.intro hB9 (And.intro hZ9 (And.intro hM9 (And.intro hv9 (And.intro hz9 (And.intro hz8 (And.intro hz7 (And.intro hgl hfar))))))))
      have n0 := hN9.c0
      have n1 := hN9.c1
      have n2 := hN9.c2
      have n3 := hN9.c3
      have n4 := hN9.c4
      have mf := fun i => hM9.free i
      have m0 := hM9.c0
      have m1 := hM9.c1
      have m2 := hM9.c2
      have m3 := hM9.c3
      have m4 := hM9.c4
      have zf := fun i => hZ9.free i
      have o0 := hZ9.c0
      have o1 := hZ9.c1
      have o2 := hZ9.c2
      have o3 := hZ9.c3
      have o4 := hZ9.c4
      rw [hY] at n0 n1 n2 n3 n4 mf m0 m1 m2 m3 m4 zf o0 o1 o2 o3 o4
      have HY := hid hY
      clear y0 y1 y2 y3 y4 s0 s1 s2 s3 s4 s5 s6 s7 z0 z1 z2 z3 z4 z5 z6 z7 hv8 hb8 hr hM8 hZ8 hB8 hN9 hM9 hZ9 hB9 hv9 hz9 hz8 hz7 hgl hfar HDO7 HM7 HZ7 HB7 HZ7z HXX hY
      by_cases hy : y = 0
      · subst hy
        clear zf o0 o1 o2 o3 o4
        go_wp2_with fail
        go_roundw
        case rel =>
          refine ⟨k + 1, by go_num, by omega, hid ⟨u8, A8, c8, A8', c8', ?_, ?_, ?_⟩⟩
          · obtain ⟨hB9, hZ9, hM9, hv9, hz9, hz8, hz7, hgl, hfar⟩ := HX9.out
            rw [HY.out] at hB9 hZ9 hM9 hv9 hz9
            have hr5 := five_rest (w8.alloc (.cells #[.int .i64 u8.kind, .int .i64 u8.num, .string u8.text, .slice A8 u8.items.length c8, .slice A8' u8.names.length c8'] 29)) g5 0 (.int .i64 u8.kind) (.int .i64 u8.num) (.string u8.text) (.slice A8 u8.items.length c8) (.slice A8' u8.names.length c8')
            have hk5 := five_other (w8.alloc (.cells #[.int .i64 u8.kind, .int .i64 u8.num, .string u8.text, .slice A8 u8.items.length c8, .slice A8' u8.names.length c8'] 29)) g5 0 (.int .i64 u8.kind) (.int .i64 u8.num) (.string u8.text) (.slice A8 u8.items.length c8) (.slice A8' u8.names.length c8')
            have hs5 := five_size (w8.alloc (.cells #[.int .i64 u8.kind, .int .i64 u8.num, .string u8.text, .slice A8 u8.items.length c8, .slice A8' u8.names.length c8'] 29)) g5 0 (.int .i64 u8.kind) (.int .i64 u8.num) (.string u8.text) (.slice A8 u8.items.length c8) (.slice A8' u8.names.length c8')
            exact
              { below := ⟨hr5.1.trans hB9.os, hr5.2.1.trans hB9.tape, hr5.2.2.trans hB9.output, Nat.le_trans hB9.size (Nat.le_of_eq hs5.symm), fun b hb => (hk5 b (by omega)).trans (hB9.block b hb)⟩
                zero := (hk5 _ (by omega)).trans hZ9
                box := five_box hM9
                val := (hv9.keep fun b hb => hk5 b (by have := hb.1; omega)).imp fun b hb => ⟨by have := hb.1; omega, Nat.lt_of_lt_of_le (by rw [hz9]; have := hb.2; omega) (Nat.le_of_eq hs5.symm), by have := hb.1; omega⟩
                far := hfar }
          · have h1 := doL_next hlt HDO.out
            rw [← HRR.out] at h1
            exact h1
          · rcases HNX.out with ⟨R, e, hR, -⟩ | ⟨e, -⟩
            · injection e with _ e
              subst e
              exact hR.mono (by omega) (by omega)
            · injection e with e _
              cases e
        case measure => simp [intOf]; omega
      · have d2 : (y != 0) = true := by simpa using hy
        have HE : Hid (res = (y, nilT)) := hid (by
          rw [HAL.out, doL_end hlt HDO.out (by rw [← HRR.out]; exact hy), ← HRR.out])
        have hB9 := HX9.out.1
        have hZ9 := HX9.out.2.1
        rw [HY.out] at hB9 hZ9
        have HEND := hid (zero_end hB9 HE.out)
        have HBOX := hid (five_box (c0 := .int .i64 0) (c1 := .int .i64 0) (c2 := .string ⟨#[]⟩) (c3 := .slice none 0 0) (c4 := .slice none 0 0) hZ9)
        clear hy mf m0 m1 m2 m3 m4 n0 n1 n2 n3 n4 hB9 hZ9
        go_wp2_with fail
        refine bodyPost_ret (results_cell_two rfl _ _ (w.heap.size + 1) 29 _ (0, 0) rfl HBOX.out (by kernel_rfl)) rfl ?_
        exact HEND.out
    · have hke : k = l.length := by omega
      have d1 : decide ((k : Int) < (l.length : Int)) = false := decide_eq_false (by omega)
      have HE : Hid (res = (0, u)) := hid (by rw [HAL.out, ← hdo, hke, List.take_length])
      have HEND := hid (hm.end HE.out)
      have HBOX := hid (five_box (c0 := .int .i64 u.kind) (c1 := .int .i64 u.num) (c2 := .string u.text) (c3 := .slice A6 u.items.length c6) (c4 := .slice A6' u.names.length c6') hm.zero)
      have y0 := hm.box.c0
      have y1 := hm.box.c1
      have y2 := hm.box.c2
      have y3 := hm.box.c3
      have y4 := hm.box.c4
      have zf := fun i => hm.zero.free i
      have o0 := hm.zero.c0
      have o1 := hm.zero.c1
      have o2 := hm.zero.c2
      have o3 := hm.zero.c3
      have o4 := hm.zero.c4
      clear hke hm hdo hdk
      go_wp2_with fail
      refine bodyPost_ret (results_cell_two rfl _ _ (w.heap.size + 1) 29 _ (0, 0) rfl HBOX.out (by kernel_rfl)) rfl ?_
      exact HEND.out
def cmpP : List ByteArray → List ByteArray → Int
  | [], [] => 0
  | [], _ :: _ => -1
  | _ :: _, [] => 1
  | a :: r, b :: s => ore (cmpB a.toList b.toList) (cmpP r s)
theorem cmpP_tri : ∀ a b c : List ByteArray, Tri (cmpP a b) (cmpP b c) (cmpP a c)
  | [], [], [] => tri_zero
  | [], [], _ :: _ => by unfold cmpP Tri; omega
  | [], _ :: _, [] => by unfold cmpP Tri; omega
  | [], _ :: _, _ :: _ => by simp only [cmpP]; unfold Tri; omega
  | _ :: _, [], [] => by unfold cmpP Tri; omega
  | _ :: _, [], _ :: _ => by simp only [cmpP]; unfold Tri; omega
  | _ :: _, _ :: _, [] => by simp only [cmpP]; unfold Tri; omega
  | a :: r, b :: s, c :: t => ore_tri (cmpB_tri _ _ _) fun _ _ => cmpP_tri r s t
theorem cmpP_neg : ∀ a b : List ByteArray, cmpP b a = -(cmpP a b)
  | [], [] => rfl
  | [], _ :: _ => rfl
  | _ :: _, [] => rfl
  | a :: r, b :: s => ore_neg2 (cmpB_neg _ _) fun _ => cmpP_neg r s
theorem cmpP_zero : ∀ a b : List ByteArray, cmpP a b = 0 ↔ a = b
  | [], [] => by simp [cmpP]
  | [], _ :: _ => by simp [cmpP]
  | _ :: _, [] => by simp [cmpP]
  | a :: r, b :: s => by
    rw [cmpP, ore_zero, cmpB_zero, cmpP_zero r s]
    constructor
    · rintro ⟨h1, h2⟩; rw [toList_inj h1, h2]
    · intro h; injection h with h1 h2; exact ⟨by rw [h1], h2⟩
theorem ore_le {x y : Int} (h : ore x y ≤ 0) : x ≤ 0 := by unfold ore at h; split at h <;> omega
theorem between : ∀ {p x q : List ByteArray}, cmpP p x ≤ 0 → cmpP x q ≤ 0 → p <+: q → p <+: x
  | [], x, q, _, _, _ => List.nil_prefix
  | a :: r, [], q, h, _, _ => by simp [cmpP] at h
  | a :: r, b :: x, [], _, _, h => by simp at h
  | a :: r, b :: x, c :: q, h1, h2, h3 => by
    rw [List.cons_prefix_cons] at h3
    obtain ⟨rfl, h3⟩ := h3
    rw [cmpP] at h1 h2
    have e1 := ore_le h1
    have e2 := ore_le h2
    rw [cmpB_neg] at e2
    have e3 : cmpB a.toList b.toList = 0 := by omega
    have e4 : cmpB b.toList a.toList = 0 := by rw [cmpB_neg]; omega
    have hab : a = b := toList_inj ((cmpB_zero _ _).1 e3)
    subst hab
    unfold ore at h1 h2
    rw [if_pos e3] at h1 h2
    rw [List.cons_prefix_cons]
    exact ⟨rfl, between h1 h2 h3⟩
theorem begP_iff {a b : List ByteArray} : begP a b = true ↔ a <+: b := by
  unfold begP
  simp only [Bool.and_eq_true, decide_eq_true_eq]
  constructor
  · rintro ⟨h1, h2⟩
    exact ⟨b.drop a.length, by have := List.take_append_drop a.length b; rw [h2] at this; exact this⟩
  · intro h
    exact ⟨h.length_le, (List.prefix_iff_eq_take.1 h).symm⟩
theorem pre_le : ∀ {a b : List ByteArray}, a <+: b → cmpP a b ≤ 0
  | [], [], _ => by simp [cmpP]
  | [], _ :: _, _ => by simp [cmpP]
  | a :: r, [], h => by simp at h
  | a :: r, b :: s, h => by
    rw [List.cons_prefix_cons] at h
    obtain ⟨rfl, h⟩ := h
    have h0 : cmpB a.toList a.toList = 0 := (cmpB_zero _ _).2 rfl
    rw [cmpP]
    unfold ore
    rw [if_pos h0]
    exact pre_le h
theorem meetP_comm (a b : List ByteArray) : meetP a b = meetP b a := by unfold meetP; rw [Bool.or_comm]
theorem confL_pair : ∀ (l ahead : List (List ByteArray)), confL ahead l = false ↔ (∀ p ∈ l, ∀ q ∈ ahead, meetP p q = false) ∧ l.Pairwise (fun q p => meetP p q = false)
  | [], ahead => by simp [confL]
  | p :: r, ahead => by
    rw [confL, Bool.or_eq_false_iff, confL_pair r (ahead ++ [p]), List.pairwise_cons, List.any_eq_false]
    constructor
    · rintro ⟨h1, h2, h3⟩
      refine ⟨fun x hx q hq => ?_, fun x hx => h2 x hx p (by simp), h3⟩
      rcases List.mem_cons.1 hx with rfl | hx
      · simpa using h1 q hq
      · exact h2 x hx q (List.mem_append_left _ hq)
    · rintro ⟨h1, h2, h3⟩
      refine ⟨fun q hq => by simpa using h1 p (List.mem_cons_self ..) q hq, fun x hx q hq => ?_, h3⟩
      rcases List.mem_append.1 hq with hq | hq
      · exact h1 x (List.mem_cons_of_mem _ hx) q hq
      · obtain rfl := List.mem_singleton.1 hq; exact h2 x hx
theorem free_pair (ps : List (List ByteArray)) : confL [] ps = false ↔ ps.Pairwise (fun q p => meetP p q = false) := by rw [confL_pair]; simp
theorem free_perm {ps qs : List (List ByteArray)} (h : ps.Perm qs) : confL [] ps = confL [] qs := by
  have e : confL [] ps = false ↔ confL [] qs = false := by
    rw [free_pair, free_pair]
    exact h.pairwise_iff fun {a b} h => by rw [meetP_comm]; exact h
  cases h1 : confL [] ps <;> cases h2 : confL [] qs <;> simp_all
theorem free_sorted {ps : List (List ByteArray)} (hs : ∀ i j (hi : i < ps.length) (hj : j < ps.length), i < j → cmpP ps[i] ps[j] ≤ 0) : confL [] ps = false ↔ ∀ i (h : i + 1 < ps.length), begP (ps[i]'(by omega)) ps[i + 1] = false := by
  rw [free_pair, List.pairwise_iff_getElem]
  constructor
  · intro h i hi
    have h1 := h i (i + 1) (by omega) hi (by omega)
    unfold meetP at h1
    rw [Bool.or_eq_false_iff] at h1
    exact h1.2
  · intro h i j hi hj hij
    have hne : ∀ (hp : ps[i] <+: ps[j]), False := fun hp => by
      have hb : ps[i] <+: ps[i + 1]'(by omega) := by
        by_cases e : i + 1 = j
        · subst e; exact hp
        · exact between (hs i (i + 1) hi (by omega) (by omega)) (hs (i + 1) j (by omega) hj (by omega)) hp
      have h1 := h i (by omega)
      rw [begP_iff.2 hb] at h1
      cases h1
    unfold meetP
    rw [Bool.or_eq_false_iff]
    refine ⟨?_, ?_⟩
    · cases hb : begP ps[j] ps[i]
      · rfl
      · exfalso
        have h1 := pre_le (begP_iff.1 hb)
        have h2 := hs i j hi hj hij
        rw [cmpP_neg] at h1
        have h3 : cmpP ps[i] ps[j] = 0 := by omega
        exact hne (by rw [(cmpP_zero _ _).1 h3]; exact List.prefix_refl _)
    · cases hb : begP ps[i] ps[j]
      · rfl
      · exact (hne (begP_iff.1 hb)).elim
theorem cmpP_take {a b : List ByteArray} : ∀ (k : Nat), k ≤ a.length → k ≤ b.length → (∀ j (h : j < a.length) (h' : j < b.length), j < k → a[j] = b[j]) → cmpP a b = cmpP (a.drop k) (b.drop k) := by
  induction a generalizing b with
  | nil => intro k hk _ _; obtain rfl : k = 0 := by simpa using hk
           simp
  | cons x r ih =>
    intro k hk hk' h
    cases k with
    | zero => simp
    | succ k =>
      cases b with
      | nil => simp at hk'
      | cons y s =>
        have hxy : x = y := h 0 (by simp) (by simp) (by omega)
        subst hxy
        have h0 : cmpB x.toList x.toList = 0 := (cmpB_zero _ _).2 rfl
        rw [cmpP]
        unfold ore
        rw [if_pos h0, List.drop_succ_cons, List.drop_succ_cons]
        exact ih k (by simpa using hk) (by simpa using hk') fun j h1 h2 h3 => by
          have := h (j + 1) (by simpa using h1) (by simpa using h2) (by omega)
          simpa using this
set_option maxHeartbeats 4000000 in
theorem cmpSs_any (A B : Option Addr) (c d : Nat) (a b : List ByteArray) (w : World) (S : Nat → Prop) (h : StrsAt w S A a) (k : StrsAt w S B b) (hn : a.length ≤ 140737488351232) (hm : b.length ≤ 140737488351232) :
    Calls Tryz.prog 44 #[.slice A a.length c, .slice B b.length d] w fun e w' => e = .returned (.int .i64 (cmpP a b)) ∧ w = w' := by
  have HA := hid h
  have HB := hid k
  clear h k
  obtain ⟨n, hn'⟩ : ∃ n, n = a.length := ⟨_, rfl⟩
  obtain ⟨m, hm'⟩ : ∃ m, m = b.length := ⟨_, rfl⟩
  have HN := hid hn'
  have HM := hid hm'
  rw [← hn'] at hn ⊢
  rw [← hm'] at hm ⊢
  clear hn' hm'
  go_enter Tryz.func44, Tryz.ntmps44
  go_wp2_with fail
  go_loopw [11] (fun i wr => ∃ k : Nat, i = .int .i64 k ∧ k ≤ n ∧ wr = w ∧ Hid (k ≤ m ∧ ∀ j (h : j < a.length) (h' : j < b.length), j < k → a[j] = b[j])) (fun i _ => n - (intOf i).toNat)
  case atStart => exact ⟨0, rfl, by omega, rfl, hid ⟨by omega, fun j _ _ h => absurd h (by omega)⟩⟩
  case round =>
    obtain ⟨k, rfl, hk, rfl, HE⟩ := hrel
    by_cases hlt : k < n
    · have d1 : decide ((k : Int) < (n : Int)) = true := decide_eq_true (by omega)
      obtain ⟨p, o, rfl, -, hc⟩ := HA.out (by have := HN.out; omega)
      have hka : k < a.length := by have := HN.out; omega
      have hck := (hc k hka).1
      obtain ⟨x, hx⟩ : ∃ x, x = a[k] := ⟨_, rfl⟩
      rw [← hx] at hck
      have HX := hid hx
      clear hc hx
      by_cases hlb : k < m
      · have d2 : decide ((k : Int) ≥ (m : Int)) = false := decide_eq_false (by omega)
        obtain ⟨p', o', rfl, -, hc'⟩ := HB.out (by have := HM.out; omega)
        have hkb : k < b.length := by have := HM.out; omega
        have hck' := (hc' k hkb).1
        obtain ⟨y, hy⟩ : ∃ y, y = b[k] := ⟨_, rfl⟩
        rw [← hy] at hck'
        have HY := hid hy
        clear hc' hy
        go_wp2_with fail
        refine (cmpS_any x y _).mono ?_
        rintro e u ⟨rfl, rfl⟩
        by_cases h0 : cmpB x.toList y.toList = 0
        · have d3 : (cmpB x.toList y.toList != 0) = false := by rw [h0]; rfl
          have HEQ : Hid (a[k] = b[k]) := hid (by rw [← HX.out, ← HY.out]; exact toList_inj ((cmpB_zero _ _).1 h0))
          clear h0
          go_wp2_with fail
          go_roundw
          case rel => exact ⟨k + 1, by go_num, by omega, trivial, hid ⟨by omega, fun j h h' hjk => by
            by_cases e : j = k
            · subst e; exact HEQ.out
            · exact HE.out.2 j h h' (by omega)⟩⟩
          case measure => simp [intOf]; omega
        · have d3 : (cmpB x.toList y.toList != 0) = true := bne_iff_ne.2 h0
          have HF : Hid (cmpP a b = cmpB x.toList y.toList) := hid (by
            rw [cmpP_take k (by omega) (by omega) HE.out.2, List.drop_eq_getElem_cons hka, List.drop_eq_getElem_cons hkb, cmpP, ← HX.out, ← HY.out]
            unfold ore
            rw [if_neg h0])
          clear h0
          go_wp2_with fail
          go_ret
          exact ⟨by rw [HF.out]; rfl, rfl⟩
      · have d2 : decide ((k : Int) ≥ (m : Int)) = true := decide_eq_true (by omega)
        have HF : Hid (cmpP a b = 1) := hid (by
          have hkm : k = b.length := by have := HE.out.1; have := HM.out; omega
          have e2 : b.drop k = [] := List.drop_eq_nil_of_le (by omega)
          rw [cmpP_take k (by omega) (by omega) HE.out.2, List.drop_eq_getElem_cons hka, e2]
          rfl)
        go_wp2_with fail
        go_ret
        exact ⟨by rw [HF.out]; rfl, rfl⟩
    · have hkn : k = n := by omega
      have d1 : decide ((k : Int) < (n : Int)) = false := decide_eq_false (by omega)
      by_cases hnm : n < m
      · have d2 : decide ((n : Int) < (m : Int)) = true := decide_eq_true (by omega)
        have HF : Hid (cmpP a b = -1) := hid (by
          have hkb : k < b.length := by have := HM.out; omega
          have q3 := HN.out
          have e1 : a.drop k = [] := List.drop_eq_nil_of_le (by omega)
          rw [cmpP_take k (by omega) (by omega) HE.out.2, e1, List.drop_eq_getElem_cons hkb]
          rfl)
        clear hkn
        go_wp2_with fail
        go_ret
        exact ⟨by rw [HF.out]; rfl, rfl⟩
      · have d2 : decide ((n : Int) < (m : Int)) = false := decide_eq_false (by omega)
        have HF : Hid (cmpP a b = 0) := hid (by
          have q1 := HE.out.1
          have q2 := HM.out
          have q3 := HN.out
          have e1 : a.drop k = [] := List.drop_eq_nil_of_le (by omega)
          have e2 : b.drop k = [] := List.drop_eq_nil_of_le (by omega)
          rw [cmpP_take k (by omega) (by omega) HE.out.2, e1, e2]
          rfl)
        clear hkn
        go_wp2_with fail
        go_ret
        exact ⟨by rw [HF.out]; rfl, rfl⟩
end Go.Proofs.YtnamdlljdgllmaaGreat
