/- The document's Cut. -/
import Derived.Test.YtnamdlljdgllmaaGreatKTuA
import Derived.Test.YtnamdlljdgllmaaGreatKTtD
namespace Go.Proofs.YtnamdlljdgllmaaGreat
open Lib (hid)
set_option linter.unusedVariables false
set_option linter.unusedSimpArgs false
open Go.RowKit
def cutO (n : Nat) (t : VT) (p : List ByteArray) : VT := match getT t p with
  | none => t
  | some a => if a.kind = 6 ∧ n < a.items.length then (setO (frontT a n) t p).1 else t
theorem cutO_none {n : Nat} {t : VT} {p : List ByteArray} (h : getT t p = none) : cutO n t p = t := by unfold cutO; rw [h]
theorem cutO_some {n : Nat} {t a : VT} {p : List ByteArray} (h : getT t p = some a) : cutO n t p = if a.kind = 6 ∧ n < a.items.length then (setO (frontT a n) t p).1 else t := by unfold cutO; rw [h]
theorem cut_doc (n : Nat) : ∀ (p : List ByteArray) (t : VT), mayT t = true → p ≠ [] → (goT (cutFin n) t p).2 = cutO n t p
  | [], t, _, h => absurd rfl h
  | s :: r, t, hm, _ => by
    by_cases he : placeT t s < 0 ∨ r = []
    · rw [goT_end he, cutFin_cons, if_neg (by omega)]
      by_cases hn : placeT t s < 0
      · rw [if_pos hn, cutO_none (getT_neg hn)]
      · have h0 : 0 ≤ placeT t s := Int.not_lt.1 hn
        obtain rfl := he.resolve_left hn
        have hj := placeT_lt (may_nl hm) h0
        have hg : getT t [s] = some t.items[(placeT t s).toNat] := by rw [getT_pos h0 hj]; rfl
        rw [if_neg hn, cutO_some hg, List.getElem?_eq_getElem hj, setO_on h0 hj]
        show setT t _ (cutV _ _) = (if _ then withT t _ _ (frontT _ n) else t)
        unfold cutV
        by_cases hc : t.items[(placeT t s).toNat].kind = 6 ∧ n < t.items[(placeT t s).toNat].items.length
        · rw [if_pos hc, if_pos ⟨hc.1, by have := hc.2; omega⟩, withT_at h0 hj, Int.toNat_natCast]
        · rw [if_neg hc, if_neg (fun k => hc ⟨k.1, by have := k.2; omega⟩)]
          exact setT_self (List.getElem?_eq_getElem hj)
    · have h0 : 0 ≤ placeT t s := Int.not_lt.1 fun k => he (.inl k)
      have hr : r ≠ [] := fun k => he (.inr k)
      have hj := placeT_lt (may_nl hm) h0
      have ih := cut_doc n r t.items[(placeT t s).toNat] (may_item hm hj) hr
      rw [goT_on h0 hr hj]
      show setT t _ (goT (cutFin n) _ r).2 = _
      rw [ih]
      cases hg : getT t.items[(placeT t s).toNat] r with
      | none =>
        rw [cutO_none hg, cutO_none (by rw [getT_pos h0 hj]; exact hg)]
        exact setT_self (List.getElem?_eq_getElem hj)
      | some a =>
        rw [cutO_some hg, cutO_some (by rw [getT_pos h0 hj]; exact hg), setO_on h0 hj]
        by_cases hc : a.kind = 6 ∧ n < a.items.length
        · rw [if_pos hc, if_pos hc, withT_at h0 hj]
        · rw [if_neg hc, if_neg hc]
          exact setT_self (List.getElem?_eq_getElem hj)
theorem lv_front {w : World} {S : Nat → Prop} {a : VT} {A A' : Option Addr} {c c' : Nat} {n : Nat} (h : LV w S a (agg5 a A c A' c')) (hn : n < a.items.length) : LV w S (frontT a n) (.agg #[.int .i64 a.kind, .int .i64 a.num, .string a.text, .slice A n c, .slice A' a.names.length c']) := by
  cases a with
  | mk k i s l ns =>
    unfold LV at h
    obtain ⟨A1, c1, A1', c1', hv, h1, h2, h3, h4, h5, h6, h7⟩ := h
    simp only [VT.kind, VT.num, VT.text, VT.items, VT.names] at hv hn ⊢
    injection hv with hv; injection hv with hv
    injection hv with y0 hv; injection hv with y1 hv; injection hv with y2 hv; injection hv with y3 hv; injection hv with y4 hv
    injection y3 with e1 _ e3
    injection y4 with e4 _ e6
    subst e1 e3 e4 e6
    have hl : (l.take n).length = n := by rw [List.length_take]; omega
    have := LV.mk (w := w) (S := S) (k := k) (i := i) (s := s) (l := l.take n) (ns := ns) (A := A) (A' := A') (c := c) (c' := c') h1 h2 h3 (by omega) h5 h6 (fun hp => by
      obtain ⟨b, off, hA, hS, hls⟩ := h7 (by omega)
      refine ⟨b, off, hA, hS, LVs.intro fun j hj => ?_⟩
      have := hls.at j (by omega)
      rw [List.getElem_take]
      exact this)
    rw [hl] at this
    exact this
def RCutR (S : Nat → Prop) (res : VT) (w : World) (e : Ending) (w' : World) : Prop :=
  ∃ v', e = .returned v' ∧ LV w' (fun b => S b ∨ (w.heap.size ≤ b ∧ b < w'.heap.size)) res v' ∧ Below w.heap.size w w'
theorem cut_end {S : Nat → Prop} {w w5 : World} {m g : Nat} {u res : VT} {c0 c1 c2 c3 c4 : Value} (hS : ∀ b, S b → b < w.heap.size) (hb : Below w.heap.size w w5) (hg : w.heap.size ≤ g) (hm : g < m) (hv : LV w5 (fun b => S b ∨ (m ≤ b ∧ b < w5.heap.size)) u (.agg #[c0, c1, c2, c3, c4])) (hr : res = u) :
    RCutR S res w (.returned (.agg #[c0, c1, c2, c3, c4])) (five w5 g 0 c0 c1 c2 c3 c4) := by
  have hr5 := five_rest w5 g 0 c0 c1 c2 c3 c4
  have hz := five_size w5 g 0 c0 c1 c2 c3 c4
  have hk : ∀ b, b ≠ g → (five w5 g 0 c0 c1 c2 c3 c4).heap[b]? = w5.heap[b]? := fun b hb' => five_other _ _ _ _ _ _ _ _ b hb'
  subst hr
  exact ⟨_, rfl, (hv.keep fun b hb' => hk b (hb'.elim (fun e => by have := hS b e; omega) (fun e => by have := e.1; omega))).imp fun b hb' => hb'.imp id fun e => ⟨by have := e.1; omega, by rw [hz]; exact e.2⟩, ⟨hr5.1.trans hb.os, hr5.2.1.trans hb.tape, hr5.2.2.trans hb.output, by rw [hz]; exact hb.size, fun b hb' => (hk b (by omega)).trans (hb.block b hb')⟩⟩
set_option maxHeartbeats 8000000 in
set_option maxRecDepth 100000 in
theorem rcut_any (n : Nat) (hn63 : n ≤ 9223372036854775807) (S : Nat → Prop) (t : VT) (v : Value) (A : Option Addr) (c : Nat) (p : List ByteArray) (w : World) (hS : ∀ b, S b → b < w.heap.size) (h : LV w S t v) (hm : mayT t = true) (hsm : smallT t) (hp : StrsAt w S A p) (hpc : p.length ≤ c) (h63 : c ≤ 9223372036854775807) (hn : p.length ≤ 140737488351232) :
    Calls Tryz.prog 62 #[v, .slice A p.length c, .int .i64 n] w (RCutR S (cutO n t p) w) := by
  obtain ⟨A0, c0, A0', c0', rfl, -, -, -, hV, hb0⟩ := one_var hS h
  have hz0 : (w.alloc (.cells #[.int .i64 t.kind, .int .i64 t.num, .string t.text, .slice A0 t.items.length c0, .slice A0' t.names.length c0'] 29)).heap.size = w.heap.size + 1 := by simp
  have hR := Box.new (w := w.alloc (.cells #[.int .i64 t.kind, .int .i64 t.num, .string t.text, .slice A0 t.items.length c0, .slice A0' t.names.length c0'] 29)) (.int .i64 0) (.int .i64 0) (.string ⟨#[]⟩) (.slice none 0 0) (.slice none 0 0)
  rw [hz0] at hR
  have hbr := below_box (w := w.alloc (.cells #[.int .i64 t.kind, .int .i64 t.num, .string t.text, .slice A0 t.items.length c0, .slice A0' t.names.length c0'] 29)) (.cells #[.int .i64 0, .int .i64 0, .string ⟨#[]⟩, .slice none 0 0, .slice none 0 0] 29)
  replace hV := hV.call hbr
  have HB := hid (toStart hb0 hbr)
  have HP := hid hp
  have HM := hid (And.intro hm hsm)
  have HS := hid hS
  clear hb0 hz0 hp hm hsm h hS hbr
  have y0 := hV.x.c0
  have y1 := hV.x.c1
  have y2 := hV.x.c2
  have y3 := hV.x.c3
  have y4 := hV.x.c4
  have HV := hid hV
  have HR := hid hR
  clear hV hR
  go_enter Tryz.func62, Tryz.ntmps62
  go_wp2_with fail
  clear y0 y1 y2 y3 y4
  generalize ((w.alloc (.cells #[.int .i64 t.kind, .int .i64 t.num, .string t.text, .slice A0 t.items.length c0, .slice A0' t.names.length c0'] 29)).alloc (.cells #[.int .i64 0, .int .i64 0, .string ⟨#[]⟩, .slice none 0 0, .slice none 0 0] 29)) = w0 at *
  have HL := hid (rget_any S t _ A c p w0 (fun b hb => Nat.lt_of_lt_of_le (HS.out b hb) HB.out.size) HV.out.v HM.out.1 (HP.out.keep (w' := w0) fun b hb => HB.out.block b (HS.out b hb)) hn)
  refine HL.out.mono ?_
  rintro e w1 ⟨vg, rfl, hv, hb1⟩
  obtain ⟨E, e1, E', e2, rfl, -⟩ := hv.shape
  have hV := HV.out.call hb1
  have hR := Box.call HR.out hb1
  replace HB := hid (toStart HB.out hb1)
  clear hb1 HV HR HL
  obtain ⟨a, ha⟩ : ∃ a, a = gotT t p := ⟨_, rfl⟩
  obtain ⟨OK, hOK⟩ : ∃ OK, OK = okT t p := ⟨_, rfl⟩
  rw [← ha] at hv ⊢
  rw [← hOK]
  have HA := hid ha
  have HO := hid hOK
  clear ha hOK
  have hLV := hv
  have hbn := below_box (w := w1) (.cells #[.int .i64 a.kind, .int .i64 a.num, .string a.text, .slice E a.items.length e1, .slice E' a.names.length e2] 29)
  have hG : Vr (w1.alloc (.cells #[.int .i64 a.kind, .int .i64 a.num, .string a.text, .slice E a.items.length e1, .slice E' a.names.length e2] 29)) S w1.heap.size a E e1 E' e2 := Vr.new hV.s hv
  have hzb : (w1.alloc (.cells #[.int .i64 a.kind, .int .i64 a.num, .string a.text, .slice E a.items.length e1, .slice E' a.names.length e2] 29)).heap.size = w1.heap.size + 1 := by simp
  replace hV := hV.call hbn
  have hR := Box.call hR hbn
  replace HB := hid (toStart HB.out hbn)
  clear hbn hv
  by_cases hcut : OK = true ∧ a.kind = 6 ∧ n < a.items.length
  rotate_left
  · have hres : cutO n t p = t := by
      cases hg : getT t p with
      | none => exact cutO_none hg
      | some u =>
        have e1 : OK = true := by rw [HO.out]; unfold okT; rw [hg]; rfl
        have e2 : a = u := by rw [HA.out]; unfold gotT; rw [hg]; rfl
        rw [cutO_some hg, if_neg]
        exact fun k => hcut ⟨e1, by rw [e2]; exact k⟩
    have HRES := hid hres
    have hnot : OK = false ∨ (OK = true ∧ ¬ a.kind = 6) ∨ (OK = true ∧ a.kind = 6 ∧ a.items.length ≤ n) := by
      cases OK with
      | false => exact .inl rfl
      | true =>
        by_cases h6 : a.kind = 6
        · exact .inr (.inr ⟨rfl, h6, by have : ¬ n < a.items.length := fun k => hcut ⟨rfl, h6, k⟩; omega⟩)
        · exact .inr (.inl ⟨rfl, h6⟩)
    clear hres hcut
    rcases hnot with rfl | ⟨rfl, h6⟩ | ⟨rfl, h6, hle⟩
    · have y0 := hV.x.c0
      have y1 := hV.x.c1
      have y2 := hV.x.c2
      have y3 := hV.x.c3
      have y4 := hV.x.c4
      have z0 := hG.x.c0
      have z1 := hG.x.c1
      have z2 := hG.x.c2
      have z3 := hG.x.c3
      have z4 := hG.x.c4
      have r0 := hR.c0
      have r1 := hR.c1
      have r2 := hR.c2
      have r3 := hR.c3
      have r4 := hR.c4
      have rf0 := hR.free 0
      have rf1 := hR.free 1
      have rf2 := hR.free 2
      have rf3 := hR.free 3
      have rf4 := hR.free 4
      have HV := hid hV
      have HR := hid hR
      clear hV hR hG
      go_wp2_with fail
      (try simp only [Exit.inBlock, Exit.then])
      refine bodyPost_ret (results_cell_row rfl _ _ (w.heap.size + 1) 29 _ (0, 0) _ rfl (five_box HR.out) Tryz.underlying29 rfl (by kernel_rfl)) rfl ?_
      exact cut_end (m := w.heap.size + 2) HS.out HB.out (by omega) (by omega) (HV.out.v.imp fun b hb => .inl hb) HRES.out
    · have h6b : (a.kind == 6) = false := beq_false_of_ne h6
      have h6c : (a.kind != 6) = true := by rw [bne, h6b]; rfl
      have H6 := hid h6
      clear h6
      have y0 := hV.x.c0
      have y1 := hV.x.c1
      have y2 := hV.x.c2
      have y3 := hV.x.c3
      have y4 := hV.x.c4
      have z0 := hG.x.c0
      have z1 := hG.x.c1
      have z2 := hG.x.c2
      have z3 := hG.x.c3
      have z4 := hG.x.c4
      have r0 := hR.c0
      have r1 := hR.c1
      have r2 := hR.c2
      have r3 := hR.c3
      have r4 := hR.c4
      have rf0 := hR.free 0
      have rf1 := hR.free 1
      have rf2 := hR.free 2
      have rf3 := hR.free 3
      have rf4 := hR.free 4
      have HV := hid hV
      have HR := hid hR
      clear hV hR hG
      go_wp2_with fail
      (try simp only [Exit.inBlock, Exit.then])
      refine bodyPost_ret (results_cell_row rfl _ _ (w.heap.size + 1) 29 _ (0, 0) _ rfl (five_box HR.out) Tryz.underlying29 rfl (by kernel_rfl)) rfl ?_
      exact cut_end (m := w.heap.size + 2) HS.out HB.out (by omega) (by omega) (HV.out.v.imp fun b hb => .inl hb) HRES.out
    · have h6b : (a.kind == 6) = true := by rw [h6]; rfl
      have h6c : (a.kind != 6) = false := by rw [bne, h6b]; rfl
      have H6 := hid h6
      clear h6
      have hle2 : (a.items.length : Int) ≤ (n : Int) := by omega
      have hle3 : decide ((a.items.length : Int) ≤ (n : Int)) = true := decide_eq_true hle2
      have y0 := hV.x.c0
      have y1 := hV.x.c1
      have y2 := hV.x.c2
      have y3 := hV.x.c3
      have y4 := hV.x.c4
      have z0 := hG.x.c0
      have z1 := hG.x.c1
      have z2 := hG.x.c2
      have z3 := hG.x.c3
      have z4 := hG.x.c4
      have r0 := hR.c0
      have r1 := hR.c1
      have r2 := hR.c2
      have r3 := hR.c3
      have r4 := hR.c4
      have rf0 := hR.free 0
      have rf1 := hR.free 1
      have rf2 := hR.free 2
      have rf3 := hR.free 3
      have rf4 := hR.free 4
      have HV := hid hV
      have HR := hid hR
      clear hV hR hG
      go_wp2_with fail
      (try simp only [Exit.inBlock, Exit.then])
      refine bodyPost_ret (results_cell_row rfl _ _ (w.heap.size + 1) 29 _ (0, 0) _ rfl (five_box HR.out) Tryz.underlying29 rfl (by kernel_rfl)) rfl ?_
      exact cut_end (m := w.heap.size + 2) HS.out HB.out (by omega) (by omega) (HV.out.v.imp fun b hb => .inl hb) HRES.out
  obtain ⟨rfl, h6, hlt⟩ := hcut
  have h6b : (a.kind == 6) = true := by rw [h6]; rfl
  have h6c : (a.kind != 6) = false := by rw [bne, h6b]; rfl
  have hle3 : decide ((a.items.length : Int) ≤ (n : Int)) = false := decide_eq_false (by omega)
  have hle4 : ¬ ((a.items.length : Int) ≤ (n : Int)) := by omega
  have H6 := hid h6
  clear h6
  have hres : cutO n t p = (setO (frontT a n) t p).1 := by
    have hg : getT t p = some a := by
      have h1 := HO.out
      have h2 := HA.out
      unfold okT at h1
      unfold gotT at h2
      cases hg : getT t p with
      | none => rw [hg] at h1; cases h1
      | some u => rw [hg] at h2; rw [h2]; rfl
    rw [cutO_some hg, if_pos ⟨H6.out, hlt⟩]
  have HRES := hid hres
  have hg0 := hR.lt
  have z0 := hG.x.c0
  have z1 := hG.x.c1
  have z2 := hG.x.c2
  have z3 := hG.x.c3
  have z4 := hG.x.c4
  have HCL := hid (rclone_any S a _ _ hG.s hG.v)
  have HV := hid hV
  have HR := hid hR
  clear hV hR hG hres hLV
  go_wp2_with fail
  generalize w1.alloc (.cells #[.int .i64 a.kind, .int .i64 a.num, .string a.text, .slice E a.items.length e1, .slice E' a.names.length e2] 29) = w2 at *
  clear z0 z1 z2 z3 z4
  refine HCL.out.mono ?_
  rintro e w3 ⟨vb, rfl, hov, hb3⟩
  obtain ⟨B9, c9, B9', c9', xs9, rfl, -, hri, -, -, -, -⟩ := hov.shape
  have hcap : a.items.length ≤ c9 ∧ c9 ≤ 9223372036854775807 := by
    rcases hri.2 with ⟨hv, h0⟩ | ⟨g, cap, cur, hv, -, -, h1, h2, -⟩
    · omega
    · injection hv with e1 e2 e3
      subst e3
      exact ⟨h1, by unfold maxLen at h2; omega⟩
  have hnc : (n : Int) ≤ (c9 : Int) := by omega
  have hfr := lv_front hov.lv hlt
  have hbx := below_box (w := w3) (.cells #[.int .i64 a.kind, .int .i64 a.num, .string a.text, .slice B9 n c9, .slice B9' a.names.length c9'] 29)
  have hV := (HV.out.call hb3).call hbx
  have hR := Box.call (Box.call HR.out hb3) hbx
  replace HB := hid (toStart (toStart HB.out hb3) hbx)
  have hz3 := hb3.size
  have hz4 : (w3.alloc (.cells #[.int .i64 a.kind, .int .i64 a.num, .string a.text, .slice B9 n c9, .slice B9' a.names.length c9'] 29)).heap.size = w3.heap.size + 1 := by simp
  have hf4 := (hfr.keep (w' := w3.alloc (.cells #[.int .i64 a.kind, .int .i64 a.num, .string a.text, .slice B9 n c9, .slice B9' a.names.length c9'] 29)) fun b hb => hbx.block b hb.2).imp (S' := fun b => S b ∨ (w.heap.size + 2 ≤ b ∧ b < (w3.alloc (.cells #[.int .i64 a.kind, .int .i64 a.num, .string a.text, .slice B9 n c9, .slice B9' a.names.length c9'] 29)).heap.size)) fun b hb => .inr ⟨by have := hb.1; omega, by rw [hz4]; have := hb.2; omega⟩
  have HSET := hid (rset_any p (fun b => S b ∨ (w.heap.size + 2 ≤ b ∧ b < (w3.alloc (.cells #[.int .i64 a.kind, .int .i64 a.num, .string a.text, .slice B9 n c9, .slice B9' a.names.length c9'] 29)).heap.size)) t (frontT a n) _ _ A c (w3.alloc (.cells #[.int .i64 a.kind, .int .i64 a.num, .string a.text, .slice B9 n c9, .slice B9' a.names.length c9'] 29)) (fun b hb => hb.elim (fun e => Nat.lt_of_lt_of_le (HS.out b e) HB.out.size) fun e => e.2) (hV.v.imp fun b hb => .inl hb) hf4 HM.out.1 HM.out.2 ((HP.out.keep (w' := w3.alloc (.cells #[.int .i64 a.kind, .int .i64 a.num, .string a.text, .slice B9 n c9, .slice B9' a.names.length c9'] 29)) fun b hb => HB.out.block b (HS.out b hb)).imp fun b hb => .inl hb) hpc h63 hn)
  have y0 := hV.x.c0
  have y1 := hV.x.c1
  have y2 := hV.x.c2
  have y3 := hV.x.c3
  have y4 := hV.x.c4
  have HR := hid hR
  clear hV hR HV hov hb3 hri hfr hbx hf4 HCL
  go_wp2_with fail
  generalize w3.alloc (.cells #[.int .i64 a.kind, .int .i64 a.num, .string a.text, .slice B9 n c9, .slice B9' a.names.length c9'] 29) = w4 at *
  clear y0 y1 y2 y3 y4
  refine HSET.out.mono ?_
  rintro e w5 ⟨v', rfl, hv, hb5⟩
  obtain ⟨A7, e7, A8, e8, rfl, -⟩ := hv.shape
  obtain ⟨U, hU⟩ : ∃ U, U = (setO (frontT a n) t p).1 := ⟨_, rfl⟩
  rw [← hU] at hv HRES ⊢
  generalize (setO (frontT a n) t p).2 = OK2
  clear hU HSET
  have hbx := below_box (w := w5) (.cells #[.int .i64 U.kind, .int .i64 U.num, .string U.text, .slice A7 U.items.length e7, .slice A8 U.names.length e8] 29)
  have hz5 := hb5.size
  have hz6 : (w5.alloc (.cells #[.int .i64 U.kind, .int .i64 U.num, .string U.text, .slice A7 U.items.length e7, .slice A8 U.names.length e8] 29)).heap.size = w5.heap.size + 1 := by simp
  have hR := Box.call (Box.call HR.out hb5) hbx
  replace HB := hid (toStart (toStart HB.out hb5) hbx)
  have hfin := (hv.keep (w' := w5.alloc (.cells #[.int .i64 U.kind, .int .i64 U.num, .string U.text, .slice A7 U.items.length e7, .slice A8 U.names.length e8] 29)) fun b hb => hbx.block b (hb.elim (fun e => e.elim (fun e => by have := HS.out b e; omega) fun e => by have := e.2; omega) fun e => e.2)).imp (S' := fun b => S b ∨ (w.heap.size + 2 ≤ b ∧ b < (w5.alloc (.cells #[.int .i64 U.kind, .int .i64 U.num, .string U.text, .slice A7 U.items.length e7, .slice A8 U.names.length e8] 29)).heap.size)) fun b hb => hb.elim (fun e => e.imp id fun e => ⟨e.1, by rw [hz6]; have := e.2; omega⟩) fun e => .inr ⟨by have := e.1; omega, by rw [hz6]; have := e.2; omega⟩
  have HF := hid hfin
  have r0 := hR.c0
  have r1 := hR.c1
  have r2 := hR.c2
  have r3 := hR.c3
  have r4 := hR.c4
  have rf0 := hR.free 0
  have rf1 := hR.free 1
  have rf2 := hR.free 2
  have rf3 := hR.free 3
  have rf4 := hR.free 4
  have HR := hid hR
  clear hR hbx hfin hv hb5
  go_wp2_with fail
  (try simp only [Exit.inBlock, Exit.then])
  refine bodyPost_ret (results_cell_row rfl _ _ (w.heap.size + 1) 29 _ (0, 0) _ rfl (five_box HR.out) Tryz.underlying29 rfl (by kernel_rfl)) rfl ?_
  exact cut_end (m := w.heap.size + 2) HS.out HB.out (by omega) (by omega) HF.out HRES.out
end Go.Proofs.YtnamdlljdgllmaaGreat
