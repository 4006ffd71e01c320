/- Something done at the end of a path. -/
import Derived.Test.YtnamdlljdgllmaaGreatKDlQ
namespace Go.Proofs.YtnamdlljdgllmaaGreat
set_option linter.unusedVariables false
set_option linter.unusedSimpArgs false
open Go.RowKit
/-- What is done at the end of a path, done to the whole: a code, and the value. -/
def goT (fin : VT → List ByteArray → Int × VT) : VT → List ByteArray → Int × VT
  | t, [] => (0, t)
  | t, s :: r => if placeT t s < 0 ∨ r = [] then fin t (s :: r) else match t.items[(placeT t s).toNat]? with
    | none => (0, t)
    | some x => ((goT fin x r).1, setT t (placeT t s).toNat (goT fin x r).2)
theorem goT_end {fin : VT → List ByteArray → Int × VT} {t : VT} {s : ByteArray} {r : List ByteArray} (h : placeT t s < 0 ∨ r = []) : goT fin t (s :: r) = fin t (s :: r) := by
  conv => lhs; unfold goT
  rw [if_pos h]
theorem goT_on {fin : VT → List ByteArray → Int × VT} {t : VT} {s : ByteArray} {r : List ByteArray} (h : 0 ≤ placeT t s) (hr : r ≠ []) (hj : (placeT t s).toNat < t.items.length) :
    goT fin t (s :: r) = ((goT fin (t.items[(placeT t s).toNat]) r).1, setT t (placeT t s).toNat (goT fin (t.items[(placeT t s).toNat]) r).2) := by
  conv => lhs; unfold goT
  rw [if_neg (fun e => e.elim (fun e => absurd e (by omega)) hr), List.getElem?_eq_getElem hj]
def DidAt (F : Nat → Prop) (g o : Nat) (w : World) (res : Int × VT) (e : Ending) (w' : World) : Prop := e = .returned (.int .i64 res.1) ∧ ∃ F', Own F w F' ∧ OAt w' F' res.2 g o ∧ Mut F g o w w'
theorem OAt.keep {w w' : World} {F : Nat → Prop} {t : VT} {g o : Nat} (h : OAt w F t g o) (hb : Below w.heap.size w w') : OAt w' F t g o := by
  obtain ⟨C, ty, A, c, A', c', hg, g0, g1, g2, g3, g4, hv, hFg, hlt⟩ := h
  exact ⟨C, ty, A, c, A', c', (hb.block g (Array.getElem?_eq_some_iff.1 hg).1).trans hg, g0, g1, g2, g3, g4, hv.keep fun b hb' => hb.block b (hlt b hb'), hFg, fun b hb' => Nat.lt_of_lt_of_le (hlt b hb') hb.size⟩
theorem OAt.lt {w : World} {F : Nat → Prop} {t : VT} {g o : Nat} (h : OAt w F t g o) : g < w.heap.size := by
  obtain ⟨C, ty, A, c, A', c', hg, -⟩ := h
  exact (Array.getElem?_eq_some_iff.1 hg).1
theorem OAt.at {w : World} {F : Nat → Prop} {t : VT} {g o : Nat} (h : OAt w F t g o) : ∃ A c A' c', AtV w F t g o A c A' c' := by
  obtain ⟨C, ty, A, c, A', c', hg, g0, g1, g2, g3, g4, hv, hFg, hlt⟩ := h
  exact ⟨A, c, A', c', (Go.Joins.cell_of_block hg o).trans g0, (Go.Joins.cell_of_block hg _).trans g1, (Go.Joins.cell_of_block hg _).trans g2, (Go.Joins.cell_of_block hg _).trans g3, (Go.Joins.cell_of_block hg _).trans g4, hv.lv⟩
theorem DidAt.from {F : Nat → Prop} {g o : Nat} {w w1 : World} {res : Int × VT} {e : Ending} {w' : World} (h : DidAt F g o w1 res e w') (hb : Below w.heap.size w w1) (hg : g < w.heap.size) : DidAt F g o w res e w' := by
  obtain ⟨h0, F', h1, h2, m1, m2, m3, m4, m5, m6⟩ := h
  refine ⟨h0, F', fun b hb' => (h1 b hb').imp id fun hx => Nat.le_trans hb.size hx, h2, Nat.le_trans hb.size m1, fun b hb1 hF hne => (m2 b (Nat.lt_of_lt_of_le hb1 hb.size) hF hne).trans (hb.block b hb1), fun C ty fz hC => m3 C ty fz ((hb.block g hg).trans hC), m4.trans hb.os, m5.trans hb.tape, m6.trans hb.output⟩
theorem alongM_any (f : Nat) (caps : Array Value) (fin : VT → List ByteArray → Int × VT) (S : Nat → Prop) (J : World → Prop) (Q : VT → Prop) (hQ : ∀ t (j : Nat) (hj : j < t.items.length), Q t → Q t.items[j]) (hcf0 : Enters f) (hJ : ∀ w w', J w → Below w.heap.size w w' → J w')
    (hleaf : ∀ w t g o A c s r F, J w → OAt w F t g o → mayT t = true → Q t → StrsAt w S A (s :: r) → r.length + 1 ≤ c → c ≤ 9223372036854775807 → (∀ b, S b → b < w.heap.size) → (∀ b, S b → ¬ F b ∧ b ≠ g) → (placeT t s < 0 ∨ r = []) →
      Calls Tryz.prog f (#[.agg #[.pointer (some ⟨g, o, none⟩), .int .i64 (placeT t s), .slice A (r.length + 1) c]] ++ caps) w (DidAt F g o w (fin t (s :: r))))
    (t : VT) (g o : Nat) (A : Option Addr) (c : Nat) (p : List ByteArray) (w : World) (F : Nat → Prop) (hj : J w) (h : OAt w F t g o) (hm : mayT t = true) (hq : Q t) (hp : StrsAt w S A p) (hne : p ≠ []) (hpc : p.length ≤ c) (h63 : c ≤ 9223372036854775807) (hS : ∀ b, S b → b < w.heap.size) (hSF : ∀ b, S b → ¬ F b ∧ b ≠ g) :
    Calls Tryz.prog 156 #[.pointer (some ⟨g, o, none⟩), .slice A p.length c, .func (.func f) #[] caps] w (DidAt F g o w (goT fin t p)) := by
  refine along_any f caps (DidAt F g o w (goT fin t p)) (fun w1 t1 g1 o1 A1 c1 p1 => J w1 ∧ (∃ F1, OAt w1 F1 t1 g1 o1 ∧ (∀ b, S b → ¬ F1 b ∧ b ≠ g1) ∧ ∀ e w2, DidAt F1 g1 o1 w1 (goT fin t1 p1) e w2 → DidAt F g o w (goT fin t p) e w2) ∧ mayT t1 = true ∧ Q t1 ∧ StrsAt w1 S A1 p1 ∧ p1 ≠ [] ∧ p1.length ≤ c1 ∧ c1 ≤ 9223372036854775807 ∧ ∀ b, S b → b < w1.heap.size)
    hcf0 (fun e w' h => ⟨_, h.1⟩) ?_ ?_ ?_ ?_ ?_ p t g o A c w ⟨hj, ⟨F, h, hSF, fun _ _ h => h⟩, hm, hq, hp, hne, hpc, h63, hS⟩
  · rintro w1 t1 g1 o1 A1 c1 p1 ⟨-, ⟨F1, ho, -, -⟩, hm1, -, -⟩
    obtain ⟨B, k, B', k', hv⟩ := ho.at
    exact ⟨F1, B, k, B', k', hv, ho.lt, may_nl hm1⟩
  · rintro w1 t1 g1 o1 A1 c1 p1 ⟨-, -, -, -, hs, hn, hc, h63, -⟩
    exact ⟨S, hs, hc, h63, hn, strs_sizes hs⟩
  · rintro w1 w2 t1 g1 o1 A1 c1 p1 ⟨hj1, ⟨F1, ho, hSF1, hR⟩, hm1, hq1, hs, hn, hc, h63, hS1⟩ hb
    exact ⟨hJ _ _ hj1 hb, ⟨F1, ho.keep hb, hSF1, fun e w3 hd => hR e w3 (hd.from hb ho.lt)⟩, hm1, hq1, hs.keep fun b hb' => hb.block b (hS1 b hb'), hn, hc, h63, fun b hb' => Nat.lt_of_lt_of_le (hS1 b hb') hb.size⟩
  · rintro w1 t1 g1 o1 A1 c1 s r G off B k B' k' S' hjl ⟨hj1, ⟨F1, ho, hSF1, hR⟩, hm1, hq1, hs, hn, hc, h63, hS1⟩ hr hpl hat rfl
    obtain ⟨G', Fj, ⟨c', hcell⟩, hFG, hoj, hsub, hup⟩ := ho.item hjl
    have h1 := hcell.symm.trans hat.c3
    injection h1 with h1
    injection h1 with h1 _ _
    injection h1 with h1
    injection h1 with h1 h2
    subst h1 h2
    have hrl : 0 < r.length := by cases r with | nil => exact absurd rfl hr | cons a b => simp
    simp only [List.length_cons] at hc
    refine ⟨hj1, ⟨Fj, by rw [Nat.zero_add]; exact hoj, fun b hb => ⟨fun e => (hSF1 b hb).1 (hsub b e), fun e => (hSF1 b hb).1 (e ▸ hFG)⟩, fun e w2 hd => hR e w2 ?_⟩, may_item hm1 hjl, hQ _ _ hjl hq1, hs.tail (.inr (by omega)), hr, by omega, by omega, hS1⟩
    rw [Nat.zero_add] at hd
    obtain ⟨h0, F', k1, k2, k3⟩ := hd
    obtain ⟨F'', j1, j2, j3⟩ := hup w2 _ F' k3 k2 k1
    rw [goT_on hpl hr hjl]
    exact ⟨h0, F'', j1, j2, j3⟩
  · rintro w1 t1 g1 o1 A1 c1 s r ⟨hj1, ⟨F1, ho, hSF1, hR⟩, hm1, hq1, hs, hn, hc, h63, hS1⟩ hend
    refine (hleaf w1 t1 g1 o1 A1 c1 s r F1 hj1 ho hm1 hq1 hs (by simpa using hc) h63 hS1 hSF1 hend).mono fun e w2 hd => hR e w2 ?_
    rw [goT_end hend]
    exact hd
end Go.Proofs.YtnamdlljdgllmaaGreat

/- A document changed. -/
namespace Go.Proofs.YtnamdlljdgllmaaGreat
set_option linter.unusedVariables false
set_option linter.unusedSimpArgs false
open Go.RowKit
def nilT : VT := .mk 0 0 ⟨#[]⟩ [] []
/-- What a change answers: a code, and the value. -/
def changeT (fin : VT → List ByteArray → Int × VT) (t : VT) (p : List ByteArray) : Int × VT := if wrongT t p = 0 then (if (goT fin t p).1 = 0 then (0, (goT fin t p).2) else ((goT fin t p).1, nilT)) else (wrongT t p, nilT)
def ChangeR (res : Int × VT) (w : World) (e : Ending) (w' : World) : Prop :=
  ∃ v, e = .returned (.tuple #[v, .int .i64 res.1]) ∧ LV w' (Iv w.heap.size w'.heap.size) res.2 v ∧ Below w.heap.size w w'
theorem change_end {w w5 : World} {res : Int × VT} {u : VT} {x : Int} {c0 c1 c2 c3 c4 : Value} (hb : Below w.heap.size w w5) (hv : LV w5 (Iv (w.heap.size + 2) w5.heap.size) u (.agg #[c0, c1, c2, c3, c4])) (hr : res = (x, u)) :
    ChangeR res w (.returned (.tuple #[.agg #[c0, c1, c2, c3, c4], .int .i64 x])) (five w5 (w.heap.size + 1) 0 c0 c1 c2 c3 c4) := by
  have hr5 := five_rest w5 (w.heap.size + 1) 0 c0 c1 c2 c3 c4
  have hk := five_other w5 (w.heap.size + 1) 0 c0 c1 c2 c3 c4
  have hz := five_size w5 (w.heap.size + 1) 0 c0 c1 c2 c3 c4
  subst hr
  exact ⟨_, rfl, (hv.keep fun b hb' => hk b (by have := hb'.1; omega)).imp fun b hb' => ⟨by have := hb'.1; omega, by rw [hz]; exact hb'.2⟩,
    ⟨hr5.1.trans hb.os, hr5.2.1.trans hb.tape, hr5.2.2.trans hb.output, by rw [hz]; exact hb.size, fun b hb' => (hk b (by omega)).trans (hb.block b hb')⟩⟩
theorem nil_lv (w : World) (S : Nat → Prop) : LV w S nilT (.agg #[.int .i64 0, .int .i64 0, .string ⟨#[]⟩, .slice none 0 0, .slice none 0 0]) := leaf_lv w S 0 0 ⟨#[]⟩ (by unfold Rng; omega) (by unfold Rng; omega) (by decide)
set_option maxHeartbeats 4000000 in
set_option maxRecDepth 100000 in
theorem tchange_any (f : Nat) (caps : Array Value) (fin : VT → List ByteArray → Int × VT) (S : Nat → Prop) (J : World → Prop) (Q : VT → Prop) (hQ : ∀ t (j : Nat) (hj : j < t.items.length), Q t → Q t.items[j]) (hcf0 : Enters f) (hJ : ∀ w w', J w → Below w.heap.size w w' → J w')
    (hleaf : ∀ w t g o A c s r F, J w → OAt w F t g o → mayT t = true → Q t → StrsAt w S A (s :: r) → r.length + 1 ≤ c → c ≤ 9223372036854775807 → (∀ b, S b → b < w.heap.size) → (∀ b, S b → ¬ F b ∧ b ≠ g) → (placeT t s < 0 ∨ r = []) →
      Calls Tryz.prog f (#[.agg #[.pointer (some ⟨g, o, none⟩), .int .i64 (placeT t s), .slice A (r.length + 1) c]] ++ caps) w (DidAt F g o w (fin t (s :: r))))
    (t : VT) (v : Value) (A : Option Addr) (c : Nat) (p : List ByteArray) (w : World) (hj : J w) (hq : Q t) (hS : ∀ b, S b → b < w.heap.size) (h : LV w S t v) (hd : depthT t ≤ 4611686018427387903) (hp : StrsAt w S A p) (hn : p.length ≤ 140737488351232) (hpc : p.length ≤ c) (h63 : c ≤ 9223372036854775807) :
    Calls Tryz.prog 129 #[v, .slice A p.length c, .func (.func f) #[] caps] w (ChangeR (changeT fin t p) w) := by
  obtain ⟨A0, c0, A0', c0', rfl, -, -, -, v1, hb0⟩ := one_var hS h
  have HALONG := Lib.hid (alongM_any f caps fin S J Q hQ hcf0 hJ hleaf)
  have HJ := Lib.hid hJ
  have HJW := Lib.hid hj
  have HQT := Lib.hid hq
  have HX := Lib.hid v1.x
  have HB := Lib.hid hb0
  have HP := Lib.hid hp
  have HV := Lib.hid h
  have HD := Lib.hid hd
  clear h v1 hb0 hp hd hleaf hJ hcf0 hj hQ
  go_enter Tryz.func129, Tryz.ntmps129
  go_wp2_with fail
  have hz1 : (w.alloc (.cells #[.int .i64 t.kind, .int .i64 t.num, .string t.text, .slice A0 t.items.length c0, .slice A0' t.names.length c0'] 29)).heap.size = w.heap.size + 1 := by simp
  have hB0 : Below w.heap.size w ((w.alloc (.cells #[.int .i64 t.kind, .int .i64 t.num, .string t.text, .slice A0 t.items.length c0, .slice A0' t.names.length c0'] 29)).alloc (.cells #[.int .i64 0, .int .i64 0, .string ⟨#[]⟩, .slice none 0 0, .slice none 0 0] 29)) := HB.out.alloc (by omega) _
  have hX0 := HX.out.alloc (.cells #[.int .i64 0, .int .i64 0, .string ⟨#[]⟩, .slice none 0 0, .slice none 0 0] 29)
  have hR0 : Box ((w.alloc (.cells #[.int .i64 t.kind, .int .i64 t.num, .string t.text, .slice A0 t.items.length c0, .slice A0' t.names.length c0'] 29)).alloc (.cells #[.int .i64 0, .int .i64 0, .string ⟨#[]⟩, .slice none 0 0, .slice none 0 0] 29)) (w.heap.size + 1) (.int .i64 0) (.int .i64 0) (.string ⟨#[]⟩) (.slice none 0 0) (.slice none 0 0) := by
    have h := Box.new (w := w.alloc (.cells #[.int .i64 t.kind, .int .i64 t.num, .string t.text, .slice A0 t.items.length c0, .slice A0' t.names.length c0'] 29)) (.int .i64 0) (.int .i64 0) (.string ⟨#[]⟩) (.slice none 0 0) (.slice none 0 0)
    rw [hz1] at h
    exact h
  have hz2 : ((w.alloc (.cells #[.int .i64 t.kind, .int .i64 t.num, .string t.text, .slice A0 t.items.length c0, .slice A0' t.names.length c0'] 29)).alloc (.cells #[.int .i64 0, .int .i64 0, .string ⟨#[]⟩, .slice none 0 0, .slice none 0 0] 29)).heap.size = w.heap.size + 2 := by simp
  have HCHK := Lib.hid (tcheck_any S t _ A c p _ (fun b hb => Nat.lt_of_lt_of_le (hS b hb) hB0.size) (HV.out.keep fun b hb => hB0.block b (hS b hb)) HD.out (HP.out.keep fun b hb => hB0.block b (hS b hb)) hn)
  have HB0 := Lib.hid hB0
  have HX0 := Lib.hid hX0
  have HR0 := Lib.hid hR0
  clear hB0 hX0 hR0 hz1 HB HX
  go_wp2_with fail
  refine HCHK.out.mono ?_
  rintro e w3 ⟨rfl, hb3⟩
  have HB3 := Lib.hid (HB0.out.trans (hb3.mono (by omega)))
  have HX3 := Lib.hid (HX0.out.call hb3)
  have HR3 := Lib.hid (HR0.out.call hb3)
  have hz3 : w.heap.size + 2 ≤ w3.heap.size := by have := hb3.size; omega
  clear hb3 HB0 HX0 HR0 HCHK hz2
  obtain ⟨W, hW⟩ : ∃ W, W = wrongT t p := ⟨_, rfl⟩
  rw [← hW]
  have HW := Lib.hid hW
  clear hW
  have rf := fun i => HR3.out.free i
  have r0 := HR3.out.c0
  have r1 := HR3.out.c1
  have r2 := HR3.out.c2
  have r3 := HR3.out.c3
  have r4 := HR3.out.c4
  by_cases h0 : W = 0
  rotate_left
  · have h1 : (W != 0) = true := by simp [h0]
    have hg : changeT fin t p = (W, nilT) := by unfold changeT; rw [if_neg (by rw [← HW.out]; exact h0), HW.out]
    have HG := Lib.hid hg
    clear hg h0
    go_wp2_with fail
    refine bodyPost_ret (results_cell_two rfl _ _ (w.heap.size + 1) 29 _ (0, 0) rfl (five_box HR3.out) (by kernel_rfl)) rfl ?_
    exact change_end HB3.out (nil_lv _ _) HG.out
  subst h0
  obtain ⟨hm, h7, hmp⟩ := wrong_zero HW.out
  have HM := Lib.hid hm
  have HMP := Lib.hid hmp
  have HGT : Hid (changeT fin t p = if (goT fin t p).1 = 0 then (0, (goT fin t p).2) else ((goT fin t p).1, nilT)) := Lib.hid (by unfold changeT; rw [if_pos HW.out.symm])
  have q0 := HX3.out.c0
  have q1 := HX3.out.c1
  have q2 := HX3.out.c2
  have q3 := HX3.out.c3
  have q4 := HX3.out.c4
  have HCL := Lib.hid (clone_own S t _ w3 (fun b hb => by have := hS b hb; omega) (HV.out.keep fun b hb => HB3.out.block b (hS b hb)))
  clear hm h7 hmp r0 r1 r2 r3 r4 rf
  go_wp2_with fail
  refine HCL.out.mono ?_
  rintro e w4 ⟨v', rfl, hov, hb4⟩
  obtain ⟨B, k, B', k', ys, rfl, -⟩ := hov.shape
  have HOV := Lib.hid hov
  have HB4 := Lib.hid (HB3.out.trans (hb4.mono (show w.heap.size ≤ w3.heap.size by omega)))
  have HR4 := Lib.hid (HR3.out.call hb4)
  have hz4 := hb4.size
  clear hov hb4 HCL q0 q1 q2 q3 q4 HX3 HR3 HB3
  go_wp2_with fail
  have hb5 : Below w4.heap.size w4 (w4.alloc (.cells #[.int .i64 t.kind, .int .i64 t.num, .string t.text, .slice B t.items.length k, .slice B' t.names.length k'] 29)) := below_box _
  have hx5 : Box (w4.alloc (.cells #[.int .i64 t.kind, .int .i64 t.num, .string t.text, .slice B t.items.length k, .slice B' t.names.length k'] 29)) w4.heap.size _ _ _ _ _ := Box.new _ _ _ _ _
  have hz5 : (w4.alloc (.cells #[.int .i64 t.kind, .int .i64 t.num, .string t.text, .slice B t.items.length k, .slice B' t.names.length k'] 29)).heap.size = w4.heap.size + 1 := by simp
  generalize w4.alloc (.cells #[.int .i64 t.kind, .int .i64 t.num, .string t.text, .slice B t.items.length k, .slice B' t.names.length k'] 29) = w5 at *
  have hO5 : OAt w5 (Iv w3.heap.size w4.heap.size) t w4.heap.size 0 := ⟨_, _, B, k, B', k', hx5, rfl, rfl, rfl, rfl, rfl, HOV.out.keep fun b hb => hb5.block b hb.2, fun hb => by have := hb.2; omega, fun b hb => by have := hb.2; omega⟩
  have hB5 := HB4.out.trans (hb5.mono (show w.heap.size ≤ w4.heap.size by omega))
  have HR5 := Lib.hid (HR4.out.call hb5)
  have HCALL := Lib.hid (HALONG.out t w4.heap.size 0 A c p w5 _ (HJ.out _ _ HJW.out hB5) hO5 HM.out HQT.out (HP.out.keep fun b hb => hB5.block b (hS b hb)) (mayP_ne HMP.out) hpc h63 (fun b hb => by have := hS b hb; omega) (fun b hb => ⟨fun e => by have := hS b hb; have := e.1; omega, by have := hS b hb; omega⟩))
  have HB5 := Lib.hid hB5
  clear hb5 hx5 hO5 hB5 HR4 HB4 HOV HALONG HJ HJW HV
  refine HCALL.out.mono ?_
  rintro e w6 ⟨rfl, F, hF, ⟨C, ty, D, d, D', d', hg, g0, g1, g2, g3, g4, hv, hFg, hlt⟩, m1, m2, m3, m4, m5, m6⟩
  have hk : ∀ b, b < w.heap.size + 2 → w6.heap[b]? = w5.heap[b]? := fun b hb => m2 b (by omega) (fun x => by have := x.1; omega) (by omega)
  have HB6 : Hid (Below w.heap.size w w6) := Lib.hid ⟨m4.trans HB5.out.os, m5.trans HB5.out.tape, m6.trans HB5.out.output, Nat.le_trans HB5.out.size m1, fun b hb => (hk b (by omega)).trans (HB5.out.block b hb)⟩
  have HR6 : Hid (Box w6 (w.heap.size + 1) _ _ _ _ _) := Lib.hid ((hk _ (by omega)).trans HR5.out)
  have HV6 := Lib.hid (hv.lv.imp (S' := Iv (w.heap.size + 2) w6.heap.size) fun b hb => ⟨(hF b hb).elim (fun x => by have := x.1; omega) (fun x => by omega), hlt b hb⟩)
  have x0 := (Go.Joins.cell_of_block hg 0).trans g0
  have x1 := (Go.Joins.cell_of_block hg 1).trans g1
  have x2 := (Go.Joins.cell_of_block hg 2).trans g2
  have x3 := (Go.Joins.cell_of_block hg 3).trans g3
  have x4 := (Go.Joins.cell_of_block hg 4).trans g4
  clear hk hF hg g0 g1 g2 g3 g4 hv hFg hlt m1 m2 m3 m4 m5 m6 HCALL HR5 HB5
  generalize hres : goT fin t p = res at *
  obtain ⟨x, u⟩ := res
  simp only at *
  have r0 := HR6.out.c0
  have r1 := HR6.out.c1
  have r2 := HR6.out.c2
  have r3 := HR6.out.c3
  have r4 := HR6.out.c4
  have rf := fun i => HR6.out.free i
  clear hres
  by_cases hx : x = 0
  · subst hx
    have hg : changeT fin t p = (0, u) := by rw [HGT.out]; rfl
    have HG := Lib.hid hg
    clear hg HGT
    go_wp2_with fail
    refine bodyPost_ret (results_cell_two rfl _ _ (w.heap.size + 1) 29 _ (0, 0) rfl (five_box HR6.out) (by kernel_rfl)) rfl ?_
    exact change_end HB6.out HV6.out HG.out
  · have h1 : (x != 0) = true := by simp [hx]
    have hg : changeT fin t p = (x, nilT) := by rw [HGT.out, if_neg hx]
    have HG := Lib.hid hg
    clear hg HGT hx
    go_wp2_with fail
    refine bodyPost_ret (results_cell_two rfl _ _ (w.heap.size + 1) 29 _ (0, 0) rfl (five_box HR6.out) (by kernel_rfl)) rfl ?_
    exact change_end HB6.out (nil_lv _ _) HG.out
end Go.Proofs.YtnamdlljdgllmaaGreat

/- Whether a step is the one just behind an array's last item. -/
namespace Go.Proofs.YtnamdlljdgllmaaGreat
set_option linter.unusedVariables false
set_option linter.unusedSimpArgs false
open Go.RowKit
/-- Just behind the last item, and nothing after. -/
def nextT (t : VT) (s : ByteArray) (r : List ByteArray) : Bool := decide (idxI s.data.toList = (t.items.length : Int)) && decide (r.length = 0)
set_option maxHeartbeats 2000000 in
set_option maxRecDepth 100000 in
theorem tnext_any (S S2 : Nat → Prop) (t : VT) (g o : Nat) (A : Option Addr) (c : Nat) (A' : Option Addr) (c' : Nat) (P : Int) (R : Option Addr) (cR : Nat) (s : ByteArray) (r : List ByteArray) (w : World) (h : AtV w S t g o A c A' c') (hg : g < w.heap.size) (hr : StrsAt w S2 R (s :: r)) (hS : ∀ b, S2 b → b < w.heap.size) (hn : r.length + 1 ≤ 9223372036854775807) :
    Calls Tryz.prog 158 #[.agg #[.pointer (some ⟨g, o, none⟩), .int .i64 P, .slice R (r.length + 1) cR]] w fun e w' => e = .returned (.bool (nextT t s r)) ∧ Below w.heap.size w w' := by
  obtain ⟨b, off, rfl, hb, hx⟩ := hr (by simp)
  have hs0 := (hx 0 (by simp)).1
  have hsz := (hx 0 (by simp)).2
  simp only [List.getElem_cons_zero, Nat.add_zero] at hs0 hsz
  have hbs := hS b hb
  have hlen := h.names.2.2
  have c3 := h.c3
  obtain ⟨Q, hQ⟩ : ∃ Q, Q = nextT t s r := ⟨_, rfl⟩
  rw [← hQ]
  have HQ := Lib.hid hQ
  clear hQ h hx hr
  have hb1 : Below w.heap.size w (w.alloc (.cells #[.pointer (some ⟨g, o, none⟩), .int .i64 P, .slice (some ⟨b, off, none⟩) (r.length + 1) cR] 131)) := below_box _
  have HB1 := Lib.hid hb1
  have hs1 : (w.alloc (.cells #[.pointer (some ⟨g, o, none⟩), .int .i64 P, .slice (some ⟨b, off, none⟩) (r.length + 1) cR] 131)).heap[w.heap.size]? = some (.cells #[.pointer (some ⟨g, o, none⟩), .int .i64 P, .slice (some ⟨b, off, none⟩) (r.length + 1) cR] 131 (0, 0)) := heap_alloc_new w _
  have HS1 := Lib.hid hs1
  clear hb1 hs1
  go_enter Tryz.func158, Tryz.ntmps158
  go_wp2_with fail
  refine (index_any s _ hsz).mono ?_
  rintro e w2 hi
  have hlt1 : 0 ≤ r.length := Nat.zero_le _
  unfold IdxR at hi
  cases hix : idxP s.data.toList with
  | none =>
    rw [hix] at hi
    obtain ⟨rfl, hb2⟩ := hi
    have hI := idxI_none hix
    have hq : Q = false := by rw [HQ.out]; unfold nextT; rw [hI, decide_eq_false (by omega)]; rfl
    have HB2 := Lib.hid (toStart HB1.out hb2)
    clear hb2
    go_wp2_with fail
    go_ret
    exact ⟨by rw [hq]; rfl, HB2.out⟩
  | some n =>
    rw [hix] at hi
    obtain ⟨rfl, hb2⟩ := hi
    have hI := idxI_some hix
    have hz1 : (w.alloc (.cells #[.pointer (some ⟨g, o, none⟩), .int .i64 P, .slice (some ⟨b, off, none⟩) (r.length + 1) cR] 131)).heap.size = w.heap.size + 1 := by simp
    have k0 := (World.cell?_of_block (a := ⟨w.heap.size, 0, none⟩) (hb2.block w.heap.size (by omega))).trans (Go.Joins.cell_of_block HS1.out 0)
    have k2 := (World.cell?_of_block (a := ⟨w.heap.size, 2, none⟩) (hb2.block w.heap.size (by omega))).trans (Go.Joins.cell_of_block HS1.out 2)
    have HB2 := Lib.hid (toStart HB1.out hb2)
    have k3 := (World.cell?_of_block (a := ⟨g, o + 3, none⟩) (HB2.out.block g hg)).trans c3
    clear hb2 hz1 HS1
    have hnx : nextT t s r = (decide ((n : Int) = (t.items.length : Int)) && decide (r.length = 0)) := by unfold nextT; rw [hI]
    by_cases hnl : (n : Int) = (t.items.length : Int)
    · have hb : ((n : Int) == (t.items.length : Int)) = true := by simp [hnl]
      by_cases hr0 : r.length = 0
      · have hb' : ((r.length : Int) + 1 == 1) = true := by simp [hr0]
        have hq : Q = true := by rw [HQ.out, hnx, decide_eq_true hnl, decide_eq_true hr0]; rfl
        have HQ2 := Lib.hid hq
        clear hq hnx
        go_wp2_with fail
        go_ret
        exact ⟨by rw [HQ2.out]; rfl, HB2.out⟩
      · have hb' : ((r.length : Int) + 1 == 1) = false := beq_false_of_ne (by omega)
        have hq : Q = false := by rw [HQ.out, hnx, decide_eq_false hr0, Bool.and_false]
        have HQ2 := Lib.hid hq
        clear hq hnx
        go_wp2_with fail
        go_ret
        exact ⟨by rw [HQ2.out]; rfl, HB2.out⟩
    · have hb : ((n : Int) == (t.items.length : Int)) = false := beq_false_of_ne hnl
      have hq : Q = false := by rw [HQ.out, hnx, decide_eq_false hnl, Bool.false_and]
      have HQ2 := Lib.hid hq
      clear hq hnx
      go_wp2_with fail
      go_ret
      exact ⟨by rw [HQ2.out]; rfl, HB2.out⟩
end Go.Proofs.YtnamdlljdgllmaaGreat

/- What put does where something lies. -/
namespace Go.Proofs.YtnamdlljdgllmaaGreat
set_option linter.unusedVariables false
set_option linter.unusedSimpArgs false
open Go.RowKit
set_option maxHeartbeats 4000000 in
set_option maxRecDepth 100000 in
theorem tput_item (F : Nat → Prop) (t u : VT) (g o : Nat) (j : Nat) (hj : j < t.items.length) (rest : Value) (w w1 : World) (B : Option Addr) (k : Nat) (B' : Option Addr) (k' : Nat) (h : OAt w F t g o) (hb1 : Below w.heap.size w w1)
    (hu : OV w1 (Iv w.heap.size w1.heap.size) u (.agg #[.int .i64 u.kind, .int .i64 u.num, .string u.text, .slice B u.items.length k, .slice B' u.names.length k'])) :
    Calls Tryz.prog 131 #[.agg #[.pointer (some ⟨g, o, none⟩), .int .i64 j, rest], .agg #[.int .i64 u.kind, .int .i64 u.num, .string u.text, .slice B u.items.length k, .slice B' u.names.length k']] w1 (DidAt F g o w (0, setT t j u)) := by
  have hneg : decide (0 ≤ (j : Int)) = true := decide_eq_true (by omega)
  obtain ⟨A, cA, A', cA', hat⟩ := (h.keep hb1).at
  have hlen := hat.names.2.2
  have hgl := (h.keep hb1).lt
  have hgl0 := h.lt
  obtain ⟨G, ⟨cp, hc3⟩, hFG, ⟨C, ty, hG, hGs⟩, hst⟩ := h.store hj
  have hgG : g ≠ G := by
    obtain ⟨_, _, _, _, _, _, _, _, _, _, _, _, _, hn, _⟩ := h
    exact fun e => hn (e ▸ hFG)
  have HST := Lib.hid hst
  have hGl := (Array.getElem?_eq_some_iff.1 hG).1
  have hGl1 := Nat.lt_of_lt_of_le hGl hb1.size
  have hc31 := (World.cell?_of_block (a := ⟨g, o + 3, none⟩) (hb1.block g hgl0)).trans hc3
  have hG1 := (hb1.block G hGl).trans hG
  have HB1 := Lib.hid hb1
  have HU := Lib.hid hu
  have hz1 := hb1.size
  clear h hat hst hb1 hu hc3 hG
  go_enter Tryz.func131, Tryz.ntmps131
  go_wp2_with fail
  refine wp_region_OT (Keep2 G G) (Keep2.refl _ _) (Keep2.trans _ _) [] (.pure [0, 1, 2, 3, 4, 5, 6, 7] (.step 8 (.step 9 (.tail [])))) (by kernel_rfl) (by kernel_rfl) (fun _ d _ _ _ h => by cases d <;> exact h) ?_
  have hza : (w1.alloc (.cells #[.pointer (some ⟨g, o, none⟩), .int .i64 j, rest] 131)).heap.size = w1.heap.size + 1 := by simp
  have hz0 : ((w1.alloc (.cells #[.pointer (some ⟨g, o, none⟩), .int .i64 j, rest] 131)).alloc (.cells #[.int .i64 u.kind, .int .i64 u.num, .string u.text, .slice B u.items.length k, .slice B' u.names.length k'] 29)).drew.heap.size = w1.heap.size + 2 := by simp
  have hb0 : Below w1.heap.size w1 ((w1.alloc (.cells #[.pointer (some ⟨g, o, none⟩), .int .i64 j, rest] 131)).alloc (.cells #[.int .i64 u.kind, .int .i64 u.num, .string u.text, .slice B u.items.length k, .slice B' u.names.length k'] 29)).drew := ((below_box _).alloc (by simp) _).drew
  have hs : ((w1.alloc (.cells #[.pointer (some ⟨g, o, none⟩), .int .i64 j, rest] 131)).alloc (.cells #[.int .i64 u.kind, .int .i64 u.num, .string u.text, .slice B u.items.length k, .slice B' u.names.length k'] 29)).drew.heap[w1.heap.size]? = some (.cells #[.pointer (some ⟨g, o, none⟩), .int .i64 j, rest] 131 (0, 0)) := (Below.heap_alloc (w1.alloc (.cells #[.pointer (some ⟨g, o, none⟩), .int .i64 j, rest] 131)) _ w1.heap.size (by omega)).trans (heap_alloc_new w1 _)
  have hx : Box ((w1.alloc (.cells #[.pointer (some ⟨g, o, none⟩), .int .i64 j, rest] 131)).alloc (.cells #[.int .i64 u.kind, .int .i64 u.num, .string u.text, .slice B u.items.length k, .slice B' u.names.length k'] 29)).drew (w1.heap.size + 1) (.int .i64 u.kind) (.int .i64 u.num) (.string u.text) (.slice B u.items.length k) (.slice B' u.names.length k') := by
    have := Box.new (w := (w1.alloc (.cells #[.pointer (some ⟨g, o, none⟩), .int .i64 j, rest] 131))) (.int .i64 u.kind) (.int .i64 u.num) (.string u.text) (.slice B u.items.length k) (.slice B' u.names.length k')
    rw [hza] at this
    exact this
  generalize ((w1.alloc (.cells #[.pointer (some ⟨g, o, none⟩), .int .i64 j, rest] 131)).alloc (.cells #[.int .i64 u.kind, .int .i64 u.num, .string u.text, .slice B u.items.length k, .slice B' u.names.length k'] 29)).drew = w0 at *
  have s0 : ∀ p : LaterR (Keep2 G G) w0, p.u.cell? ⟨w1.heap.size, 0, none⟩ = some (.pointer (some ⟨g, o, none⟩)) := fun p => (World.cell?_of_block (a := ⟨w1.heap.size, 0, none⟩) (p.h.2 w1.heap.size (by omega) (by omega) (by omega))).trans (Go.Joins.cell_of_block hs 0)
  have s1 : ∀ p : LaterR (Keep2 G G) w0, p.u.cell? ⟨w1.heap.size, 1, none⟩ = some (.int .i64 j) := fun p => (World.cell?_of_block (a := ⟨w1.heap.size, 1, none⟩) (p.h.2 w1.heap.size (by omega) (by omega) (by omega))).trans (Go.Joins.cell_of_block hs 1)
  have q3 : ∀ p : LaterR (Keep2 G G) w0, p.u.cell? ⟨g, o + 3, none⟩ = some (.slice (some ⟨G, 0, none⟩) t.items.length cp) := fun p => (World.cell?_of_block (a := ⟨g, o + 3, none⟩) (p.h.2 g (by omega) hgG hgG)).trans ((World.cell?_of_block (a := ⟨g, o + 3, none⟩) (hb0.block g hgl)).trans hc31)
  have kx : ∀ (p : LaterR (Keep2 G G) w0) (i : Nat), p.u.cell? ⟨w1.heap.size + 1, i, none⟩ = w0.cell? ⟨w1.heap.size + 1, i, none⟩ := fun p i => World.cell?_of_block (a := ⟨w1.heap.size + 1, i, none⟩) (p.h.2 (w1.heap.size + 1) (by omega) (by omega) (by omega))
  have y0 := fun p : LaterR (Keep2 G G) w0 => (kx p 0).trans hx.c0
  have y1 := fun p : LaterR (Keep2 G G) w0 => (kx p 1).trans hx.c1
  have y2 := fun p : LaterR (Keep2 G G) w0 => (kx p 2).trans hx.c2
  have y3 := fun p : LaterR (Keep2 G G) w0 => (kx p 3).trans hx.c3
  have y4 := fun p : LaterR (Keep2 G G) w0 => (kx p 4).trans hx.c4
  have hG0 := (hb0.block G hGl1).trans hG1
  have HFIN := Lib.hid (HST.out w0 (Iv w.heap.size w1.heap.size) u B k B' k' (HB1.out.trans (hb0.mono hz1)) (HU.out.keep fun b hb => hb0.block b hb.2) (fun b hb => ⟨hb.1, by have := hb.2; omega⟩))
  have x0 := (Go.Joins.cell_of_block hG0 (j * 5)).trans (Array.getElem?_eq_getElem (show j * 5 < C.size by omega))
  have x1 := (Go.Joins.cell_of_block hG0 (j * 5 + 1)).trans (Array.getElem?_eq_getElem (show j * 5 + 1 < C.size by omega))
  have x2 := (Go.Joins.cell_of_block hG0 (j * 5 + 2)).trans (Array.getElem?_eq_getElem (show j * 5 + 2 < C.size by omega))
  have x3 := (Go.Joins.cell_of_block hG0 (j * 5 + 3)).trans (Array.getElem?_eq_getElem (show j * 5 + 3 < C.size by omega))
  have x4 := (Go.Joins.cell_of_block hG0 (j * 5 + 4)).trans (Array.getElem?_eq_getElem (show j * 5 + 4 < C.size by omega))
  have xf := fun i => Go.Joins.unfrozen_of_block hG0 i
  have h5 := five_other w0 G (j * 5) (.int .i64 u.kind) (.int .i64 u.num) (.string u.text) (.slice B u.items.length k) (.slice B' u.names.length k')
  have hz5 := five_size w0 G (j * 5) (.int .i64 u.kind) (.int .i64 u.num) (.string u.text) (.slice B u.items.length k) (.slice B' u.names.length k')
  clear hs hb0 hc31 HST hG0 hx kx hza HB1 HU hG1
  refine ot_pure ?_
  simp only [atNats, List.filterMap_cons, List.filterMap_nil, List.getElem?_toArray, List.getElem?_cons_succ, List.getElem?_cons_zero]
  show wpQuiet _ _ _ _ [_, _, _, _, _, _, _, _] _
  try simp only [List.getElem_toArray, List.getElem_cons_succ, List.getElem_cons_zero, Act.put, List.setIfInBounds_toArray, List.set_cons_succ, List.set_cons_zero]
  repeat (go_big_quiet_step (fail))
  refine wpQuiet_nil ?_
  clear s0 s1 q3 y0 y1 y2 y3 y4
  refine ot_step rfl (fun K hK => ?_)
  go_simp
  refine hK _ _ (.inr (Keep2.refl _ _ _)) ?_
  clear hK K
  refine ot_step rfl (fun K hK => ?_)
  go_simp
  refine hK _ (five w0 G (j * 5) (.int .i64 u.kind) (.int .i64 u.num) (.string u.text) (.slice B u.items.length k) (.slice B' u.names.length k')) (.inr ⟨by omega, fun b hb hg hh => h5 b hg⟩) ?_
  clear hK K x0 x1 x2 x3 x4 xf h5 hz5
  generalize five w0 G (j * 5) (.int .i64 u.kind) (.int .i64 u.num) (.string u.text) (.slice B u.items.length k) (.slice B' u.names.length k') = w6 at *
  refine ot_end ?_
  go_wp2_with fail
  go_ret
  exact ⟨rfl, HFIN.out⟩
end Go.Proofs.YtnamdlljdgllmaaGreat

/- What drop does where nothing lies, and at an array's item. -/
namespace Go.Proofs.YtnamdlljdgllmaaGreat
set_option linter.unusedVariables false
set_option linter.unusedSimpArgs false
open Go.RowKit
/-- What is left of an item of an array. -/
def nullT : VT := .mk 1 0 ⟨#[]⟩ [] []
set_option maxHeartbeats 2000000 in
set_option maxRecDepth 100000 in
theorem tdrop_none (F : Nat → Prop) (t : VT) (g o : Nat) (P : Int) (hP : P < 0) (rest : Value) (w : World) (h : OAt w F t g o) :
    Calls Tryz.prog 133 #[.agg #[.pointer (some ⟨g, o, none⟩), .int .i64 P, rest]] w fun e w' => e = .returned (.tuple #[]) ∧ ∃ F', Own F w F' ∧ OAt w' F' t g o ∧ Mut F g o w w' := by
  have hneg : decide (P < 0) = true := decide_eq_true hP
  have hb : Below w.heap.size w (w.alloc (.cells #[.pointer (some ⟨g, o, none⟩), .int .i64 P, rest] 131)) := below_box _
  have hfin : ∃ F', Own F w F' ∧ OAt (w.alloc (.cells #[.pointer (some ⟨g, o, none⟩), .int .i64 P, rest] 131)) F' t g o ∧ Mut F g o w (w.alloc (.cells #[.pointer (some ⟨g, o, none⟩), .int .i64 P, rest] 131)) :=
    ⟨F, fun _ => .inl, h.keep hb, hb.size, fun b hb1 _ _ => hb.block b hb1, fun C ty fz hC => ⟨C, (hb.block g h.lt).trans hC, rfl, fun _ _ => rfl⟩, hb.os, hb.tape, hb.output⟩
  have HFIN := Lib.hid hfin
  clear h hb hfin
  go_enter Tryz.func133, Tryz.ntmps133
  go_wp2_with fail
  go_end0
  exact ⟨rfl, HFIN.out⟩
set_option maxHeartbeats 4000000 in
set_option maxRecDepth 100000 in
theorem tdrop_item (F : Nat → Prop) (t : VT) (g o : Nat) (j : Nat) (hj : j < t.items.length) (hk : t.kind ≠ 7) (rest : Value) (w : World) (h : OAt w F t g o) :
    Calls Tryz.prog 133 #[.agg #[.pointer (some ⟨g, o, none⟩), .int .i64 j, rest]] w fun e w' => e = .returned (.tuple #[]) ∧ ∃ F', Own F w F' ∧ OAt w' F' (setT t j nullT) g o ∧ Mut F g o w w' := by
  have hneg : decide ((j : Int) < 0) = false := decide_eq_false (by omega)
  obtain ⟨A, cA, A', cA', hat⟩ := h.at
  have hlen := hat.names.2.2
  have hgl := h.lt
  obtain ⟨G, ⟨cp, hc3⟩, hFG, ⟨C, ty, hG, hGs⟩, hst⟩ := h.store hj
  have hgG : g ≠ G := by
    obtain ⟨_, _, _, _, _, _, _, _, _, _, _, _, _, hn, _⟩ := h
    exact fun e => hn (e ▸ hFG)
  have hc0 := hat.c0
  obtain ⟨k, hkk⟩ : ∃ k, k = t.kind := ⟨_, rfl⟩
  rw [← hkk] at hc0 hk
  have hk7 : (k == 7) = false := beq_false_of_ne hk
  have HST := Lib.hid hst
  have hGl := (Array.getElem?_eq_some_iff.1 hG).1
  clear h hat hst hkk
  go_enter Tryz.func133, Tryz.ntmps133
  go_wp2_with fail
  refine wp_region_OT (Keep2 G G) (Keep2.refl _ _) (Keep2.trans _ _) [] (.pure [0, 1, 2, 3, 4, 5, 6] (.step 7 (.step 8 (.step 9 (.tail []))))) (by kernel_rfl) (by kernel_rfl) (fun _ d _ _ _ h => by cases d <;> exact h) ?_
  have hz0 : (w.alloc (.cells #[.pointer (some ⟨g, o, none⟩), .int .i64 j, rest] 131)).drew.heap.size = w.heap.size + 1 := by simp
  have hb0 : Below w.heap.size w (w.alloc (.cells #[.pointer (some ⟨g, o, none⟩), .int .i64 j, rest] 131)).drew := (below_box _).drew
  have hs : (w.alloc (.cells #[.pointer (some ⟨g, o, none⟩), .int .i64 j, rest] 131)).drew.heap[w.heap.size]? = some (.cells #[.pointer (some ⟨g, o, none⟩), .int .i64 j, rest] 131 (0, 0)) := heap_alloc_new w _
  generalize (w.alloc (.cells #[.pointer (some ⟨g, o, none⟩), .int .i64 j, rest] 131)).drew = w0 at *
  have s0 : ∀ p : LaterR (Keep2 G G) w0, p.u.cell? ⟨w.heap.size, 0, none⟩ = some (.pointer (some ⟨g, o, none⟩)) := fun p => (World.cell?_of_block (a := ⟨w.heap.size, 0, none⟩) (p.h.2 w.heap.size (by omega) (by omega) (by omega))).trans (Go.Joins.cell_of_block hs 0)
  have s1 : ∀ p : LaterR (Keep2 G G) w0, p.u.cell? ⟨w.heap.size, 1, none⟩ = some (.int .i64 j) := fun p => (World.cell?_of_block (a := ⟨w.heap.size, 1, none⟩) (p.h.2 w.heap.size (by omega) (by omega) (by omega))).trans (Go.Joins.cell_of_block hs 1)
  have q3 : ∀ p : LaterR (Keep2 G G) w0, p.u.cell? ⟨g, o + 3, none⟩ = some (.slice (some ⟨G, 0, none⟩) t.items.length cp) := fun p => (World.cell?_of_block (a := ⟨g, o + 3, none⟩) (p.h.2 g (by omega) hgG hgG)).trans ((World.cell?_of_block (a := ⟨g, o + 3, none⟩) (hb0.block g hgl)).trans hc3)
  have hG0 := (hb0.block G hGl).trans hG
  have HFIN := Lib.hid (HST.out w0 (fun _ => False) nullT none 0 none 0 hb0 (leaf_ov _ _ 1 0 ⟨#[]⟩ (by unfold Rng; omega) (by unfold Rng; omega) (by decide)) (fun _ h => h.elim))
  have x0 := (Go.Joins.cell_of_block hG0 (j * 5)).trans (Array.getElem?_eq_getElem (show j * 5 < C.size by omega))
  have x1 := (Go.Joins.cell_of_block hG0 (j * 5 + 1)).trans (Array.getElem?_eq_getElem (show j * 5 + 1 < C.size by omega))
  have x2 := (Go.Joins.cell_of_block hG0 (j * 5 + 2)).trans (Array.getElem?_eq_getElem (show j * 5 + 2 < C.size by omega))
  have x3 := (Go.Joins.cell_of_block hG0 (j * 5 + 3)).trans (Array.getElem?_eq_getElem (show j * 5 + 3 < C.size by omega))
  have x4 := (Go.Joins.cell_of_block hG0 (j * 5 + 4)).trans (Array.getElem?_eq_getElem (show j * 5 + 4 < C.size by omega))
  have xf := fun i => Go.Joins.unfrozen_of_block hG0 i
  have h5 := five_other w0 G (j * 5) (.int .i64 1) (.int .i64 0) (.string ⟨#[]⟩) (.slice none 0 0) (.slice none 0 0)
  have hz5 := five_size w0 G (j * 5) (.int .i64 1) (.int .i64 0) (.string ⟨#[]⟩) (.slice none 0 0) (.slice none 0 0)
  clear hs hb0 hc3 HST hG0
  refine ot_pure ?_
  simp only [atNats, List.filterMap_cons, List.filterMap_nil, List.getElem?_toArray, List.getElem?_cons_succ, List.getElem?_cons_zero]
  show wpQuiet _ _ _ _ [_, _, _, _, _, _, _] _
  try simp only [List.getElem_toArray, List.getElem_cons_succ, List.getElem_cons_zero, Act.put, List.setIfInBounds_toArray, List.set_cons_succ, List.set_cons_zero]
  repeat (go_big_quiet_step (fail))
  refine wpQuiet_nil ?_
  clear s0 s1 q3
  refine ot_step rfl (fun K hK => ?_)
  go_simp
  refine hK _ _ (.inr (Keep2.refl _ _ _)) ?_
  clear hK K
  refine ot_step rfl (fun K hK => ?_)
  go_simp
  refine hK _ _ (.inr (Keep2.refl _ _ _)) ?_
  clear hK K
  refine ot_step rfl (fun K hK => ?_)
  go_simp
  refine hK _ (five w0 G (j * 5) (.int .i64 1) (.int .i64 0) (.string ⟨#[]⟩) (.slice none 0 0) (.slice none 0 0)) (.inr ⟨by omega, fun b hb hg hh => h5 b hg⟩) ?_
  clear hK K x0 x1 x2 x3 x4 xf h5 hz5
  change Hid (∃ F', Own F w F' ∧ OAt (five w0 G (j * 5) (.int .i64 1) (.int .i64 0) (.string ⟨#[]⟩) (.slice none 0 0) (.slice none 0 0)) F' (setT t j nullT) g o ∧ Mut F g o w (five w0 G (j * 5) (.int .i64 1) (.int .i64 0) (.string ⟨#[]⟩) (.slice none 0 0) (.slice none 0 0))) at HFIN
  generalize five w0 G (j * 5) (.int .i64 1) (.int .i64 0) (.string ⟨#[]⟩) (.slice none 0 0) (.slice none 0 0) = w6 at *
  refine ot_end ?_
  go_wp2_with fail
  go_end0
  exact ⟨rfl, HFIN.out⟩
end Go.Proofs.YtnamdlljdgllmaaGreat

/- Rows behind a Delete: plain. -/
namespace Go.Proofs.YtnamdlljdgllmaaGreat
set_option linter.unusedVariables false
set_option linter.unusedSimpArgs false
open Go.RowKit
theorem setCells_rest {b : Nat} : ∀ (vs : List Value) (o : Nat) (w : World), (∀ x, x ≠ b → (w.setCells b o vs).heap[x]? = w.heap[x]?) ∧ (w.setCells b o vs).heap.size = w.heap.size ∧ (w.setCells b o vs).os = w.os ∧ (w.setCells b o vs).tape = w.tape ∧ (w.setCells b o vs).output = w.output
  | [], o, w => ⟨fun _ _ => rfl, rfl, rfl, rfl, rfl⟩
  | v :: r, o, w => by
    obtain ⟨h1, h2, h3, h4, h5⟩ := setCells_rest r (o + 1) (w.setCell ⟨b, o, none⟩ v)
    refine ⟨fun x hx => (h1 x hx).trans (heap_setCell_other _ ⟨b, o, none⟩ x _ hx), h2.trans (by simp), h3, h4, h5⟩
/-- A row whose block alone has been changed, so that it begins with xs. -/
def DelR (ty : TypeId) (w w' : World) (G : Nat) (sz : Nat) (xs : List Value) : Prop := ∃ C' : Array Value, w'.heap[G]? = some (.cells C' ty (0, 0)) ∧ C'.size = sz ∧ C'.toList.take xs.length = xs ∧ (∀ b, b ≠ G → w'.heap[b]? = w.heap[b]?) ∧ w'.heap.size = w.heap.size ∧ w'.os = w.os ∧ w'.tape = w.tape ∧ w'.output = w.output
theorem row_del {w : World} {G : Nat} {ty : TypeId} {C : Array Value} (h : w.heap[G]? = some (.cells C ty (0, 0))) (a z : Nat) (news zs : List Value) (hz : z = a + news.length) (hl : a + news.length + zs.length ≤ C.size) :
    DelR ty w ((w.drew.setCells G a news).setCells G z zs) G C.size (C.toList.take a ++ news) := by
  subst hz
  obtain ⟨C1, h1, s1, k1⟩ := setCells_block (w := w.drew) news a C h (by omega)
  obtain ⟨C2, h2, s2, k2⟩ := setCells_block zs (a + news.length) C1 h1 (by omega)
  obtain ⟨p1, p2, p3, p4, p5⟩ := setCells_rest (b := G) news a w.drew
  obtain ⟨q1, q2, q3, q4, q5⟩ := setCells_rest (b := G) zs (a + news.length) (w.drew.setCells G a news)
  refine ⟨C2, h2, s2.trans s1, ?_, fun b hb => (q1 b hb).trans (p1 b hb), q2.trans p2, q3.trans p3, q4.trans p4, q5.trans p5⟩
  have hta : (C.toList.take a).length = a := by rw [List.length_take, Array.length_toList]; omega
  apply List.ext_getElem?
  intro m
  rw [List.length_append, hta]
  by_cases hm : m < a + news.length
  · rw [List.getElem?_take_of_lt hm, Array.getElem?_toList, k2 m, if_neg (by omega), k1 m]
    by_cases hma : m < a
    · rw [if_neg (by omega), List.getElem?_append_left (by omega), List.getElem?_take_of_lt hma, Array.getElem?_toList]
    · rw [if_pos (by omega), List.getElem?_append_right (by omega), hta]
  · rw [List.getElem?_eq_none (by rw [List.length_take]; omega), List.getElem?_eq_none (by rw [List.length_append]; omega)]
theorem OV.one {w : World} {F : Nat → Prop} {t : VT} {c0 c1 c2 c3 c4 : Value} (h : OV w F t (.agg #[c0, c1, c2, c3, c4])) : c0.oneCell' = true ∧ c1.oneCell' = true ∧ c2.oneCell' = true ∧ c3.oneCell' = true ∧ c4.oneCell' = true := by
  obtain ⟨A, c, A', c', xs, hag, -⟩ := h.shape
  injection hag with hag; injection hag with hag
  injection hag with z0 hag; injection hag with z1 hag; injection hag with z2 hag; injection hag with z3 hag; injection hag with z4 hag
  subst z0 z1 z2 z3 z4
  exact ⟨rfl, rfl, rfl, rfl, rfl⟩
theorem OVs.one {w : World} : ∀ {l : List VT} {F : Nat → Prop} {xs : List Value}, OVs w F l xs → ∀ v ∈ xs, v.oneCell' = true
  | [], F, xs, h, v, hv => by unfold OVs at h; subst h; cases hv
  | t :: r, F, xs, h, v, hv => by
    unfold OVs at h
    obtain ⟨c0, c1, c2, c3, c4, ys, F1, F2, rfl, h1, h2, -⟩ := h
    obtain ⟨e0, e1, e2, e3, e4⟩ := h1.one
    simp only [List.mem_cons] at hv
    rcases hv with rfl | rfl | rfl | rfl | rfl | hv
    · exact e0
    · exact e1
    · exact e2
    · exact e3
    · exact e4
    · exact OVs.one h2 v hv
theorem OVs.len {w : World} : ∀ {l : List VT} {F : Nat → Prop} {xs : List Value}, OVs w F l xs → xs.length = l.length * 5
  | [], F, xs, h => by unfold OVs at h; subst h; rfl
  | t :: r, F, xs, h => by
    unfold OVs at h
    obtain ⟨c0, c1, c2, c3, c4, ys, F1, F2, rfl, h1, h2, -⟩ := h
    have := OVs.len h2
    simp only [List.length_cons]
    omega
theorem OVs.erase {w : World} : ∀ {l : List VT} {F : Nat → Prop} {xs : List Value} (j : Nat), OVs w F l xs → j < l.length → OVs w F (l.eraseIdx j) (xs.take (j * 5) ++ (xs.drop ((j + 1) * 5)))
  | [], F, xs, j, h, hj => absurd hj (by simp)
  | t :: r, F, xs, 0, h, hj => by
    unfold OVs at h
    obtain ⟨c0, c1, c2, c3, c4, ys, F1, F2, rfl, h1, h2, h3, h4, h5⟩ := h
    simp only [Nat.zero_mul, List.take_zero, List.nil_append, List.eraseIdx_zero, List.tail_cons, Nat.zero_add, Nat.one_mul, List.drop_succ_cons, List.drop_zero]
    exact h2.imp h4
  | t :: r, F, xs, j + 1, h, hj => by
    unfold OVs at h
    obtain ⟨c0, c1, c2, c3, c4, ys, F1, F2, rfl, h1, h2, h3, h4, h5⟩ := h
    have := OVs.erase j h2 (by simpa using hj)
    rw [show (j + 1) * 5 = j * 5 + 5 by omega] at this
    rw [show (j + 1) * 5 = j * 5 + 5 by omega, show (j + 1 + 1) * 5 = j * 5 + 5 + 5 by omega]
    simp only [List.eraseIdx_cons_succ, List.take_succ_cons, List.drop_succ_cons, List.cons_append]
    unfold OVs
    exact ⟨c0, c1, c2, c3, c4, _, F1, F2, rfl, h1, this, h3, h4, h5⟩
theorem OVs.front {w : World} : ∀ {l : List VT} {F : Nat → Prop} {xs : List Value} (n : Nat), OVs w F l xs → n ≤ l.length → OVs w F (l.take n) (xs.take (n * 5))
  | l, F, xs, 0, h, hn => by simp only [Nat.zero_mul, List.take_zero]; exact ovs_nil _ _
  | [], F, xs, n + 1, h, hj => absurd hj (by simp)
  | t :: r, F, xs, n + 1, h, hj => by
    unfold OVs at h
    obtain ⟨c0, c1, c2, c3, c4, ys, F1, F2, rfl, h1, h2, h3, h4, h5⟩ := h
    have := OVs.front n h2 (by simpa using hj)
    rw [show (n + 1) * 5 = n * 5 + 5 by omega]
    simp only [List.take_succ_cons]
    unfold OVs
    exact ⟨c0, c1, c2, c3, c4, _, F1, F2, rfl, h1, this, h3, h4, h5⟩
theorem map_erase (ns : List ByteArray) (j : Nat) : (ns.eraseIdx j).map Value.string = (ns.map Value.string).take j ++ (ns.map Value.string).drop (j + 1) := by
  rw [List.eraseIdx_eq_take_drop_succ, List.map_append, List.map_take, List.map_drop]
/-- An item taken out, and its name. -/
def remT : VT → Nat → VT
  | .mk k i s l ns, j => .mk k i s (l.eraseIdx j) (ns.eraseIdx j)
/-- The first n items. -/
def frontT : VT → Nat → VT
  | .mk k i s l ns, n => .mk k i s (l.take n) ns
end Go.Proofs.YtnamdlljdgllmaaGreat
