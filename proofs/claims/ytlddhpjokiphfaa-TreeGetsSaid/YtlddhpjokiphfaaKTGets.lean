/- What lies at any path of any value: the program's answer is the document's. No conditions. -/
import Derived.Test.YtlddhpjokiphfaaKTlA
import Derived.SizedLaws
import Derived.ProofKit
import Derived.OpenShut
import Derived.ShutString
import Derived.ChangeOld
import Derived.Below
import Derived.Deep.Slices
namespace Go.Proofs.Ytlddhpjokiphfaa.TGets
set_option linter.unusedVariables false
set_option linter.unusedSimpArgs false
open Go.ChangeShapes Go.WideShapes Go.ChangeAt Go.RowKit Go.Joins Go.Deep
open Go.ChangeMaps (open_string shut_string)
set_option linter.unusedVariables false

theorem own : ownKnob Try.prog.godebug = none := by kernel_rfl
theorem laidOut : laidOutB Try.prog = true := by kernel_rfl
def zT : VT := .mk 0 0 ⟨#[]⟩ [] []
theorem zero_vr (u : World) : Vr (u.alloc (.cells #[.int .i64 0, .int .i64 0, .string ⟨#[]⟩, .slice none 0 0, .slice none 0 0] 25)) (fun _ => False) u.heap.size zT none 0 none 0 :=
  Vr.new (t := zT) (fun _ h => h.elim) (leaf_lv _ _ 0 0 ⟨#[]⟩ (by unfold Rng; omega) (by unfold Rng; omega) (by decide))
/-- A value stored in a variable. -/
theorem Vr.put {u : World} {S S' : Nat → Prop} {g : Nat} {t t' : VT} {A B : Option Addr} {c d : Nat} {A' B' : Option Addr} {c' d' : Nat} (h : Vr u S g t A c A' c') (k : LV u S' t' (agg5 t' B d B' d')) (hS : ∀ b, S' b → b < u.heap.size) (hg : ¬ S' g) :
    Vr (five u g 0 (.int .i64 t'.kind) (.int .i64 t'.num) (.string t'.text) (.slice B t'.items.length d) (.slice B' t'.names.length d')) S' g t' B d B' d' :=
  ⟨five_box h.x, k.keep fun b hb => five_other _ _ _ _ _ _ _ _ b (fun e => hg (by subst e; exact hb)), fun b hb => by rw [five_size]; exact hS b hb⟩
/-- Another variable stays. -/
theorem Vr.far {u : World} {S : Nat → Prop} {g p : Nat} {t : VT} {A : Option Addr} {c : Nat} {A' : Option Addr} {c' : Nat} {c0 c1 c2 c3 c4 : Value} (h : Vr u S g t A c A' c') (hg : g ≠ p) (hS : ∀ b, S b → b ≠ p) : Vr (five u p 0 c0 c1 c2 c3 c4) S g t A c A' c' :=
  ⟨(five_other _ _ _ _ _ _ _ _ g hg).trans h.x, h.v.keep fun b hb => five_other _ _ _ _ _ _ _ _ b (hS b hb), fun b hb => by rw [five_size]; exact h.s b hb⟩
theorem strs_one {w : World} {b : Nat} {strs : List ByteArray} (h : w.heap[b]? = some (.cells (strs.map Value.string).toArray 9 (0, 0))) (hs : ∀ s ∈ strs, s.size ≤ 140737488351232) : StrsAt w (fun q => q = b) (some ⟨b, 0, none⟩) strs := fun hp => by
  obtain ⟨b', off, e, -, hx⟩ := strs_row h hs hp
  injection e with e
  injection e with e1 e2
  subst e1 e2
  exact ⟨b, 0, rfl, rfl, hx⟩
theorem mayP_id : mayP idP = true := by kernel_rfl
theorem tgot_id (t : VT) : tgotT t idP = if docB t = true then getT t idP else none := by
  unfold tgotT wrongT
  rw [mayP_id]
  cases docB t <;> simp
set_option maxHeartbeats 8000000 in
set_option maxRecDepth 100000 in
theorem walk (t : VT) (v : Value) (A : Option Addr) (c : Nat) (p : List ByteArray) (w : World) (h : LV w (fun b => b < w.heap.size) t v) (hp : StrsAt w (fun b => b < w.heap.size) A p) (hpc : p.length ≤ c) (h63 : c ≤ 9223372036854775807) (hn : p.length ≤ 8796093021952) :
    Calls Try.prog 3 #[v, .slice A p.length c] w fun e w' => e = .returned (.bool true) ∧ Below w.heap.size w w' := by
  obtain ⟨A0, c0, A0', c0', rfl, -, -, -, v1, hb0⟩ := one_var (fun _ h => h) h
  have HP := Lib.hid hp
  have hn2 : p.length ≤ 140737488351232 := by omega
  have HL := Lib.hid (large5_any _ t _ A c p.length _ v1.s v1.v hn2)
  have HB := Lib.hid hb0
  have hV := v1
  have y0 := hV.x.c0
  have y1 := hV.x.c1
  have y2 := hV.x.c2
  have y3 := hV.x.c3
  have y4 := hV.x.c4
  clear h v1 hb0 hp
  go_enter Try.func3, Try.ntmps3
  go_wp2_with fail
  refine HL.out.mono ?_
  rintro e w2 ⟨rfl, hb2⟩
  replace hV := hV.call hb2
  have HB2 := Lib.hid (toStart HB.out hb2)
  clear hb2 y0 y1 y2 y3 y4 HL HB
  cases hlg : large5 t p.length with
  | true =>
    clear hlg
    go_wp2_with fail
    refine (lives5_any _).mono ?_
    rintro e w9 ⟨rfl, hb⟩
    have HB9 := Lib.hid (toStart HB2.out hb)
    clear hb
    go_wp2_with fail
    go_ret
    exact ⟨rfl, HB9.out⟩
  | false =>
  have hlt : largeT t = false := by
    unfold large5 at hlg
    rw [Bool.or_eq_false_iff] at hlg
    exact hlg.1
  have HD := Lib.hid (dep_ok hlt)
  clear hlg hlt
  have y0 := hV.x.c0
  have y1 := hV.x.c1
  have y2 := hV.x.c2
  have y3 := hV.x.c3
  have y4 := hV.x.c4
  have HG := Lib.hid (tget_any _ t _ A c p w2 hV.s hV.v HD.out (HP.out.keep (w' := w2) fun b hb => HB2.out.block b hb) hn2 hpc h63)
  have yl := hV.x.lt
  go_wp2_with fail
  refine HG.out.mono ?_
  rintro e w3 ⟨vx, rfl, hvx, hb3⟩
  obtain ⟨X, kx, X', kx', rfl, -⟩ := hvx.shape
  clear y0 y1 y2 y3 y4 yl
  replace hV := hV.call hb3
  replace HB2 := Lib.hid (toStart HB2.out hb3)
  have HTG : Hid (tgotT t p = tgotT t p) := Lib.hid rfl
  obtain ⟨RX, hRX⟩ : ∃ RX, RX = (tgotT t p).getD (.mk 0 0 ⟨#[]⟩ [] []) := ⟨_, rfl⟩
  obtain ⟨OX, hOX⟩ : ∃ OX, OX = (tgotT t p).isSome := ⟨_, rfl⟩
  rw [← hRX] at hvx ⊢
  rw [← hOX]
  have HRX := Lib.hid (And.intro hRX hOX)
  clear hRX hOX HG HTG
  replace hvx := hvx.imp (S' := Iv w2.heap.size w3.heap.size) fun b hb => ⟨hb.1, hb.2⟩
  have y0 := hV.x.c0
  have y1 := hV.x.c1
  have y2 := hV.x.c2
  have y3 := hV.x.c3
  have y4 := hV.x.c4
  have yl := hV.x.lt
  go_wp2_with fail
  clear y0 y1 y2 y3 y4 yl
  have hbn := below_box (w := w3) (.cells #[.int .i64 RX.kind, .int .i64 RX.num, .string RX.text, .slice X RX.items.length kx, .slice X' RX.names.length kx'] 25)
  have hX : Vr (w3.alloc (.cells #[.int .i64 RX.kind, .int .i64 RX.num, .string RX.text, .slice X RX.items.length kx, .slice X' RX.names.length kx'] 25)) _ w3.heap.size RX X kx X' kx' := Vr.new (fun b hb => hb.2) hvx
  replace hV := hV.call hbn
  replace HB2 := Lib.hid (toStart HB2.out hbn)
  clear hbn hvx hb3
  generalize w3.alloc (.cells #[.int .i64 RX.kind, .int .i64 RX.num, .string RX.text, .slice X RX.items.length kx, .slice X' RX.names.length kx'] 25) = w4 at *
  have HG := Lib.hid (tid_any _ t _ w4 hV.s hV.v HD.out)
  refine HG.out.mono ?_
  rintro e w5 ⟨vi, rfl, hvi, hb5⟩
  obtain ⟨E, ke, E', ke', rfl, -⟩ := hvi.shape
  replace hV := hV.call hb5
  replace hX := hX.call hb5
  replace HB2 := Lib.hid (toStart HB2.out hb5)
  obtain ⟨RI, hRI⟩ : ∃ RX, RX = (tgotT t idP).getD (.mk 0 0 ⟨#[]⟩ [] []) := ⟨_, rfl⟩
  obtain ⟨OI, hOI⟩ : ∃ OX, OX = (tgotT t idP).isSome := ⟨_, rfl⟩
  rw [← hRI] at hvi ⊢
  rw [← hOI]
  have HRI := Lib.hid (And.intro hRI hOI)
  clear hRI hOI HG
  replace hvi := hvi.imp (S' := Iv w4.heap.size w5.heap.size) fun b hb => ⟨hb.1, hb.2⟩
  have y0 := hV.x.c0
  have y1 := hV.x.c1
  have y2 := hV.x.c2
  have y3 := hV.x.c3
  have y4 := hV.x.c4
  have yl := hV.x.lt
  go_wp2_with fail
  clear y0 y1 y2 y3 y4 yl
  have hbn := below_box (w := w5) (.cells #[.int .i64 RI.kind, .int .i64 RI.num, .string RI.text, .slice E RI.items.length ke, .slice E' RI.names.length ke'] 25)
  have hI : Vr (w5.alloc (.cells #[.int .i64 RI.kind, .int .i64 RI.num, .string RI.text, .slice E RI.items.length ke, .slice E' RI.names.length ke'] 25)) _ w5.heap.size RI E ke E' ke' := Vr.new (fun b hb => hb.2) hvi
  have hz6 : (w5.alloc (.cells #[.int .i64 RI.kind, .int .i64 RI.num, .string RI.text, .slice E RI.items.length ke, .slice E' RI.names.length ke'] 25)).heap.size = w5.heap.size + 1 := by simp
  replace hV := hV.call hbn
  replace hX := hX.call hbn
  replace HB2 := Lib.hid (toStart HB2.out hbn)
  clear hbn hvi hb5
  generalize w5.alloc (.cells #[.int .i64 RI.kind, .int .i64 RI.num, .string RI.text, .slice E RI.items.length ke, .slice E' RI.names.length ke'] 25) = w6 at *
  have sX6 := hX.s
  have lX6 := hX.x.lt
  have lV6 := hV.x.lt
  have sI6 := hI.s
  rw [hz6] at sX6 lX6 sI6 lV6
  have hO := zero_vr w6
  have hbn := below_box (w := w6) (.cells #[.int .i64 0, .int .i64 0, .string ⟨#[]⟩, .slice none 0 0, .slice none 0 0] 25)
  replace hV := hV.call hbn
  replace hX := hX.call hbn
  replace hI := hI.call hbn
  replace HB2 := Lib.hid (toStart HB2.out hbn)
  rw [hz6] at hO
  have hzw : (w6.alloc (.cells #[.int .i64 0, .int .i64 0, .string ⟨#[]⟩, .slice none 0 0, .slice none 0 0] 25)).heap.size = w5.heap.size + 2 := by simp [hz6]
  clear hbn
  generalize w6.alloc (.cells #[.int .i64 0, .int .i64 0, .string ⟨#[]⟩, .slice none 0 0, .slice none 0 0] 25) = w7 at *
  clear hz6
  generalize w5.heap.size = g5 at *
  have HG := Lib.hid (wrong_any (fun b => b < w.heap.size) t _ A c p w7 (fun b hb => Nat.lt_of_lt_of_le hb HB2.out.size) (hV.v.imp fun b hb => hb) (HP.out.keep (w' := w7) fun b hb => HB2.out.block b hb) hn2)
  refine HG.out.mono ?_
  rintro e w8 ⟨rfl, hb8⟩
  replace hV := hV.call hb8
  replace hX := hX.call hb8
  replace hI := hI.call hb8
  replace hO := hO.call hb8
  replace HB2 := Lib.hid (toStart HB2.out hb8)
  have hz8 := hb8.size
  clear hb8 HG
  obtain ⟨W0, hW0⟩ : ∃ W0, W0 = wrongT t p := ⟨_, rfl⟩
  rw [← hW0]
  have HW0 := Lib.hid hW0
  clear hW0
  by_cases h0 : W0 = 0
  rotate_left
  · have hbne : (W0 == 0) = false := beq_false_of_ne h0
    have htn : tgotT t p = none := by unfold tgotT; rw [if_neg (by rw [← HW0.out]; exact h0)]
    obtain rfl : OX = false := by rw [HRX.out.2, htn]; rfl
    obtain rfl : RX = zT := by rw [HRX.out.1, htn]; rfl
    clear htn h0
    have y0 := hV.x.c0
    have y1 := hV.x.c1
    have y2 := hV.x.c2
    have y3 := hV.x.c3
    have y4 := hV.x.c4
    have yl := hV.x.lt
    go_wp2_with fail
    clear y0 y1 y2 y3 y4 yl
    have sX := hX.s
    have lX := hX.x.lt
    have sI := hI.s
    have lI := hI.x.lt
    have sO := hO.s
    have lO := hO.x.lt
    have sV := hV.s
    have lV := hV.x.lt
    have hQ := zero_vr w8
    have hbn := below_box (w := w8) (.cells #[.int .i64 0, .int .i64 0, .string ⟨#[]⟩, .slice none 0 0, .slice none 0 0] 25)
    replace hV := hV.call hbn
    replace hX := hX.call hbn
    replace hI := hI.call hbn
    replace hO := hO.call hbn
    replace HB2 := Lib.hid (toStart HB2.out hbn)
    have hzq := hbn.size
    clear hbn
    generalize hgq : w8.heap.size = gq at *
    generalize w8.alloc (.cells #[.int .i64 0, .int .i64 0, .string ⟨#[]⟩, .slice none 0 0, .slice none 0 0] 25) = w11 at *
    have HG := Lib.hid (doc_any _ t _ w11 hV.s hV.v)
    refine HG.out.mono ?_
    rintro e w12 ⟨rfl, hb12⟩
    replace hV := hV.call hb12
    replace hX := hX.call hb12
    replace hI := hI.call hb12
    replace hO := hO.call hb12
    replace hQ := hQ.call hb12
    replace HB2 := Lib.hid (toStart HB2.out hb12)
    have hz12 := hb12.size
    have lQ := hQ.x.lt
    clear hb12 HG
    cases hdb : docB t with
    | false =>
      have htn : tgotT t idP = none := by rw [tgot_id, hdb]; rfl
      obtain rfl : OI = false := by rw [HRI.out.2, htn]; rfl
      obtain rfl : RI = zT := by rw [HRI.out.1, htn]; rfl
      clear htn hdb hV
      go_wp2_with fail
      refine (lives5_any w12).mono ?_
      rintro e w20 ⟨rfl, hb20⟩
      replace hX := hX.call hb20
      replace hO := hO.call hb20
      replace hI := hI.call hb20
      replace hQ := hQ.call hb20
      replace HB2 := Lib.hid (toStart HB2.out hb20)
      clear hb20
      have y0 := hX.x.c0
      have y1 := hX.x.c1
      have y2 := hX.x.c2
      have y3 := hX.x.c3
      have y4 := hX.x.c4
      have yl := hX.x.lt
      have z0 := hO.x.c0
      have z1 := hO.x.c1
      have z2 := hO.x.c2
      have z3 := hO.x.c3
      have z4 := hO.x.c4
      have zl := hO.x.lt
      have HS := Lib.hid (rsame_any (fun b => b < w20.heap.size) _ _ _ _ _ w20 (Nat.le_refl _) (fun _ h => h) (hX.v.imp hX.s) (hO.v.imp hO.s))
      go_wp2_with fail
      refine HS.out.mono ?_
      rintro e w21 ⟨⟨r, rfl, hr⟩, hb21⟩
      obtain rfl := hr.2 (by trivial)
      clear y0 y1 y2 y3 y4
      clear yl
      clear z0 z1 z2 z3 z4
      clear zl
      replace hI := hI.call hb21
      replace hQ := hQ.call hb21
      replace HB2 := Lib.hid (toStart HB2.out hb21)
      clear hb21 HS hr
      have y0 := hI.x.c0
      have y1 := hI.x.c1
      have y2 := hI.x.c2
      have y3 := hI.x.c3
      have y4 := hI.x.c4
      have yl := hI.x.lt
      have z0 := hQ.x.c0
      have z1 := hQ.x.c1
      have z2 := hQ.x.c2
      have z3 := hQ.x.c3
      have z4 := hQ.x.c4
      have zl := hQ.x.lt
      have HS := Lib.hid (rsame_any (fun b => b < w21.heap.size) _ _ _ _ _ w21 (Nat.le_refl _) (fun _ h => h) (hI.v.imp hI.s) (hQ.v.imp hQ.s))
      go_wp2_with fail
      refine HS.out.mono ?_
      rintro e w22 ⟨⟨r, rfl, hr⟩, hb22⟩
      obtain rfl := hr.2 (by trivial)
      clear y0 y1 y2 y3 y4
      clear yl
      clear z0 z1 z2 z3 z4
      clear zl
      replace HB2 := Lib.hid (toStart HB2.out hb22)
      clear hb22 HS hr
      go_wp2_with fail
      go_ret
      exact ⟨rfl, HB2.out⟩
    | true =>
      have hmt : mayT t = true := by
        unfold docB at hdb
        rw [Bool.and_eq_true] at hdb
        exact hdb.2
      have HM := Lib.hid hmt
      have HIDE : Hid (gotT t idP = RI ∧ okT t idP = OI) := Lib.hid (by
        have htn : tgotT t idP = getT t idP := by rw [tgot_id, hdb]; rfl
        rw [HRI.out.1, HRI.out.2, htn]; exact ⟨rfl, rfl⟩)
      clear hmt hdb
      have hgq0 : w.heap.size ≤ gq := by omega
      have y0 := hV.x.c0
      have y1 := hV.x.c1
      have y2 := hV.x.c2
      have y3 := hV.x.c3
      have y4 := hV.x.c4
      have yl := hV.x.lt
      go_wp2_with fail
      clear y0 y1 y2 y3 y4 yl
      have hba := below_box (w := w12) (.cells #[.string ⟨#[95, 105, 100]⟩] 9)
      have hna := heap_alloc_new w12 (.cells #[.string ⟨#[95, 105, 100]⟩] 9)
      replace hV := hV.call hba
      replace hX := hX.call hba
      replace hI := hI.call hba
      replace hO := hO.call hba
      replace hQ := hQ.call hba
      replace HB2 := Lib.hid (toStart HB2.out hba)
      have hza := hba.size
      have hzaa : (w12.alloc (.cells #[.string ⟨#[95, 105, 100]⟩] 9)).heap.size = w12.heap.size + 1 := by simp
      clear hba
      generalize w12.alloc (.cells #[.string ⟨#[95, 105, 100]⟩] 9) = wa at *
      have HG := Lib.hid (rget_any (fun b => b < w.heap.size ∨ b = w12.heap.size) t _ (some ⟨w12.heap.size, 0, none⟩) 1 idP wa (fun b h => by have := HB2.out.size; omega) (hV.v.imp fun b h => .inl h) HM.out ((strs_one hna (by simp [idP]; decide)).imp fun b h => .inr h) (by decide))
      refine HG.out.mono ?_
      rintro e w13 ⟨vg, rfl, hvg, hb13⟩
      obtain ⟨G, kg, G', kg', rfl, -⟩ := hvg.shape
      obtain ⟨e1, e2⟩ := HIDE.out
      rw [e1] at hvg ⊢
      rw [e2]
      clear e1 e2 HG
      replace hV := hV.call hb13
      replace hX := hX.call hb13
      replace hI := hI.call hb13
      replace hO := hO.call hb13
      replace hQ := hQ.call hb13
      replace HB2 := Lib.hid (toStart HB2.out hb13)
      have hz13 := hb13.size
      have r0 := hQ.x.c0
      have r1 := hQ.x.c1
      have r2 := hQ.x.c2
      have r3 := hQ.x.c3
      have r4 := hQ.x.c4
      have rf := fun i => hQ.x.free i
      have rl := hQ.x.lt
      have hr5 := five_rest w13 gq 0 (.int .i64 RI.kind) (.int .i64 RI.num) (.string RI.text) (.slice G RI.items.length kg) (.slice G' RI.names.length kg')
      have hk5 := five_other w13 gq 0 (.int .i64 RI.kind) (.int .i64 RI.num) (.string RI.text) (.slice G RI.items.length kg) (.slice G' RI.names.length kg')
      have hz5 := five_size w13 gq 0 (.int .i64 RI.kind) (.int .i64 RI.num) (.string RI.text) (.slice G RI.items.length kg) (.slice G' RI.names.length kg')
      have HB5 : Hid (Below w.heap.size w (five w13 gq 0 (.int .i64 RI.kind) (.int .i64 RI.num) (.string RI.text) (.slice G RI.items.length kg) (.slice G' RI.names.length kg'))) := Lib.hid ⟨hr5.1.trans HB2.out.os, hr5.2.1.trans HB2.out.tape, hr5.2.2.trans HB2.out.output, by rw [hz5]; exact HB2.out.size, fun b hb => (hk5 b (by omega)).trans (HB2.out.block b hb)⟩
      have nhQ := Vr.put hQ hvg (fun b hb => by have := HB2.out.size; omega) (by omega)
      have nhX := Vr.far (c0 := .int .i64 RI.kind) (c1 := .int .i64 RI.num) (c2 := .string RI.text) (c3 := .slice G RI.items.length kg) (c4 := .slice G' RI.names.length kg') (p := gq) hX (by omega) (by intro b hb; have := sX b hb; omega)
      have nhI := Vr.far (c0 := .int .i64 RI.kind) (c1 := .int .i64 RI.num) (c2 := .string RI.text) (c3 := .slice G RI.items.length kg) (c4 := .slice G' RI.names.length kg') (p := gq) hI (by omega) (by intro b hb; have := sI b hb; omega)
      have nhO := Vr.far (c0 := .int .i64 RI.kind) (c1 := .int .i64 RI.num) (c2 := .string RI.text) (c3 := .slice G RI.items.length kg) (c4 := .slice G' RI.names.length kg') (p := gq) hO (by omega) (by intro b hb; have := sO b hb; omega)
      have XhX := Lib.hid nhX
      have XhI := Lib.hid nhI
      have XhO := Lib.hid nhO
      have XhQ := Lib.hid nhQ
      clear hr5 hk5 hz5 hvg HB2 nhX hX nhI hI nhO hO nhQ hQ
      go_wp2_with fail
      clear r0 r1 r2 r3 r4 rf rl
      have HB2 := HB5
      clear HB5
      have hX := XhX.out
      clear XhX
      have hI := XhI.out
      clear XhI
      have hO := XhO.out
      clear XhO
      have hQ := XhQ.out
      clear XhQ
      change Calls Try.prog 9 #[] (five w13 gq 0 (.int .i64 RI.kind) (.int .i64 RI.num) (.string RI.text) (.slice G RI.items.length kg) (.slice G' RI.names.length kg')) _
      generalize five w13 gq 0 (.int .i64 RI.kind) (.int .i64 RI.num) (.string RI.text) (.slice G RI.items.length kg) (.slice G' RI.names.length kg') = w14 at *
      refine (lives5_any w14).mono ?_
      rintro e w20 ⟨rfl, hb20⟩
      replace hX := hX.call hb20
      replace hO := hO.call hb20
      replace hI := hI.call hb20
      replace hQ := hQ.call hb20
      replace HB2 := Lib.hid (toStart HB2.out hb20)
      clear hb20
      have y0 := hX.x.c0
      have y1 := hX.x.c1
      have y2 := hX.x.c2
      have y3 := hX.x.c3
      have y4 := hX.x.c4
      have yl := hX.x.lt
      have z0 := hO.x.c0
      have z1 := hO.x.c1
      have z2 := hO.x.c2
      have z3 := hO.x.c3
      have z4 := hO.x.c4
      have zl := hO.x.lt
      have HS := Lib.hid (rsame_any (fun b => b < w20.heap.size) _ _ _ _ _ w20 (Nat.le_refl _) (fun _ h => h) (hX.v.imp hX.s) (hO.v.imp hO.s))
      go_wp2_with fail
      refine HS.out.mono ?_
      rintro e w21 ⟨⟨r, rfl, hr⟩, hb21⟩
      obtain rfl := hr.2 (by trivial)
      clear y0 y1 y2 y3 y4
      clear yl
      clear z0 z1 z2 z3 z4
      clear zl
      replace hI := hI.call hb21
      replace hQ := hQ.call hb21
      replace HB2 := Lib.hid (toStart HB2.out hb21)
      clear hb21 HS hr
      have y0 := hI.x.c0
      have y1 := hI.x.c1
      have y2 := hI.x.c2
      have y3 := hI.x.c3
      have y4 := hI.x.c4
      have yl := hI.x.lt
      have z0 := hQ.x.c0
      have z1 := hQ.x.c1
      have z2 := hQ.x.c2
      have z3 := hQ.x.c3
      have z4 := hQ.x.c4
      have zl := hQ.x.lt
      have HS := Lib.hid (rsame_any (fun b => b < w21.heap.size) _ _ _ _ _ w21 (Nat.le_refl _) (fun _ h => h) (hI.v.imp hI.s) (hQ.v.imp hQ.s))
      go_wp2_with fail
      refine HS.out.mono ?_
      rintro e w22 ⟨⟨r, rfl, hr⟩, hb22⟩
      obtain rfl := hr.2 (by trivial)
      clear y0 y1 y2 y3 y4
      clear yl
      clear z0 z1 z2 z3 z4
      clear zl
      replace HB2 := Lib.hid (toStart HB2.out hb22)
      clear hb22 HS hr
      go_wp2_with fail
      go_ret
      exact ⟨rfl, HB2.out⟩
  subst h0
  obtain ⟨hm, h7, hmp⟩ := wrong_zero HW0.out
  have HM := Lib.hid hm
  have HDB : Hid (docB t = true) := Lib.hid (by unfold docB; rw [hm, h7]; rfl)
  have HEQ : Hid (gotT t p = RX ∧ okT t p = OX) := Lib.hid (by
    have htn : tgotT t p = getT t p := by unfold tgotT; rw [if_pos HW0.out.symm]
    rw [HRX.out.1, HRX.out.2, htn]; exact ⟨rfl, rfl⟩)
  clear hm h7 hmp
  have y0 := hV.x.c0
  have y1 := hV.x.c1
  have y2 := hV.x.c2
  have y3 := hV.x.c3
  have y4 := hV.x.c4
  have yl := hV.x.lt
  go_wp2_with fail
  clear y0 y1 y2 y3 y4 yl
  have HG := Lib.hid (rget_any (fun b => b < w.heap.size) t _ A c p w8 (fun b hb => Nat.lt_of_lt_of_le hb HB2.out.size) hV.v HM.out (HP.out.keep (w' := w8) fun b hb => HB2.out.block b hb) hn2)
  refine HG.out.mono ?_
  rintro e w9 ⟨vg, rfl, hvg, hb9⟩
  obtain ⟨G, kg, G', kg', rfl, -⟩ := hvg.shape
  obtain ⟨e1, e2⟩ := HEQ.out
  rw [e1] at hvg ⊢
  rw [e2]
  clear e1 e2 HG
  replace hV := hV.call hb9
  replace hX := hX.call hb9
  replace hI := hI.call hb9
  replace hO := hO.call hb9
  replace hvg : LV w9 (fun b => b < w.heap.size) RX (agg5 RX G kg G' kg') := hvg
  replace HB2 := Lib.hid (toStart HB2.out hb9)
  have hz9 := hb9.size
  clear hb9
  have r0 := hO.x.c0
  have r1 := hO.x.c1
  have r2 := hO.x.c2
  have r3 := hO.x.c3
  have r4 := hO.x.c4
  have rf := fun i => hO.x.free i
  have rl := hO.x.lt
  have hr5 := five_rest w9 (g5 + 1) 0 (.int .i64 RX.kind) (.int .i64 RX.num) (.string RX.text) (.slice G RX.items.length kg) (.slice G' RX.names.length kg')
  have hk5 := five_other w9 (g5 + 1) 0 (.int .i64 RX.kind) (.int .i64 RX.num) (.string RX.text) (.slice G RX.items.length kg) (.slice G' RX.names.length kg')
  have hz5 := five_size w9 (g5 + 1) 0 (.int .i64 RX.kind) (.int .i64 RX.num) (.string RX.text) (.slice G RX.items.length kg) (.slice G' RX.names.length kg')
  have HB5 : Hid (Below w.heap.size w (five w9 (g5 + 1) 0 (.int .i64 RX.kind) (.int .i64 RX.num) (.string RX.text) (.slice G RX.items.length kg) (.slice G' RX.names.length kg'))) := Lib.hid ⟨hr5.1.trans HB2.out.os, hr5.2.1.trans HB2.out.tape, hr5.2.2.trans HB2.out.output, by rw [hz5]; exact HB2.out.size, fun b hb => (hk5 b (by omega)).trans (HB2.out.block b hb)⟩
  have nhO := Vr.put hO hvg (fun b hb => by have : b < w.heap.size := hb; have := HB2.out.size; omega) (by omega)
  have nhX := Vr.far (c0 := .int .i64 RX.kind) (c1 := .int .i64 RX.num) (c2 := .string RX.text) (c3 := .slice G RX.items.length kg) (c4 := .slice G' RX.names.length kg') (p := (g5 + 1)) hX (by omega) (by intro b hb; have := sX6 b hb; omega)
  have nhI := Vr.far (c0 := .int .i64 RX.kind) (c1 := .int .i64 RX.num) (c2 := .string RX.text) (c3 := .slice G RX.items.length kg) (c4 := .slice G' RX.names.length kg') (p := (g5 + 1)) hI (by omega) (by intro b hb; have := hb.2; omega)
  have nhV := Vr.far (c0 := .int .i64 RX.kind) (c1 := .int .i64 RX.num) (c2 := .string RX.text) (c3 := .slice G RX.items.length kg) (c4 := .slice G' RX.names.length kg') (p := (g5 + 1)) hV (by omega) (by intro b hb; have : b < w.heap.size := hb; omega)
  have XhX := Lib.hid nhX
  have XhI := Lib.hid nhI
  have XhV := Lib.hid nhV
  have XhO := Lib.hid nhO
  clear hr5 hk5 hz5 hvg HB2 nhX hX nhI hI nhV hV nhO hO
  have y0 := XhV.out.x.c0
  have y1 := XhV.out.x.c1
  have y2 := XhV.out.x.c2
  have y3 := XhV.out.x.c3
  have y4 := XhV.out.x.c4
  have yl := XhV.out.x.lt
  simp only [five, Nat.zero_add, World.size_setCell] at y0 y1 y2 y3 y4 yl
  go_wp2_with fail
  clear r0 r1 r2 r3 r4 rf rl
  have HB2 := HB5
  clear HB5
  have hX := XhX.out
  clear XhX
  have hI := XhI.out
  clear XhI
  have hV := XhV.out
  clear XhV
  have hO := XhO.out
  clear XhO
  clear y0 y1 y2 y3 y4 yl
  change Calls Try.prog 14 _ ((five w9 (g5 + 1) 0 (.int .i64 RX.kind) (.int .i64 RX.num) (.string RX.text) (.slice G RX.items.length kg) (.slice G' RX.names.length kg')).alloc (.cells #[.int .i64 0, .int .i64 0, .string ⟨#[]⟩, .slice none 0 0, .slice none 0 0] 25)) _
  have hz10 : (five w9 (g5 + 1) 0 (.int .i64 RX.kind) (.int .i64 RX.num) (.string RX.text) (.slice G RX.items.length kg) (.slice G' RX.names.length kg')).heap.size = w9.heap.size := five_size _ _ _ _ _ _ _ _
  generalize five w9 (g5 + 1) 0 (.int .i64 RX.kind) (.int .i64 RX.num) (.string RX.text) (.slice G RX.items.length kg) (.slice G' RX.names.length kg') = w10 at *
  have sX := hX.s
  have lX := hX.x.lt
  have sI := hI.s
  have lI := hI.x.lt
  have sO := hO.s
  have lO := hO.x.lt
  have sV := hV.s
  have lV := hV.x.lt
  have hQ := zero_vr w10
  have hbn := below_box (w := w10) (.cells #[.int .i64 0, .int .i64 0, .string ⟨#[]⟩, .slice none 0 0, .slice none 0 0] 25)
  replace hV := hV.call hbn
  replace hX := hX.call hbn
  replace hI := hI.call hbn
  replace hO := hO.call hbn
  replace HB2 := Lib.hid (toStart HB2.out hbn)
  have hzq := hbn.size
  clear hbn
  rw [hz10] at sX lX sI lI sO lO sV lV hQ hzq
  generalize w10.alloc (.cells #[.int .i64 0, .int .i64 0, .string ⟨#[]⟩, .slice none 0 0, .slice none 0 0] 25) = w11 at *
  generalize hgq : w9.heap.size = gq at *
  have HG := Lib.hid (doc_any _ t _ w11 hV.s hV.v)
  refine HG.out.mono ?_
  rintro e w12 ⟨rfl, hb12⟩
  rw [HDB.out]
  replace hV := hV.call hb12
  replace hX := hX.call hb12
  replace hI := hI.call hb12
  replace hO := hO.call hb12
  replace hQ := hQ.call hb12
  replace HB2 := Lib.hid (toStart HB2.out hb12)
  have hz12 := hb12.size
  have lQ := hQ.x.lt
  clear hb12 HG
  have HIDE : Hid (gotT t idP = RI ∧ okT t idP = OI) := Lib.hid (by
    have htn : tgotT t idP = getT t idP := by rw [tgot_id, HDB.out]; rfl
    rw [HRI.out.1, HRI.out.2, htn]; exact ⟨rfl, rfl⟩)
  have hgq0 : w.heap.size ≤ gq := by omega
  have y0 := hV.x.c0
  have y1 := hV.x.c1
  have y2 := hV.x.c2
  have y3 := hV.x.c3
  have y4 := hV.x.c4
  have yl := hV.x.lt
  go_wp2_with fail
  clear y0 y1 y2 y3 y4 yl
  have hba := below_box (w := w12) (.cells #[.string ⟨#[95, 105, 100]⟩] 9)
  have hna := heap_alloc_new w12 (.cells #[.string ⟨#[95, 105, 100]⟩] 9)
  replace hV := hV.call hba
  replace hX := hX.call hba
  replace hI := hI.call hba
  replace hO := hO.call hba
  replace hQ := hQ.call hba
  replace HB2 := Lib.hid (toStart HB2.out hba)
  have hza := hba.size
  have hzaa : (w12.alloc (.cells #[.string ⟨#[95, 105, 100]⟩] 9)).heap.size = w12.heap.size + 1 := by simp
  clear hba
  generalize w12.alloc (.cells #[.string ⟨#[95, 105, 100]⟩] 9) = wa at *
  have HG := Lib.hid (rget_any (fun b => b < w.heap.size ∨ b = w12.heap.size) t _ (some ⟨w12.heap.size, 0, none⟩) 1 idP wa (fun b h => by have := HB2.out.size; omega) (hV.v.imp fun b h => .inl h) HM.out ((strs_one hna (by simp [idP]; decide)).imp fun b h => .inr h) (by decide))
  refine HG.out.mono ?_
  rintro e w13 ⟨vg, rfl, hvg, hb13⟩
  obtain ⟨G, kg, G', kg', rfl, -⟩ := hvg.shape
  obtain ⟨e1, e2⟩ := HIDE.out
  rw [e1] at hvg ⊢
  rw [e2]
  clear e1 e2 HG
  replace hV := hV.call hb13
  replace hX := hX.call hb13
  replace hI := hI.call hb13
  replace hO := hO.call hb13
  replace hQ := hQ.call hb13
  replace HB2 := Lib.hid (toStart HB2.out hb13)
  have hz13 := hb13.size
  have r0 := hQ.x.c0
  have r1 := hQ.x.c1
  have r2 := hQ.x.c2
  have r3 := hQ.x.c3
  have r4 := hQ.x.c4
  have rf := fun i => hQ.x.free i
  have rl := hQ.x.lt
  have hr5 := five_rest w13 gq 0 (.int .i64 RI.kind) (.int .i64 RI.num) (.string RI.text) (.slice G RI.items.length kg) (.slice G' RI.names.length kg')
  have hk5 := five_other w13 gq 0 (.int .i64 RI.kind) (.int .i64 RI.num) (.string RI.text) (.slice G RI.items.length kg) (.slice G' RI.names.length kg')
  have hz5 := five_size w13 gq 0 (.int .i64 RI.kind) (.int .i64 RI.num) (.string RI.text) (.slice G RI.items.length kg) (.slice G' RI.names.length kg')
  have HB5 : Hid (Below w.heap.size w (five w13 gq 0 (.int .i64 RI.kind) (.int .i64 RI.num) (.string RI.text) (.slice G RI.items.length kg) (.slice G' RI.names.length kg'))) := Lib.hid ⟨hr5.1.trans HB2.out.os, hr5.2.1.trans HB2.out.tape, hr5.2.2.trans HB2.out.output, by rw [hz5]; exact HB2.out.size, fun b hb => (hk5 b (by omega)).trans (HB2.out.block b hb)⟩
  have nhQ := Vr.put hQ hvg (fun b hb => by have := HB2.out.size; omega) (by omega)
  have nhX := Vr.far (c0 := .int .i64 RI.kind) (c1 := .int .i64 RI.num) (c2 := .string RI.text) (c3 := .slice G RI.items.length kg) (c4 := .slice G' RI.names.length kg') (p := gq) hX (by omega) (by intro b hb; have := sX b hb; omega)
  have nhI := Vr.far (c0 := .int .i64 RI.kind) (c1 := .int .i64 RI.num) (c2 := .string RI.text) (c3 := .slice G RI.items.length kg) (c4 := .slice G' RI.names.length kg') (p := gq) hI (by omega) (by intro b hb; have := sI b hb; omega)
  have nhO := Vr.far (c0 := .int .i64 RI.kind) (c1 := .int .i64 RI.num) (c2 := .string RI.text) (c3 := .slice G RI.items.length kg) (c4 := .slice G' RI.names.length kg') (p := gq) hO (by omega) (by intro b hb; have := sO b hb; omega)
  have XhX := Lib.hid nhX
  have XhI := Lib.hid nhI
  have XhO := Lib.hid nhO
  have XhQ := Lib.hid nhQ
  clear hr5 hk5 hz5 hvg HB2 nhX hX nhI hI nhO hO nhQ hQ
  go_wp2_with fail
  clear r0 r1 r2 r3 r4 rf rl
  have HB2 := HB5
  clear HB5
  have hX := XhX.out
  clear XhX
  have hI := XhI.out
  clear XhI
  have hO := XhO.out
  clear XhO
  have hQ := XhQ.out
  clear XhQ
  change Calls Try.prog 9 #[] (five w13 gq 0 (.int .i64 RI.kind) (.int .i64 RI.num) (.string RI.text) (.slice G RI.items.length kg) (.slice G' RI.names.length kg')) _
  generalize five w13 gq 0 (.int .i64 RI.kind) (.int .i64 RI.num) (.string RI.text) (.slice G RI.items.length kg) (.slice G' RI.names.length kg') = w14 at *
  refine (lives5_any w14).mono ?_
  rintro e w20 ⟨rfl, hb20⟩
  replace hX := hX.call hb20
  replace hO := hO.call hb20
  replace hI := hI.call hb20
  replace hQ := hQ.call hb20
  replace HB2 := Lib.hid (toStart HB2.out hb20)
  clear hb20
  have y0 := hX.x.c0
  have y1 := hX.x.c1
  have y2 := hX.x.c2
  have y3 := hX.x.c3
  have y4 := hX.x.c4
  have yl := hX.x.lt
  have z0 := hO.x.c0
  have z1 := hO.x.c1
  have z2 := hO.x.c2
  have z3 := hO.x.c3
  have z4 := hO.x.c4
  have zl := hO.x.lt
  have HS := Lib.hid (rsame_any (fun b => b < w20.heap.size) _ _ _ _ _ w20 (Nat.le_refl _) (fun _ h => h) (hX.v.imp hX.s) (hO.v.imp hO.s))
  go_wp2_with fail
  refine HS.out.mono ?_
  rintro e w21 ⟨⟨r, rfl, hr⟩, hb21⟩
  obtain rfl := hr.2 (by trivial)
  clear y0 y1 y2 y3 y4
  clear yl
  clear z0 z1 z2 z3 z4
  clear zl
  replace hI := hI.call hb21
  replace hQ := hQ.call hb21
  replace HB2 := Lib.hid (toStart HB2.out hb21)
  clear hb21 HS hr
  have y0 := hI.x.c0
  have y1 := hI.x.c1
  have y2 := hI.x.c2
  have y3 := hI.x.c3
  have y4 := hI.x.c4
  have yl := hI.x.lt
  have z0 := hQ.x.c0
  have z1 := hQ.x.c1
  have z2 := hQ.x.c2
  have z3 := hQ.x.c3
  have z4 := hQ.x.c4
  have zl := hQ.x.lt
  have HS := Lib.hid (rsame_any (fun b => b < w21.heap.size) _ _ _ _ _ w21 (Nat.le_refl _) (fun _ h => h) (hI.v.imp hI.s) (hQ.v.imp hQ.s))
  go_wp2_with fail
  refine HS.out.mono ?_
  rintro e w22 ⟨⟨r, rfl, hr⟩, hb22⟩
  obtain rfl := hr.2 (by trivial)
  clear y0 y1 y2 y3 y4
  clear yl
  clear z0 z1 z2 z3 z4
  clear zl
  replace HB2 := Lib.hid (toStart HB2.out hb22)
  clear hb22 HS hr
  go_wp2_with fail
  go_ret
  exact ⟨rfl, HB2.out⟩
set_option maxRecDepth 100000 in
theorem lifted (os : Os) (started : os.Started) (H : Type) (enc : TypeId × Value → H) :
    ReturnsInHanded {} Try.checked os 3 .any (Rows.treeGetsSpec.pre6 enc Try.prog Try.f3 Rows.treeGetsRow.domain false) (Rows.treeGetsSpec.post enc Try.prog Try.f3 false true false false) := by
  refine returnsInHanded_of_change_sized (C := Try.checked) own started (by kernel_rfl) Try.func3
    (ChangeSpec.witness6 (enc := enc) (C := Try.checked) false ⟨#[], #[.agg #[.int .i64 0, .int .i64 0, .string ByteArray.empty, .slice none 0 0, .slice none 0 0], .slice none 0 0], []⟩ 8 (by kernel_rfl) (by kernel_rfl) (by kernel_rfl) (by kernel_rfl)) ?_
  intro W base args ds gs before hval0 hW hcnd hsz0 _
  have hval : ∀ (j : Nat) t v, Try.f3.params[j]? = some t → args[j]? = some v → Value.okWide Try.prog W .any base t v := hval0
  have hsz : (DataW.weightsEach Try.prog (Try.f3.params.toList ++ Rows.treeGetsSpec.plain.varTypes Try.prog) (ds ++ gs)).all (· ≤ reachBytes) = true := hsz0
  have hW' := hW
  obtain ⟨p, q, hA0, hV, rfl, hfz, hnd⟩ := hW
  have hA : DataW.TrodAll enc Try.prog W 0 (fun _ => true) true Try.f3.params.toList args.toList ds p := hA0
  rw [Try.params3] at hA hval hsz
  obtain ⟨v0, v1, d0, d1, p0, p1, rfl, rfl, rfl, h0, h1⟩ := trodAll_two hA
  obtain ⟨rfl, rfl⟩ := trodVars_none hV
  obtain ⟨a0, rfl, -⟩ := okWide_struct Try.underlying25 (hval 0 25 v0 rfl rfl)
  have k0 := h0
  have lt0 : ∀ x ∈ p0, x.block < W.heap.size := by obtain ⟨m, hm⟩ := k0; exact DataW.trod_lt m _ _ _ hm
  have wt0 : ∀ n ∈ d0.weights Try.prog 25, n ≤ reachBytes := fun n hn => by have := List.all_eq_true.1 hsz n (DataW.weights_mem_each (j := 0) rfl rfl n hn); simpa using this
  obtain ⟨A1, n1, c1, rfl⟩ := okWide_slice Try.underlying23 (hval 1 23 v1 rfl rfl)
  have k1 := h1
  have lt1 : ∀ x ∈ p1, x.block < W.heap.size := by obtain ⟨m, hm⟩ := k1; exact DataW.trod_lt m _ _ _ hm
  have wt1 : ∀ n ∈ d1.weights Try.prog 23, n ≤ reachBytes := fun n hn => by have := List.all_eq_true.1 hsz n (DataW.weights_mem_each (j := 1) rfl rfl n hn); simpa using this
  clear hA0 hval0
  obtain ⟨t0, ht0⟩ : ∃ t, LV W (fun b => b < W.heap.size) t (.agg a0) := by
    obtain ⟨m, hm⟩ := k0
    have h3 := open_val m _ _ hm wt0
    simpa [Value.cells] using h3
  obtain ⟨ys1, hn1, hc1, ho1, hy1, hz1⟩ : ∃ ys : List ByteArray, n1 = ys.length ∧ ys.length ≤ c1 ∧ c1 ≤ 9223372036854775807 ∧ ys.length ≤ 8796093021952 ∧ StrsAt W (fun b => b < W.heap.size) A1 ys := by
    obtain ⟨m, hm⟩ := k1
    obtain ⟨B, e, ys, he, g0, g00, g1, g2⟩ := open_names3 hm wt1
    have he' : [Value.slice A1 n1 c1] = [Value.slice B ys.length e] := he
    simp only [List.cons.injEq, Value.slice.injEq, and_true] at he'
    obtain ⟨rfl, rfl, rfl⟩ := he'
    exact ⟨ys, rfl, g0, g00, g1, g2⟩
  subst hn1
  refine (walk t0 (.agg a0) A1 c1 ys1 W ht0 hz1 hc1 ho1 hy1).mono fun e W' ⟨he, bel⟩ => ?_
  subst he
  exact ⟨_, rfl, _, _, _, [], _, [], hW', trodAll_mk1 (shut_bool Try.underlying4 _), trodAll_mk2 (Below.trod laidOut (by kernel_rfl) (of_decide_eq_true (by kernel_rfl)) k0 bel lt0) (Below.trod laidOut (by kernel_rfl) (of_decide_eq_true (by kernel_rfl)) k1 bel lt1), rfl, bel.frame _, fun h => by cases h⟩

/-- The statement. -/
theorem proved : Rows.TreeGetsSaid :=
  OpenClaim.holds_of_wide 3 Try.f3 rfl rfl rfl rfl rfl rfl rfl ⟨rfl, rfl, rfl, rfl, rfl⟩ rfl rfl rfl rfl rfl (by kernel_rfl) Try.func3 (by kernel_rfl)
    (of_decide_eq_true (by kernel_rfl)) (by unfold Func.isWrapper; first | (rw [if_pos (by decide +kernel)]; kernel_rfl) | (rw [if_neg (by decide +kernel)]; exact ⟨rfl, rfl⟩))
    (fun os started H enc _ => lifted os started H enc)

end Go.Proofs.Ytlddhpjokiphfaa.TGets
