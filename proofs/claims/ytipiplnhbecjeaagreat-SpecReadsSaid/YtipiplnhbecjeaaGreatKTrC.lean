/- What is refused ahead of all else; the document's own step and get. -/
import Derived.Test.YtipiplnhbecjeaaGreatKTrA
import Derived.Test.YtipiplnhbecjeaaGreatKRefT
import Derived.Test.YtipiplnhbecjeaaGreatKFive
namespace Go.Proofs.YtipiplnhbecjeaaGreat
set_option linter.unusedVariables false
set_option linter.unusedSimpArgs false
open Go.RowKit
def docB (t : VT) : Bool := decide (t.kind = 7) && mayT t
/-- What is refused ahead of all else. -/
def wrongT (t : VT) (p : List ByteArray) : Int := if docB t = false then 20 else if mayP p = false then 40 else 0
end Go.Proofs.YtipiplnhbecjeaaGreat

/- The document's own step and get. -/
namespace Go.Proofs.YtipiplnhbecjeaaGreat
set_option linter.unusedVariables false
set_option linter.unusedSimpArgs false
open Go.RowKit
set_option maxHeartbeats 2000000 in
set_option maxRecDepth 100000 in
theorem place_any (S : Nat → Prop) (t : VT) (v : Value) (s : ByteArray) (w : World) (hS : ∀ b, S b → b < w.heap.size) (h : LV w S t v) (hs : s.size ≤ 140737488351232) :
    Calls Tryz.prog 73 #[v, .string s] w fun e w' => e = .returned (.int .i64 (placeT t s)) ∧ Below w.heap.size w w' := by
  obtain ⟨A0, c0, A0', c0', rfl, hl, -, hst, v1, hb0⟩ := one_var hS h
  have P := Lib.hid v1
  have HB := Lib.hid hb0
  have HST := Lib.hid hst
  obtain ⟨R, hR⟩ : ∃ R, R = placeT t s := ⟨_, rfl⟩
  rw [← hR]
  obtain ⟨k, hk⟩ : ∃ k, k = t.kind := ⟨_, rfl⟩
  have q0 := v1.x.c0
  have q3 := v1.x.c3
  have q4 := v1.x.c4
  rw [← hk] at q0 q3 q4
  have HK := Lib.hid hk
  have HP := Lib.hid hR
  have hb1 := hb0
  rw [← hk] at hb1
  have HB1 := Lib.hid hb1
  have hl1 := hl.1
  have hl2 := hl.2
  clear h v1 hb0 hk hR hst hb1
  go_enter Tryz.func73, Tryz.ntmps73
  have hk' := HK.out
  rw [← hk']
  clear hk'
  by_cases h6 : k = 6
  · subst h6
    go_wp2_with fail
    refine (rindex_any s _ hs).mono ?_
    rintro e w1 ⟨rfl, rfl⟩
    by_cases hlt : idxI s.data.toList < (t.items.length : Int)
    · have hlt2 : decide (idxI s.data.toList < (t.items.length : Int)) = true := decide_eq_true hlt
      go_wp2_with fail
      go_ret
      refine ⟨?_, HB1.out⟩
      rw [HP.out, placeT_arr HK.out.symm, if_pos hlt]; rfl
    · have hlt2 : decide (idxI s.data.toList < (t.items.length : Int)) = false := decide_eq_false hlt
      go_wp2_with fail
      go_ret
      refine ⟨?_, HB1.out⟩
      rw [HP.out, placeT_arr HK.out.symm, if_neg (by omega)]; rfl
  have b6 := beq_false_of_ne h6
  by_cases h7 : k = 7
  rotate_left
  · have b7 := beq_false_of_ne h7
    go_wp2_with fail
    go_ret
    refine ⟨?_, HB1.out⟩
    rw [HP.out, placeT_else (fun h => h7 (HK.out.trans h)) (fun h => h6 (HK.out.trans h))]; rfl
  subst h7
  go_wp2_with fail
  generalize hW : w.alloc (.cells #[.int .i64 7, .int .i64 t.num, .string t.text, .slice A0 t.items.length c0, .slice A0' t.names.length c0'] 25) = w1 at *
  go_loopw [6] (fun i wr => ∃ j : Nat, i = .int .i64 j ∧ j ≤ t.names.length ∧ wr = w1 ∧ Hid (∀ i (h : i < t.names.length), i < j → t.names[i] ≠ s)) (fun i _ => t.names.length - (intOf i).toNat)
  case atStart => exact ⟨0, rfl, by omega, rfl, fun j _ h => absurd h (by omega)⟩
  case round =>
    obtain ⟨j, rfl, hj, rfl, HJ⟩ := hrel
    by_cases hlt : j < t.names.length
    · obtain ⟨p, o, rfl, hp, hc⟩ := HST.out (by omega)
      have hck : wr.cell? ⟨p, o + j, none⟩ = some (.string t.names[j]) := (HB1.out.cell (p := ⟨p, o + j, none⟩) (hS p hp)).trans (hc j hlt).1
      clear hc
      by_cases hb : t.names[j] = s
      · have hb2 : (t.names[j].toList == s.toList) = true := by rw [str_beq]; exact decide_eq_true hb
        have HE := Lib.hid hb
        clear hb
        go_wp2_with fail
        go_ret
        refine ⟨?_, HB1.out⟩
        rw [HP.out, placeT_doc HK.out.symm, nmI_hit (k := 0) hlt HE.out (fun i hi hij => HJ.out i hi hij)]
        simp
      · have hb2 : (t.names[j].toList == s.toList) = false := by rw [str_beq]; exact decide_eq_false hb
        have HE := Lib.hid hb
        clear hb
        go_wp2_with fail
        go_roundw
        case rel => exact ⟨j + 1, by go_num, by omega, trivial, fun i h hij => by
          by_cases e : i = j
          · subst e; exact HE.out
          · exact HJ.out i h (by omega)⟩
        case measure => simp [intOf]; omega
    · go_wp2_with fail
      go_ret
      refine ⟨?_, HB1.out⟩
      rw [HP.out, placeT_doc HK.out.symm, nmI_miss fun i h => HJ.out i h (by omega)]; rfl
theorem mayL_get : ∀ {l : List VT}, mayL l = true → ∀ j (hj : j < l.length), mayT l[j] = true
  | a :: r, h, 0, _ => by unfold mayL at h; rw [Bool.and_eq_true] at h; exact h.1
  | a :: r, h, j + 1, hj => by
    unfold mayL at h
    rw [Bool.and_eq_true] at h
    exact mayL_get h.2 j (by simpa using hj)
theorem may_nl {t : VT} (h : mayT t = true) (hk : t.kind = 7) : t.names.length ≤ t.items.length := by
  cases t with
  | mk k i s l ns =>
    have h1 := (may_names h).1 hk
    simp only [VT.names, VT.items]
    omega
theorem may_item {t : VT} (h : mayT t = true) {j : Nat} (hj : j < t.items.length) : mayT t.items[j] = true := by
  cases t with
  | mk k i s l ns => exact mayL_get (may_names h).2.2 j hj
def okT (t : VT) (p : List ByteArray) : Bool := (getT t p).isSome
def gotT (t : VT) (p : List ByteArray) : VT := (getT t p).getD (.mk 0 0 ⟨#[]⟩ [] [])
theorem getT_neg {t : VT} {s : ByteArray} {r : List ByteArray} (h : placeT t s < 0) : getT t (s :: r) = none := by unfold getT; rw [if_pos h]
theorem getT_pos {t : VT} {s : ByteArray} {r : List ByteArray} (h : 0 ≤ placeT t s) (hj : (placeT t s).toNat < t.items.length) : getT t (s :: r) = getT (t.items[(placeT t s).toNat]) r := by
  conv => lhs; unfold getT
  rw [if_neg (by omega), List.getElem?_eq_getElem hj]
def GetR (t : VT) (p : List ByteArray) (S : World → Nat → Prop) (w : World) (e : Ending) (w' : World) : Prop :=
  ∃ v, e = .returned (.tuple #[v, .bool (okT t p)]) ∧ LV w' (S w') (gotT t p) v ∧ Below w.heap.size w w'
theorem get_end {w w5 : World} {S : Nat → Prop} {t u : VT} {p : List ByteArray} {ok : Bool} {c0 c1 c2 c3 c4 : Value} (hS : ∀ b, S b → b < w.heap.size) (hb : Below w.heap.size w w5) (hv : LV w S u (.agg #[c0, c1, c2, c3, c4])) (hg : gotT t p = u) (hok : ok = okT t p) :
    GetR t p (fun _ => S) w (.returned (.tuple #[.agg #[c0, c1, c2, c3, c4], .bool ok])) (five w5 (w.heap.size + 1) 0 c0 c1 c2 c3 c4) := by
  have hr5 := five_rest w5 (w.heap.size + 1) 0 c0 c1 c2 c3 c4
  have hk : ∀ b, b < w.heap.size → (five w5 (w.heap.size + 1) 0 c0 c1 c2 c3 c4).heap[b]? = w.heap[b]? := fun b hb' => (five_other _ _ _ _ _ _ _ _ b (by omega)).trans (hb.block b hb')
  subst hg hok
  exact ⟨_, rfl, hv.keep fun b hb' => hk b (hS b hb'), ⟨hr5.1.trans hb.os, hr5.2.1.trans hb.tape, hr5.2.2.trans hb.output, by rw [five_size]; exact hb.size, hk⟩⟩
set_option maxHeartbeats 4000000 in
set_option maxRecDepth 100000 in
theorem rget_any (S : Nat → Prop) (t : VT) (v : Value) (A : Option Addr) (c : Nat) (p : List ByteArray) (w : World) (hS : ∀ b, S b → b < w.heap.size) (h : LV w S t v) (hm : mayT t = true) (hp : StrsAt w S A p) (hn : p.length ≤ 140737488351232) :
    Calls Tryz.prog 40 #[v, .slice A p.length c] w (GetR t p (fun _ => S) w) := by
  obtain ⟨A0, c0, A0', c0', rfl, -, -, -, v1, hb0⟩ := one_var hS h
  have HX := Lib.hid v1.x
  have HB := Lib.hid hb0
  have HP := Lib.hid hp
  have HV := Lib.hid h
  have HM := Lib.hid hm
  clear h v1 hb0 hp hm
  go_enter Tryz.func40, Tryz.ntmps40
  go_wp2_with fail
  have hz1 : (w.alloc (.cells #[.int .i64 t.kind, .int .i64 t.num, .string t.text, .slice A0 t.items.length c0, .slice A0' t.names.length c0'] 25)).heap.size = w.heap.size + 1 := by simp
  have hB0 : Below w.heap.size w ((w.alloc (.cells #[.int .i64 t.kind, .int .i64 t.num, .string t.text, .slice A0 t.items.length c0, .slice A0' t.names.length c0'] 25)).alloc (.cells #[.int .i64 0, .int .i64 0, .string ⟨#[]⟩, .slice none 0 0, .slice none 0 0] 25)) := HB.out.alloc (by omega) _
  have hX0 := HX.out.alloc (.cells #[.int .i64 0, .int .i64 0, .string ⟨#[]⟩, .slice none 0 0, .slice none 0 0] 25)
  have hR0 : Box ((w.alloc (.cells #[.int .i64 t.kind, .int .i64 t.num, .string t.text, .slice A0 t.items.length c0, .slice A0' t.names.length c0'] 25)).alloc (.cells #[.int .i64 0, .int .i64 0, .string ⟨#[]⟩, .slice none 0 0, .slice none 0 0] 25)) (w.heap.size + 1) (.int .i64 0) (.int .i64 0) (.string ⟨#[]⟩) (.slice none 0 0) (.slice none 0 0) := by
    have h := Box.new (w := w.alloc (.cells #[.int .i64 t.kind, .int .i64 t.num, .string t.text, .slice A0 t.items.length c0, .slice A0' t.names.length c0'] 25)) (.int .i64 0) (.int .i64 0) (.string ⟨#[]⟩) (.slice none 0 0) (.slice none 0 0)
    rw [hz1] at h
    exact h
  have HB0 := Lib.hid hB0
  have HX0 := Lib.hid hX0
  have HR0 := Lib.hid hR0
  clear hB0 hX0 hR0 hz1 HB HX
  go_loopw [6] (fun i wr => ∃ (j : Nat) (u : VT) (B : Option Addr) (k : Nat) (B' : Option Addr) (k' : Nat), i = .int .i64 j ∧ j ≤ p.length ∧ Hid (getT t p = getT u (p.drop j)) ∧ Hid (mayT u = true) ∧
      Hid (Box wr w.heap.size (.int .i64 u.kind) (.int .i64 u.num) (.string u.text) (.slice B u.items.length k) (.slice B' u.names.length k')) ∧
      Hid (LV w S u (.agg #[.int .i64 u.kind, .int .i64 u.num, .string u.text, .slice B u.items.length k, .slice B' u.names.length k'])) ∧
      Hid (Below w.heap.size w wr) ∧ Hid (Box wr (w.heap.size + 1) (.int .i64 0) (.int .i64 0) (.string ⟨#[]⟩) (.slice none 0 0) (.slice none 0 0))) (fun i _ => p.length - (intOf i).toNat)
  case atStart => exact ⟨0, t, A0, c0, A0', c0', rfl, by omega, Lib.hid (by simp), HM, HX0, HV, HB0, HR0⟩
  case round =>
    obtain ⟨j, u, B, k, B', k', rfl, hj, HG, HMU, HXU, HVU, HBU, HRU⟩ := hrel
    clear HB0 HX0 HR0
    by_cases hlt : j < p.length
    · obtain ⟨b, off, rfl, hSb, hc⟩ := HP.out (by omega)
      have hck : wr.cell? ⟨b, off + j, none⟩ = some (.string p[j]) := (HBU.out.cell (p := ⟨b, off + j, none⟩) (hS b hSb)).trans (hc j hlt).1
      have hps := (hc j hlt).2
      have hbl : b < wr.heap.size := Nat.lt_of_lt_of_le (hS b hSb) HBU.out.size
      clear hc
      have hlt1 : (j : Int) < (p.length : Int) := by omega
      have hlt2 : decide ((j : Int) < (p.length : Int)) = true := decide_eq_true hlt1
      obtain ⟨s, hsj⟩ : ∃ s, s = p[j] := ⟨_, rfl⟩
      rw [← hsj] at hck hps
      have HSJ := Lib.hid hsj
      clear hsj
      go_wp2_with fail
      refine wp_region_mix [0, 1, 2, 3, 4, 5, 6] (by kernel_rfl) (by kernel_rfl) (fun _ d _ _ _ h => by cases d <;> exact h) ?_
      simp only [atNats, List.filterMap_cons, List.filterMap_nil, List.getElem?_toArray, List.getElem?_cons_succ, List.getElem?_cons_zero]
      have hbd : Below wr.heap.size wr wr.drew := (Below.refl _ _).drew
      have HXU := Lib.hid (HXU.out.call hbd)
      have HBU := Lib.hid (toStart HBU.out hbd)
      have HRU := Lib.hid (HRU.out.call hbd)
      have hck0 : wr.drew.cell? ⟨b, off + j, none⟩ = some (.string s) := hck
      have hbl0 : b < wr.drew.heap.size := hbl
      clear hbd hck hbl
      generalize wr.drew = v0 at *
      have q0 := cell_later (B := v0.heap.size) (w := v0) HXU.out.c0 HXU.out.lt
      have q1 := cell_later (B := v0.heap.size) (w := v0) HXU.out.c1 HXU.out.lt
      have q2 := cell_later (B := v0.heap.size) (w := v0) HXU.out.c2 HXU.out.lt
      have q3 := cell_later (B := v0.heap.size) (w := v0) HXU.out.c3 HXU.out.lt
      have q4 := cell_later (B := v0.heap.size) (w := v0) HXU.out.c4 HXU.out.lt
      have q5 := cell_later (B := v0.heap.size) (w := v0) hck0 hbl0
      first | refine mix_pure ?_ | refine mix_pureB ?_
      simp only [List.takeWhile, List.dropWhile, isPure, Nat.reduceBNe]
      repeat (go_big_quiet_step (fail))
      refine wpQuiet_nil ?_
      clear q0 q1 q2 q3 q4 q5 hck0 hbl0
      first | refine mix_call rfl (fun K hK => ?_) | refine mix_callB rfl (fun K hK => ?_)
      go_simp
      refine (place_any S u _ s v0 (fun b hb => Nat.lt_of_lt_of_le (hS b hb) HBU.out.size) (HVU.out.keep fun b hb => HBU.out.block b (hS b hb)) hps).mono ?_
      rintro e w5 ⟨rfl, hb⟩
      refine hK _ _ hb ?_
      clear hK K
      try simp only [Act.put]
      have HXU := Lib.hid (HXU.out.call hb)
      have HBU := Lib.hid (toStart HBU.out hb)
      have HRU := Lib.hid (HRU.out.call hb)
      clear hb
      obtain ⟨P, hP⟩ : ∃ P, P = placeT u s := ⟨_, rfl⟩
      rw [← hP]
      have HPP := Lib.hid hP
      clear hP
      first | refine mix_pure ?_ | refine mix_pureB ?_
      simp only [List.takeWhile, List.dropWhile, isPure, Nat.reduceBNe]
      repeat (go_big_quiet_step (fail))
      refine wpQuiet_nil ?_
      unfold wpMix
      by_cases hneg : P < 0
      · have hneg2 : decide (P < 0) = true := decide_eq_true hneg
        have rf := fun i => HRU.out.free i
        have r0 := HRU.out.c0
        have r1 := HRU.out.c1
        have r2 := HRU.out.c2
        have r3 := HRU.out.c3
        have r4 := HRU.out.c4
        have hnone : getT t p = none := by
          rw [HG.out, List.drop_eq_getElem_cons hlt]
          exact getT_neg (by rw [← HSJ.out, ← HPP.out]; exact hneg)
        have HNN := Lib.hid hnone
        clear hnone
        go_wp2_with fail
        refine bodyPost_ret (results_cell_two rfl _ _ (w.heap.size + 1) 25 _ (0, 0) rfl (five_box HRU.out) (by kernel_rfl)) rfl ?_
        exact get_end hS HBU.out (leaf_lv w S 0 0 ⟨#[]⟩ (by unfold Rng; omega) (by unfold Rng; omega) (by decide)) (by unfold gotT; rw [HNN.out]; rfl) (by unfold okT; rw [HNN.out]; rfl)
      · have hneg2 : decide (P < 0) = false := decide_eq_false hneg
        obtain ⟨i, rfl⟩ : ∃ i : Nat, P = i := ⟨P.toNat, by omega⟩
        have hPi : (placeT u s).toNat = i := by rw [← HPP.out]; simp
        have hPn : 0 ≤ placeT u s := by rw [← HPP.out]; omega
        have hil : (placeT u s).toNat < u.items.length := placeT_lt (may_nl HMU.out) hPn
        have hgo : getT t p = getT (u.items[(placeT u s).toNat]) (p.drop (j + 1)) := by
          rw [HG.out, List.drop_eq_getElem_cons hlt, ← HSJ.out]
          exact getT_pos hPn hil
        simp only [hPi] at hgo hil
        have hAt : AtV w5 S u w.heap.size 0 B k B' k' := AtV.of_box HXU.out (HVU.out.keep fun b hb => HBU.out.block b (hS b hb))
        obtain ⟨G, off1, A2, c2, A3, c3, hB1, hG, hitem⟩ := hAt.item hil
        subst hB1
        have hlen := hAt.names.2.2
        have HGO := Lib.hid hgo
        have HMI := Lib.hid (may_item HMU.out hil)
        have i0 := hitem.c0
        have i1 := hitem.c1
        have i2 := hitem.c2
        have i3 := hitem.c3
        have i4 := hitem.c4
        have hGw := hS G hG
        have hnG : G ≠ w.heap.size := by omega
        have HIV := Lib.hid hitem.v
        have vf := fun i => HXU.out.free i
        have v0 := HXU.out.c0
        have v1 := HXU.out.c1
        have v2 := HXU.out.c2
        have v3 := HXU.out.c3
        have v4 := HXU.out.c4
        clear hAt hitem hgo hPn
        have hr5 := five_rest w5 w.heap.size 0 (.int .i64 u.items[i].kind) (.int .i64 u.items[i].num) (.string u.items[i].text) (.slice A2 u.items[i].items.length c2) (.slice A3 u.items[i].names.length c3)
        have hk5 := five_other w5 w.heap.size 0 (.int .i64 u.items[i].kind) (.int .i64 u.items[i].num) (.string u.items[i].text) (.slice A2 u.items[i].items.length c2) (.slice A3 u.items[i].names.length c3)
        have hz5 := five_size w5 w.heap.size 0 (.int .i64 u.items[i].kind) (.int .i64 u.items[i].num) (.string u.items[i].text) (.slice A2 u.items[i].items.length c2) (.slice A3 u.items[i].names.length c3)
        have HB6 : Hid (Below w.heap.size w (five w5 w.heap.size 0 (.int .i64 u.items[i].kind) (.int .i64 u.items[i].num) (.string u.items[i].text) (.slice A2 u.items[i].items.length c2) (.slice A3 u.items[i].names.length c3))) := Lib.hid
          ⟨hr5.1.trans HBU.out.os, hr5.2.1.trans HBU.out.tape, hr5.2.2.trans HBU.out.output, by rw [hz5]; exact HBU.out.size, fun b hb => (hk5 b (by omega)).trans (HBU.out.block b hb)⟩
        have HR6 : Hid (Box (five w5 w.heap.size 0 (.int .i64 u.items[i].kind) (.int .i64 u.items[i].num) (.string u.items[i].text) (.slice A2 u.items[i].items.length c2) (.slice A3 u.items[i].names.length c3)) (w.heap.size + 1) (.int .i64 0) (.int .i64 0) (.string ⟨#[]⟩) (.slice none 0 0) (.slice none 0 0)) := Lib.hid ((hk5 _ (by omega)).trans HRU.out)
        have HX6 := Lib.hid (five_box (c0 := .int .i64 u.items[i].kind) (c1 := .int .i64 u.items[i].num) (c2 := .string u.items[i].text) (c3 := .slice A2 u.items[i].items.length c2) (c4 := .slice A3 u.items[i].names.length c3) HXU.out)
        have HV6 := Lib.hid (HIV.out.keep (w' := w) fun b hb => (HBU.out.block b (hS b hb)).symm)
        clear hr5 hk5 hz5
        go_wp2_with fail
        go_roundw
        case rel => exact ⟨j + 1, u.items[i], A2, c2, A3, c3, by go_num, by omega, HGO, HMI, HX6, HV6, HB6, HR6⟩
        case measure => simp [intOf]; omega
    · have hlt1 : ¬ (j : Int) < (p.length : Int) := by omega
      have hlt2 : decide ((j : Int) < (p.length : Int)) = false := decide_eq_false hlt1
      have hd : p.drop j = [] := List.drop_of_length_le (by omega)
      have hgo : getT t p = some u := by rw [HG.out, hd]; rfl
      have HGO := Lib.hid hgo
      have rf := fun i => HRU.out.free i
      have r0 := HRU.out.c0
      have r1 := HRU.out.c1
      have r2 := HRU.out.c2
      have r3 := HRU.out.c3
      have r4 := HRU.out.c4
      have v0 := HXU.out.c0
      have v1 := HXU.out.c1
      have v2 := HXU.out.c2
      have v3 := HXU.out.c3
      have v4 := HXU.out.c4
      clear hd hgo
      go_wp2_with fail
      refine bodyPost_ret (results_cell_two rfl _ _ (w.heap.size + 1) 25 _ (0, 0) rfl (five_box HRU.out) (by kernel_rfl)) rfl ?_
      exact get_end hS HBU.out HVU.out (by unfold gotT; rw [HGO.out]; rfl) (by unfold okT; rw [HGO.out]; rfl)
end Go.Proofs.YtipiplnhbecjeaaGreat
