/- The document's own step and get. -/
import Derived.Test.YtlipkmdjpligeaaGreatKOpenS
import Derived.Test.YtlipkmdjpligeaaGreatKVr
import Derived.Test.YtlipkmdjpligeaaGreatKRefZ
import Derived.Test.YtlipkmdjpligeaaGreatKValF
import Derived.Test.YtlipkmdjpligeaaGreatKPathA
import Derived.Test.YtlipkmdjpligeaaGreatKMath
import Derived.Lib.OthersKept
import Derived.Laws.AppendOwnNone
import Derived.Outline
import Derived.Lib.Join
import Derived.StillTailTactics
import Derived.Lib.DecodeN
import Derived.Lib.AppendZerosOnto
import Derived.Lib.AppendZeros
import Derived.Lib.SliceRun
import Derived.Laws.OwnMore
import Derived.Laws.AppendOwn
import Derived.Maps.AppendAt
namespace Go.Proofs.YtlipkmdjpligeaaGreat
open Lib (hid)
set_option linter.unusedVariables false
set_option linter.unusedSimpArgs false
open Go.RowKit
set_option maxHeartbeats 2000000 in
set_option maxRecDepth 100000 in
theorem place_any (S : Nat → Prop) (t : VT) (v : Value) (s : ByteArray) (w : World) (hS : ∀ b, S b → b < w.heap.size) (h : LV w S t v) (hs : s.size ≤ 140737488351232) :
  Calls Tryz.prog 84 #[v, .string s] w fun e w' => e = .returned (.int .i64 (placeT t s)) ∧ Below w.heap.size w w' := by
 obtain ⟨A0, c0, A0', c0', rfl, hl, -, hst, v1, hb0⟩ := one_var hS h
 have P := hid v1
 have HB := hid hb0
 have HST := hid hst
 obtain ⟨R, hR⟩ : ∃ R, R = placeT t s := ⟨_, rfl⟩
 rw [← hR]
 obtain ⟨k, hk⟩ : ∃ k, k = t.kind := ⟨_, rfl⟩
 have q0 := v1.x.c0
 have q3 := v1.x.c3
 have q4 := v1.x.c4
 rw [← hk] at q0 q3 q4
 have HK := hid hk
 have HP := hid hR
 have hb1 := hb0
 rw [← hk] at hb1
 have HB1 := hid hb1
 have hl1 := hl.1
 have hl2 := hl.2
 clear h v1 hb0 hk hR hst hb1
 go_enter Tryz.func84, Tryz.ntmps84
 have hk' := HK.out
 rw [← hk']
 clear hk'
 by_cases h6 : k = 6
 ·subst h6
  go_wp2_with fail
  refine (rindex_any s _ hs).mono ?_
  rintro e w1 ⟨rfl, rfl⟩
  by_cases hlt : idxI s.data.toList < (t.items.length : Int)
  ·have hlt2 : decide (idxI s.data.toList < (t.items.length : Int)) = true := decide_eq_true hlt
   go_wp2_with fail
   go_ret
   refine ⟨?_, HB1.out⟩
   rw [HP.out, placeT_arr HK.out.symm, if_pos hlt]; rfl
  ·have hlt2 : decide (idxI s.data.toList < (t.items.length : Int)) = false := decide_eq_false hlt
   go_wp2_with fail
   go_ret
   refine ⟨?_, HB1.out⟩
   rw [HP.out, placeT_arr HK.out.symm, if_neg (by omega)]; rfl
 have b6 := beq_false_of_ne h6
 by_cases h7 : k = 7
 rotate_left
 ·have b7 := beq_false_of_ne h7
  go_wp2_with fail
  go_ret
  refine ⟨?_, HB1.out⟩
  rw [HP.out, placeT_else (fun h => h7 (HK.out.trans h)) (fun h => h6 (HK.out.trans h))]; rfl
 subst h7
 go_wp2_with fail
 generalize hW : w.alloc (.cells #[.int .i64 7, .int .i64 t.num, .string t.text, .slice A0 t.items.length c0, .slice A0' t.names.length c0'] 27) = w1 at *
 go_loopw [6] (fun i wr => ∃ j : Nat, i = .int .i64 j ∧ j ≤ t.names.length ∧ wr = w1 ∧ Hid (∀ i (h : i < t.names.length), i < j → t.names[i] ≠ s)) (fun i _ => t.names.length - (intOf i).toNat)
 case atStart => exact ⟨0, rfl, by omega, rfl, fun j _ h => absurd h (by omega)⟩
 case round =>
  obtain ⟨j, rfl, hj, rfl, HJ⟩ := hrel
  by_cases hlt : j < t.names.length
  ·obtain ⟨p, o, rfl, hp, hc⟩ := HST.out (by omega)
   have hck : wr.cell? ⟨p, o + j, none⟩ = some (.string t.names[j]) := (HB1.out.cell (p := ⟨p, o + j, none⟩) (hS p hp)).trans (hc j hlt).1
   clear hc
   by_cases hb : t.names[j] = s
   ·have hb2 : (t.names[j].toList == s.toList) = true := by rw [str_beq]; exact decide_eq_true hb
    have HE := hid hb
    clear hb
    go_wp2_with fail
    go_ret
    refine ⟨?_, HB1.out⟩
    rw [HP.out, placeT_doc HK.out.symm, nmI_hit (k := 0) hlt HE.out (fun i hi hij => HJ.out i hi hij)]
    simp
   ·have hb2 : (t.names[j].toList == s.toList) = false := by rw [str_beq]; exact decide_eq_false hb
    have HE := hid hb
    clear hb
    go_wp2_with fail
    go_roundw
    case rel => exact ⟨j + 1, by go_num, by omega, trivial, fun i h hij => by
     by_cases e : i = j
     ·subst e; exact HE.out
     ·exact HJ.out i h (by omega)⟩
    case measure => simp [intOf]; omega
  ·go_wp2_with fail
   go_ret
   refine ⟨?_, HB1.out⟩
   rw [HP.out, placeT_doc HK.out.symm, nmI_miss fun i h => HJ.out i h (by omega)]; rfl
theorem mayL_get : ∀ {l : List VT}, mayL l = true → ∀ j (hj : j < l.length), mayT l[j] = true
 | a :: r, h, 0, _ => by unfold mayL at h; rw [Bool.and_eq_true] at h; exact h.1
 | a :: r, h, j + 1, hj => by
  unfold mayL at h
  rw [Bool.and_eq_true] at h
  exact mayL_get h.2 j (by simpa using hj)
theorem may_nl {t : VT} (h : mayT t = true) (hk : t.kind = 7) : t.names.length ≤ t.items.length := by
 cases t with
 | mk k i s l ns =>
  have h1 := (may_names h).1 hk
  simp only [VT.names, VT.items]
  omega
theorem may_item {t : VT} (h : mayT t = true) {j : Nat} (hj : j < t.items.length) : mayT t.items[j] = true := by
 cases t with
 | mk k i s l ns => exact mayL_get (may_names h).2.2 j hj
def okT (t : VT) (p : List ByteArray) : Bool := (getT t p).isSome
def gotT (t : VT) (p : List ByteArray) : VT := (getT t p).getD (.mk 0 0 ⟨#[]⟩ [] [])
theorem getT_neg {t : VT} {s : ByteArray} {r : List ByteArray} (h : placeT t s < 0) : getT t (s :: r) = none := by unfold getT; rw [if_pos h]
theorem getT_pos {t : VT} {s : ByteArray} {r : List ByteArray} (h : 0 ≤ placeT t s) (hj : (placeT t s).toNat < t.items.length) : getT t (s :: r) = getT (t.items[(placeT t s).toNat]) r := by
 conv => lhs; unfold getT
 rw [if_neg (by omega), List.getElem?_eq_getElem hj]
def GetR (t : VT) (p : List ByteArray) (S : World → Nat → Prop) (w : World) (e : Ending) (w' : World) : Prop :=
 ∃ v, e = .returned (.tuple #[v, .bool (okT t p)]) ∧ LV w' (S w') (gotT t p) v ∧ Below w.heap.size w w'
theorem get_end {w w5 : World} {S : Nat → Prop} {t u : VT} {p : List ByteArray} {ok : Bool} {c0 c1 c2 c3 c4 : Value} (hS : ∀ b, S b → b < w.heap.size) (hb : Below w.heap.size w w5) (hv : LV w S u (.agg #[c0, c1, c2, c3, c4])) (hg : gotT t p = u) (hok : ok = okT t p) :
  GetR t p (fun _ => S) w (.returned (.tuple #[.agg #[c0, c1, c2, c3, c4], .bool ok])) (five w5 (w.heap.size + 1) 0 c0 c1 c2 c3 c4) := by
 have hr5 := five_rest w5 (w.heap.size + 1) 0 c0 c1 c2 c3 c4
 have hk : ∀ b, b < w.heap.size → (five w5 (w.heap.size + 1) 0 c0 c1 c2 c3 c4).heap[b]? = w.heap[b]? := fun b hb' => (five_other _ _ _ _ _ _ _ _ b (by omega)).trans (hb.block b hb')
 subst hg hok
 exact ⟨_, rfl, hv.keep fun b hb' => hk b (hS b hb'), ⟨hr5.1.trans hb.os, hr5.2.1.trans hb.tape, hr5.2.2.trans hb.output, by rw [five_size]; exact hb.size, hk⟩⟩
set_option maxHeartbeats 4000000 in
set_option maxRecDepth 100000 in
theorem rget_any (S : Nat → Prop) (t : VT) (v : Value) (A : Option Addr) (c : Nat) (p : List ByteArray) (w : World) (hS : ∀ b, S b → b < w.heap.size) (h : LV w S t v) (hm : mayT t = true) (hp : StrsAt w S A p) (hn : p.length ≤ 140737488351232) :
  Calls Tryz.prog 42 #[v, .slice A p.length c] w (GetR t p (fun _ => S) w) := by
 obtain ⟨A0, c0, A0', c0', rfl, -, -, -, v1, hb0⟩ := one_var hS h
 have HX := hid v1.x
 have HB := hid hb0
 have HP := hid hp
 have HV := hid h
 have HM := hid hm
 clear h v1 hb0 hp hm
 go_enter Tryz.func42, Tryz.ntmps42
 go_wp2_with fail
 have hz1 : (w.alloc (.cells #[.int .i64 t.kind, .int .i64 t.num, .string t.text, .slice A0 t.items.length c0, .slice A0' t.names.length c0'] 27)).heap.size = w.heap.size + 1 := by simp
 have hB0 : Below w.heap.size w ((w.alloc (.cells #[.int .i64 t.kind, .int .i64 t.num, .string t.text, .slice A0 t.items.length c0, .slice A0' t.names.length c0'] 27)).alloc (.cells #[.int .i64 0, .int .i64 0, .string ⟨#[]⟩, .slice none 0 0, .slice none 0 0] 27)) := HB.out.alloc (by omega) _
 have hX0 := HX.out.alloc (.cells #[.int .i64 0, .int .i64 0, .string ⟨#[]⟩, .slice none 0 0, .slice none 0 0] 27)
 have hR0 : Box ((w.alloc (.cells #[.int .i64 t.kind, .int .i64 t.num, .string t.text, .slice A0 t.items.length c0, .slice A0' t.names.length c0'] 27)).alloc (.cells #[.int .i64 0, .int .i64 0, .string ⟨#[]⟩, .slice none 0 0, .slice none 0 0] 27)) (w.heap.size + 1) (.int .i64 0) (.int .i64 0) (.string ⟨#[]⟩) (.slice none 0 0) (.slice none 0 0) := by
  have h := Box.new (w := w.alloc (.cells #[.int .i64 t.kind, .int .i64 t.num, .string t.text, .slice A0 t.items.length c0, .slice A0' t.names.length c0'] 27)) (.int .i64 0) (.int .i64 0) (.string ⟨#[]⟩) (.slice none 0 0) (.slice none 0 0)
  rw [hz1] at h
  exact h
 have HB0 := hid hB0
 have HX0 := hid hX0
 have HR0 := hid hR0
 clear hB0 hX0 hR0 hz1 HB HX
 go_loopw [6] (fun i wr => ∃ (j : Nat) (u : VT) (B : Option Addr) (k : Nat) (B' : Option Addr) (k' : Nat), i = .int .i64 j ∧ j ≤ p.length ∧ Hid (getT t p = getT u (p.drop j)) ∧ Hid (mayT u = true) ∧
   Hid (Box wr w.heap.size (.int .i64 u.kind) (.int .i64 u.num) (.string u.text) (.slice B u.items.length k) (.slice B' u.names.length k')) ∧
   Hid (LV w S u (.agg #[.int .i64 u.kind, .int .i64 u.num, .string u.text, .slice B u.items.length k, .slice B' u.names.length k'])) ∧
   Hid (Below w.heap.size w wr) ∧ Hid (Box wr (w.heap.size + 1) (.int .i64 0) (.int .i64 0) (.string ⟨#[]⟩) (.slice none 0 0) (.slice none 0 0))) (fun i _ => p.length - (intOf i).toNat)
 case atStart => exact ⟨0, t, A0, c0, A0', c0', rfl, by omega, hid (by simp), HM, HX0, HV, HB0, HR0⟩
 case round =>
  obtain ⟨j, u, B, k, B', k', rfl, hj, HG, HMU, HXU, HVU, HBU, HRU⟩ := hrel
  clear HB0 HX0 HR0
  by_cases hlt : j < p.length
  ·obtain ⟨b, off, rfl, hSb, hc⟩ := HP.out (by omega)
   have hck : wr.cell? ⟨b, off + j, none⟩ = some (.string p[j]) := (HBU.out.cell (p := ⟨b, off + j, none⟩) (hS b hSb)).trans (hc j hlt).1
   have hps := (hc j hlt).2
   have hbl : b < wr.heap.size := Nat.lt_of_lt_of_le (hS b hSb) HBU.out.size
   clear hc
   have hlt1 : (j : Int) < (p.length : Int) := by omega
   have hlt2 : decide ((j : Int) < (p.length : Int)) = true := decide_eq_true hlt1
   obtain ⟨s, hsj⟩ : ∃ s, s = p[j] := ⟨_, rfl⟩
   rw [← hsj] at hck hps
   have HSJ := hid hsj
   clear hsj
   go_wp2_with fail
   refine wp_region_mix [0, 1, 2, 3, 4, 5, 6] (by kernel_rfl) (by kernel_rfl) (fun _ d _ _ _ h => by cases d <;> exact h) ?_
   simp only [atR]
   have hbd : Below wr.heap.size wr wr.drew := (Below.refl _ _).drew
   have HXU := hid (HXU.out.call hbd)
   have HBU := hid (toStart HBU.out hbd)
   have HRU := hid (HRU.out.call hbd)
   have hck0 : wr.drew.cell? ⟨b, off + j, none⟩ = some (.string s) := hck
   have hbl0 : b < wr.drew.heap.size := hbl
   clear hbd hck hbl
   generalize wr.drew = v0 at *
   have q0 := cell_later (B := v0.heap.size) (w := v0) HXU.out.c0 HXU.out.lt
   have q1 := cell_later (B := v0.heap.size) (w := v0) HXU.out.c1 HXU.out.lt
   have q2 := cell_later (B := v0.heap.size) (w := v0) HXU.out.c2 HXU.out.lt
   have q3 := cell_later (B := v0.heap.size) (w := v0) HXU.out.c3 HXU.out.lt
   have q4 := cell_later (B := v0.heap.size) (w := v0) HXU.out.c4 HXU.out.lt
   have q5 := cell_later (B := v0.heap.size) (w := v0) hck0 hbl0
   first | refine mix_pure ?_ | refine mix_pureB ?_
   simp only [List.takeWhile, List.dropWhile, isPure, Nat.reduceBNe]
   repeat (go_big_quiet_step (fail))
   refine wpQuiet_nil ?_
   clear q0 q1 q2 q3 q4 q5 hck0 hbl0
   first | refine mix_call rfl (fun K hK => ?_) | refine mix_callB rfl (fun K hK => ?_)
   go_simp
   refine (place_any S u _ s v0 (fun b hb => Nat.lt_of_lt_of_le (hS b hb) HBU.out.size) (HVU.out.keep fun b hb => HBU.out.block b (hS b hb)) hps).mono ?_
   rintro e w5 ⟨rfl, hb⟩
   refine hK _ _ hb ?_
   clear hK K
   try simp only [Act.put]
   have HXU := hid (HXU.out.call hb)
   have HBU := hid (toStart HBU.out hb)
   have HRU := hid (HRU.out.call hb)
   clear hb
   obtain ⟨P, hP⟩ : ∃ P, P = placeT u s := ⟨_, rfl⟩
   rw [← hP]
   have HPP := hid hP
   clear hP
   first | refine mix_pure ?_ | refine mix_pureB ?_
   simp only [List.takeWhile, List.dropWhile, isPure, Nat.reduceBNe]
   repeat (go_big_quiet_step (fail))
   refine wpQuiet_nil ?_
   unfold wpMix
   by_cases hneg : P < 0
   ·have hneg2 : decide (P < 0) = true := decide_eq_true hneg
    have rf := fun i => HRU.out.free i
    have r0 := HRU.out.c0
    have r1 := HRU.out.c1
    have r2 := HRU.out.c2
    have r3 := HRU.out.c3
    have r4 := HRU.out.c4
    have hnone : getT t p = none := by
     rw [HG.out, List.drop_eq_getElem_cons hlt]
     exact getT_neg (by rw [← HSJ.out, ← HPP.out]; exact hneg)
    have HNN := hid hnone
    clear hnone
    go_wp2_with fail
    refine bodyPost_ret (results_cell_two rfl _ _ (w.heap.size + 1) 27 _ (0, 0) rfl (five_box HRU.out) (by kernel_rfl)) rfl ?_
    exact get_end hS HBU.out (leaf_lv w S 0 0 ⟨#[]⟩ (by unfold Rng; omega) (by unfold Rng; omega) (by decide)) (by unfold gotT; rw [HNN.out]; rfl) (by unfold okT; rw [HNN.out]; rfl)
   ·have hneg2 : decide (P < 0) = false := decide_eq_false hneg
    obtain ⟨i, rfl⟩ : ∃ i : Nat, P = i := ⟨P.toNat, by omega⟩
    have hPi : (placeT u s).toNat = i := by rw [← HPP.out]; simp
    have hPn : 0 ≤ placeT u s := by rw [← HPP.out]; omega
    have hil : (placeT u s).toNat < u.items.length := placeT_lt (may_nl HMU.out) hPn
    have hgo : getT t p = getT (u.items[(placeT u s).toNat]) (p.drop (j + 1)) := by
     rw [HG.out, List.drop_eq_getElem_cons hlt, ← HSJ.out]
     exact getT_pos hPn hil
    simp only [hPi] at hgo hil
    have hAt : AtV w5 S u w.heap.size 0 B k B' k' := AtV.of_box HXU.out (HVU.out.keep fun b hb => HBU.out.block b (hS b hb))
    obtain ⟨G, off1, A2, c2, A3, c3, hB1, hG, hitem⟩ := hAt.item hil
    subst hB1
    have hlen := hAt.names.2.2
    have HGO := hid hgo
    have HMI := hid (may_item HMU.out hil)
    have i0 := hitem.c0
    have i1 := hitem.c1
    have i2 := hitem.c2
    have i3 := hitem.c3
    have i4 := hitem.c4
    have hGw := hS G hG
    have hnG : G ≠ w.heap.size := by omega
    have HIV := hid hitem.v
    have vf := fun i => HXU.out.free i
    have v0 := HXU.out.c0
    have v1 := HXU.out.c1
    have v2 := HXU.out.c2
    have v3 := HXU.out.c3
    have v4 := HXU.out.c4
    clear hAt hitem hgo hPn
    have hr5 := five_rest w5 w.heap.size 0 (.int .i64 u.items[i].kind) (.int .i64 u.items[i].num) (.string u.items[i].text) (.slice A2 u.items[i].items.length c2) (.slice A3 u.items[i].names.length c3)
    have hk5 := five_other w5 w.heap.size 0 (.int .i64 u.items[i].kind) (.int .i64 u.items[i].num) (.string u.items[i].text) (.slice A2 u.items[i].items.length c2) (.slice A3 u.items[i].names.length c3)
    have hz5 := five_size w5 w.heap.size 0 (.int .i64 u.items[i].kind) (.int .i64 u.items[i].num) (.string u.items[i].text) (.slice A2 u.items[i].items.length c2) (.slice A3 u.items[i].names.length c3)
    have HB6 : Hid (Below w.heap.size w (five w5 w.heap.size 0 (.int .i64 u.items[i].kind) (.int .i64 u.items[i].num) (.string u.items[i].text) (.slice A2 u.items[i].items.length c2) (.slice A3 u.items[i].names.length c3))) := hid
     ⟨hr5.1.trans HBU.out.os, hr5.2.1.trans HBU.out.tape, hr5.2.2.trans HBU.out.output, by rw [hz5]; exact HBU.out.size, fun b hb => (hk5 b (by omega)).trans (HBU.out.block b hb)⟩
    have HR6 : Hid (Box (five w5 w.heap.size 0 (.int .i64 u.items[i].kind) (.int .i64 u.items[i].num) (.string u.items[i].text) (.slice A2 u.items[i].items.length c2) (.slice A3 u.items[i].names.length c3)) (w.heap.size + 1) (.int .i64 0) (.int .i64 0) (.string ⟨#[]⟩) (.slice none 0 0) (.slice none 0 0)) := hid ((hk5 _ (by omega)).trans HRU.out)
    have HX6 := hid (five_box (c0 := .int .i64 u.items[i].kind) (c1 := .int .i64 u.items[i].num) (c2 := .string u.items[i].text) (c3 := .slice A2 u.items[i].items.length c2) (c4 := .slice A3 u.items[i].names.length c3) HXU.out)
    have HV6 := hid (HIV.out.keep (w' := w) fun b hb => (HBU.out.block b (hS b hb)).symm)
    clear hr5 hk5 hz5
    go_wp2_with fail
    go_roundw
    case rel => exact ⟨j + 1, u.items[i], A2, c2, A3, c3, by go_num, by omega, HGO, HMI, HX6, HV6, HB6, HR6⟩
    case measure => simp [intOf]; omega
  ·have hlt1 : ¬ (j : Int) < (p.length : Int) := by omega
   have hlt2 : decide ((j : Int) < (p.length : Int)) = false := decide_eq_false hlt1
   have hd : p.drop j = [] := List.drop_of_length_le (by omega)
   have hgo : getT t p = some u := by rw [HG.out, hd]; rfl
   have HGO := hid hgo
   have rf := fun i => HRU.out.free i
   have r0 := HRU.out.c0
   have r1 := HRU.out.c1
   have r2 := HRU.out.c2
   have r3 := HRU.out.c3
   have r4 := HRU.out.c4
   have v0 := HXU.out.c0
   have v1 := HXU.out.c1
   have v2 := HXU.out.c2
   have v3 := HXU.out.c3
   have v4 := HXU.out.c4
   clear hd hgo
   go_wp2_with fail
   refine bodyPost_ret (results_cell_two rfl _ _ (w.heap.size + 1) 27 _ (0, 0) rfl (five_box HRU.out) (by kernel_rfl)) rfl ?_
   exact get_end hS HBU.out HVU.out (by unfold gotT; rw [HGO.out]; rfl) (by unfold okT; rw [HGO.out]; rfl)
set_option maxRecDepth 100000
theorem conf_take (ps : List (List ByteArray)) {i : Nat} (hi : i < ps.length) : confL [] (ps.take (i + 1)) = (confL [] (ps.take i) || (ps.take i).any fun q => meetP ps[i] q) := by
 rw [List.take_add_one, List.getElem?_eq_getElem hi]
 have h := confL_snoc (ps.take i) [] ps[i]
 rw [List.nil_append] at h
 exact h
theorem conf_true {ps : List (List ByteArray)} {i k : Nat} (hi : i < ps.length) (hk : k < i) (h : meetP ps[i] ps[k] = true) : confL [] ps = true := by
 have h1 : confL [] (ps.take (i + 1)) = true := by
  rw [conf_take ps hi, List.any_eq_true.2 ⟨ps[k], List.mem_take_iff_getElem.2 ⟨k, by omega, rfl⟩, h⟩, Bool.or_true]
 have h2 := confL_pre (ps.take (i + 1)) (ps.drop (i + 1)) [] h1
 rwa [List.take_append_drop] at h2
theorem conf_false {ps : List (List ByteArray)} (h : ∀ i (hi : i < ps.length) k (hk : k < i), meetP ps[i] ps[k] = false) : confL [] ps = false := by
 have hn : ∀ n, n ≤ ps.length → confL [] (ps.take n) = false := by
  intro n
  induction n with
  | zero => intro _; simp [confL]
  | succ n ih =>
   intro hn
   rw [conf_take ps (by omega), ih (by omega), Bool.false_or]
   refine List.any_eq_false.2 fun x hx => ?_
   obtain ⟨k, hk, rfl⟩ := List.mem_take_iff_getElem.1 hx
   rw [h n (by omega) k (by omega)]
   simp
 have h2 := hn ps.length (Nat.le_refl _)
 rwa [List.take_length] at h2
theorem sizeT_nil' : sizeL [] = 0 := by unfold sizeL; rfl
theorem sumN_le : ∀ (ns : List ByteArray), (∀ s ∈ ns, s.size ≤ 140737488351232) → sumN ns ≤ ns.length * 140737488351300
 | [], _ => by simp [sumN]
 | a :: r, h => by
  have h1 := tsz_le a (h a (List.mem_cons_self ..))
  have h2 := sumN_le r fun s hs => h s (List.mem_cons_of_mem _ hs)
  have e : sumN (a :: r) = tsz a + sumN r := by unfold sumN; simp
  rw [e]; simp only [List.length_cons]; omega
theorem own_le (k i : Int) (s : ByteArray) (n : Nat) (ns : List ByteArray) (hs : s.size ≤ 140737488351232) (h : ∀ s ∈ ns, s.size ≤ 140737488351232) : ownP k i s n ns ≤ (1 + ns.length) * 281474976710656 := by
 have h1 := tsz_le s hs
 have h2 := sumN_le ns h
 have h3 := (grp_length (zig i)).1
 have h4 := (grp_length n).1
 unfold ownP
 repeat' split
 all_goals omega
theorem sizeL_le (d : Nat) : ∀ (l : List VT) (n : Nat), (∀ t ∈ l, nodesT (d + 1) t ≤ 60000 → sizeT t ≤ nodesT (d + 1) t * 281474976710656) → nodesL d n l ≤ 60000 → sizeL l + n * 281474976710656 ≤ nodesL d n l * 281474976710656
 | [], n, _, _ => by rw [nodesL_nil, sizeT_nil']; omega
 | t :: r, n, h, hn => by
  unfold nodesL at hn ⊢
  unfold sizeL
  by_cases hlt : n < 65536
  ·rw [if_pos hlt] at hn ⊢
   have h1 := nodesL_ge d r (n + nodesT (d + 1) t)
   have h2 := h t (List.mem_cons_self ..) (by omega)
   have h3 := sizeL_le d r (n + nodesT (d + 1) t) (fun t ht => h t (List.mem_cons_of_mem _ ht)) hn
   omega
  ·rw [if_neg hlt] at hn; omega
theorem size_le {w : World} {S : Nat → Prop} : ∀ (k d : Nat) (t : VT) (v : Value), d + k = 41 → LV w S t v → nodesT d t ≤ 60000 → sizeT t ≤ nodesT d t * 281474976710656
 | 0, d, t, v, hd, _, hn => by rw [nodesT_deep d t (by omega)] at hn; omega
 | k + 1, d, t, v, hd, h, hn => by
  obtain ⟨A, c, A', c', -, -, -, hts, -, -, hst, hla⟩ := h.shape
  rw [nodesT_mk d t (by omega)] at hn ⊢
  have h1 := sizeL_le d t.items (1 + t.names.length) (fun u hu hun => by
   obtain ⟨v, hv⟩ := lva_mem hla hu
   exact size_le k (d + 1) u v (by omega) hv hun) hn
  have h2 := own_le t.kind t.num t.text t.items.length t.names hts (fun s hs => by
   obtain ⟨i, hi, rfl⟩ := List.getElem_of_mem hs
   obtain ⟨b, off, -, -, hc⟩ := hst (by omega)
   exact (hc i hi).2)
  have e : sizeT t = ownP t.kind t.num t.text t.items.length t.names + sizeL t.items := by cases t; unfold sizeT; rfl
  omega
theorem size_small {w : World} {S : Nat → Prop} {t : VT} {v : Value} (h : LV w S t v) (hl : largeT t = false) : sizeT t ≤ 9223372036854775807 := by
 have h1 : nodesT 0 t ≤ 3000 := by unfold largeT at hl; simpa using hl
 have := size_le 41 0 t v rfl h (by omega)
 omega
def noneV : VT := .mk 0 0 ⟨#[]⟩ [] []
structure DelT where
 kind : Int
 path : List ByteArray
 val : VT
 num : Int
def mayD (d : DelT) : Bool := mayP d.path && (if d.kind = 1 then decide (checkT d.val = 0) && decide (d.num = 0) else if d.kind = 2 then noneT d.val && decide (d.num = 0) else if d.kind = 3 then noneT d.val && (decide (0 ≤ d.num) && decide (d.num ≤ 999)) else false)
def checkD (l : List DelT) : Int := if 64 < l.length then 3 else if l.all mayD then 0 else 1
def pathsD (l : List DelT) : List (List ByteArray) := l.map (·.path)
def freeD (l : List DelT) : Bool := !confL [] (pathsD l)
def touchD (l : List DelT) (p : List ByteArray) : Bool := l.any fun d => meetP d.path p
theorem mayD_path {d : DelT} (h : mayD d = true) : mayP d.path = true := by
 unfold mayD at h
 rw [Bool.and_eq_true] at h
 exact h.1
def DelL (w : World) (S : Nat → Prop) (d : DelT) (cs : Array Value) : Prop :=
 ∃ (PA : Option Addr) (pc : Nat) (VA : Option Addr) (vc : Nat) (VA' : Option Addr) (vc' : Nat), cs = #[.int .i64 d.kind, .slice PA d.path.length pc, .int .i64 d.val.kind, .int .i64 d.val.num, .string d.val.text, .slice VA d.val.items.length vc, .slice VA' d.val.names.length vc', .int .i64 d.num] ∧
  LV w S d.val (.agg #[.int .i64 d.val.kind, .int .i64 d.val.num, .string d.val.text, .slice VA d.val.items.length vc, .slice VA' d.val.names.length vc']) ∧ StrsAt w S PA d.path ∧ d.path.length ≤ pc ∧ (PA = none → pc = 0) ∧ Rng d.kind ∧ Rng d.num ∧ d.path.length ≤ 8796093021952
theorem DelL.keep {w w' : World} {S : Nat → Prop} {d : DelT} {cs : Array Value} (h : DelL w S d cs) (hk : ∀ b, S b → w'.heap[b]? = w.heap[b]?) : DelL w' S d cs := by
 obtain ⟨PA, pc, VA, vc, VA', vc', h1, h2, h3, h4⟩ := h
 exact ⟨PA, pc, VA, vc, VA', vc', h1, h2.keep hk, h3.keep hk, h4⟩
theorem DelL.imp {w : World} {S S' : Nat → Prop} {d : DelT} {cs : Array Value} (h : DelL w S d cs) (hS : ∀ b, S b → S' b) : DelL w S' d cs := by
 obtain ⟨PA, pc, VA, vc, VA', vc', h1, h2, h3, h4⟩ := h
 exact ⟨PA, pc, VA, vc, VA', vc', h1, h2.imp hS, h3.imp hS, h4⟩
theorem DelL.below {w w' : World} {S : Nat → Prop} {d : DelT} {cs : Array Value} {B : Nat} (h : DelL w S d cs) (hS : ∀ b, S b → b < B) (hb : Below B w w') : DelL w' S d cs := h.keep fun b hb' => hb.block b (hS b hb')
def DelsL (w : World) (S : Nat → Prop) (A : Option Addr) (l : List DelT) : Prop :=
 0 < l.length → ∃ b off, A = some ⟨b, off, none⟩ ∧ S b ∧ ∀ i (h : i < l.length), ∃ cs : Array Value, (∀ j v, cs[j]? = some v → w.cell? ⟨b, off + i * 8 + j, none⟩ = some v) ∧ DelL w S l[i] cs
theorem DelsL.keep {w w' : World} {S : Nat → Prop} {A : Option Addr} {l : List DelT} (h : DelsL w S A l) (hk : ∀ b, S b → w'.heap[b]? = w.heap[b]?) : DelsL w' S A l := fun hp => by
 obtain ⟨b, off, hA, hb, hc⟩ := h hp
 refine ⟨b, off, hA, hb, fun i hi => ?_⟩
 obtain ⟨cs, h1, h2⟩ := hc i hi
 exact ⟨cs, fun j v hv => (World.cell?_of_block (a := ⟨b, off + i * 8 + j, none⟩) (hk b hb)).trans (h1 j v hv), h2.keep hk⟩
theorem DelsL.imp {w : World} {S S' : Nat → Prop} {A : Option Addr} {l : List DelT} (h : DelsL w S A l) (hS : ∀ b, S b → S' b) : DelsL w S' A l := fun hp => by
 obtain ⟨b, off, hA, hb, hc⟩ := h hp
 refine ⟨b, off, hA, hS b hb, fun i hi => ?_⟩
 obtain ⟨cs, h1, h2⟩ := hc i hi
 exact ⟨cs, h1, h2.imp hS⟩
theorem DelsL.below {w w' : World} {S : Nat → Prop} {A : Option Addr} {l : List DelT} {B : Nat} (h : DelsL w S A l) (hS : ∀ b, S b → b < B) (hb : Below B w w') : DelsL w' S A l := h.keep fun b hb' => hb.block b (hS b hb')
theorem DelsL.cells {w : World} {S : Nat → Prop} {A : Option Addr} {l : List DelT} (h : DelsL w S A l) (k : Nat) (hk : k < l.length) :
  ∃ b off PA pc VA vc VA' vc', A = some ⟨b, off, none⟩ ∧ S b ∧ DelL w S l[k] #[.int .i64 l[k].kind, .slice PA l[k].path.length pc, .int .i64 l[k].val.kind, .int .i64 l[k].val.num, .string l[k].val.text, .slice VA l[k].val.items.length vc, .slice VA' l[k].val.names.length vc', .int .i64 l[k].num] ∧
   w.cell? ⟨b, off + k * 8, none⟩ = some (.int .i64 l[k].kind) ∧ w.cell? ⟨b, off + k * 8 + 1, none⟩ = some (.slice PA l[k].path.length pc) ∧ w.cell? ⟨b, off + k * 8 + 2, none⟩ = some (.int .i64 l[k].val.kind) ∧ w.cell? ⟨b, off + k * 8 + 3, none⟩ = some (.int .i64 l[k].val.num) ∧ w.cell? ⟨b, off + k * 8 + 4, none⟩ = some (.string l[k].val.text) ∧
   w.cell? ⟨b, off + k * 8 + 5, none⟩ = some (.slice VA l[k].val.items.length vc) ∧ w.cell? ⟨b, off + k * 8 + 6, none⟩ = some (.slice VA' l[k].val.names.length vc') ∧ w.cell? ⟨b, off + k * 8 + 7, none⟩ = some (.int .i64 l[k].num) := by
 obtain ⟨b, off, hA, hb, hc⟩ := h (by omega)
 obtain ⟨cs, h1, h2⟩ := hc k hk
 obtain ⟨PA, pc, VA, vc, VA', vc', e, -⟩ := id h2
 subst e
 exact ⟨b, off, PA, pc, VA, vc, VA', vc', hA, hb, h2, h1 0 _ rfl, h1 1 _ rfl, h1 2 _ rfl, h1 3 _ rfl, h1 4 _ rfl, h1 5 _ rfl, h1 6 _ rfl, h1 7 _ rfl⟩
def SmallD (l : List DelT) : Prop := ∀ d ∈ l, depthT d.val ≤ 4611686018427387903
section
variable {w w' : World} {p : Nat} {c0 c1 c2 c3 c4 c5 c6 c7 : Value}
end
theorem getElem?_set' {α : Type} (a : Array α) (i j : Nat) (v : α) : (a.setIfInBounds i v)[j]? = if i = j then (if j < a.size then some v else none) else a[j]? := by
 rw [Array.getElem?_setIfInBounds]
 by_cases h : i = j
 ·subst h; simp
 ·rw [if_neg h, if_neg h]
set_option maxHeartbeats 16000000 in
theorem dlmay_any (S : Nat → Prop) (d : DelT) (cs : Array Value) (w : World) (hS : ∀ b, S b → b < w.heap.size) (h : DelL w S d cs) (hd : depthT d.val ≤ 4611686018427387903) :
  Calls Tryz.prog 189 #[.agg cs] w fun e w' => e = .returned (.bool (mayD d)) ∧ Below w.heap.size w w' := by
 obtain ⟨PA, pc, VA, vc, VA', vc', rfl, hv, hp, hpc, hpn, hk, hn, hpl⟩ := h
 obtain ⟨w1, hw1⟩ : ∃ W, W = w.alloc (.cells #[.int .i64 d.kind, .slice PA d.path.length pc, .int .i64 d.val.kind, .int .i64 d.val.num, .string d.val.text, .slice VA d.val.items.length vc, .slice VA' d.val.names.length vc', .int .i64 d.num] 65) := ⟨_, rfl⟩
 have hbk : w1.heap[w.heap.size]? = some (.cells #[.int .i64 d.kind, .slice PA d.path.length pc, .int .i64 d.val.kind, .int .i64 d.val.num, .string d.val.text, .slice VA d.val.items.length vc, .slice VA' d.val.names.length vc', .int .i64 d.num] 65 (0, 0)) := by rw [hw1]; exact heap_alloc_new w _
 have hb1 : Below w.heap.size w w1 := by rw [hw1]; exact (Below.refl _ _).alloc (Nat.le_refl _) _
 have y0 := Go.Joins.cell_of_block hbk 0
 have y1 := Go.Joins.cell_of_block hbk 1
 have y2 := Go.Joins.cell_of_block hbk 2
 have y3 := Go.Joins.cell_of_block hbk 3
 have y4 := Go.Joins.cell_of_block hbk 4
 have y5 := Go.Joins.cell_of_block hbk 5
 have y6 := Go.Joins.cell_of_block hbk 6
 have y7 := Go.Joins.cell_of_block hbk 7
 have hS1 : ∀ b, S b → b < w1.heap.size := fun b hb => Nat.lt_of_lt_of_le (hS b hb) hb1.size
 have hv1 := hv.keep fun b hb => hb1.block b (hS b hb)
 have HMA := hid (pmay_any PA pc d.path w1 S (hp.keep fun b hb => hb1.block b (hS b hb)) (by omega))
 have HCK := hid (check_any S d.val _ w1 hS1 hv1 hd)
 have HNO := hid (none_any S d.val _ w1 hS1 hv1)
 have HBK := hid hbk
 have HB1 := hid hb1
 have HW1 := hid hw1
 have HS := hid hS
 obtain ⟨r, hr⟩ : ∃ r, r = mayD d := ⟨_, rfl⟩
 have HR := hid hr
 rw [← hr]
 clear hbk hb1 hS1 hv1 hv hp hpc hpn hk hn hpl hd hS hr
 go_enter Tryz.func189, Tryz.ntmps189
 go_wp2_with fail
 rw [← hw1]
 clear hw1
 refine HMA.out.mono ?_
 rintro e w2 ⟨rfl, rfl⟩
 clear HMA
 cases hmp : mayP d.path
 ·go_wp2_with fail
  go_ret
  exact ⟨by rw [HR.out]; unfold mayD; rw [hmp]; rfl, HB1.out⟩
 have HMP := hid hmp
 clear hmp
 obtain ⟨k, hk⟩ : ∃ k, k = d.kind := ⟨_, rfl⟩
 rw [← hk] at y0
 have HK := hid hk.symm
 clear hk
 by_cases k1 : k = 1
 ·subst k1
  go_wp2_with fail
  refine HCK.out.mono ?_
  rintro e w3 ⟨rfl, hb3⟩
  have HB3 := hid (HB1.out.trans (hb3.mono HB1.out.size))
  have HBK3 := (hb3.block _ (Array.getElem?_eq_some_iff.1 HBK.out).1).trans HBK.out
  have z7 := Go.Joins.cell_of_block HBK3 7
  obtain ⟨b1, d1⟩ : ∃ b, (checkT d.val == 0) = b := ⟨_, rfl⟩
  obtain ⟨b2, d2⟩ : ∃ b, (d.num == 0) = b := ⟨_, rfl⟩
  have HE : Hid (mayD d = (b1 && b2)) := hid (by
   rw [← d1, ← d2]
   unfold mayD
   rw [HMP.out, HK.out]
   rw [Bool.eq_iff_iff]
   simp)
  clear hb3 HBK3 HCK
  cases b1 <;> cases b2
  all_goals
   go_wp2_with fail
   go_ret
   exact ⟨by rw [HR.out, HE.out]; rfl, HB3.out⟩
 have e1 := beq_false_of_ne k1
 by_cases k2 : k = 2
 ·subst k2
  go_wp2_with fail
  refine HNO.out.mono ?_
  rintro e w3 ⟨rfl, hb3⟩
  have HB3 := hid (HB1.out.trans (hb3.mono HB1.out.size))
  have HBK3 := (hb3.block _ (Array.getElem?_eq_some_iff.1 HBK.out).1).trans HBK.out
  have z7 := Go.Joins.cell_of_block HBK3 7
  obtain ⟨b1, d1⟩ : ∃ b, noneT d.val = b := ⟨_, rfl⟩
  obtain ⟨b2, d2⟩ : ∃ b, (d.num == 0) = b := ⟨_, rfl⟩
  have HE : Hid (mayD d = (b1 && b2)) := hid (by
   rw [← d1, ← d2]
   unfold mayD
   rw [HMP.out, HK.out]
   rw [Bool.eq_iff_iff]
   simp)
  clear hb3 HBK3 HNO
  cases b1 <;> cases b2
  all_goals
   go_wp2_with fail
   go_ret
   exact ⟨by rw [HR.out, HE.out]; rfl, HB3.out⟩
 have e2 := beq_false_of_ne k2
 by_cases k3 : k = 3
 ·subst k3
  go_wp2_with fail
  refine HNO.out.mono ?_
  rintro e w3 ⟨rfl, hb3⟩
  have HB3 := hid (HB1.out.trans (hb3.mono HB1.out.size))
  have HBK3 := (hb3.block _ (Array.getElem?_eq_some_iff.1 HBK.out).1).trans HBK.out
  have z7 := Go.Joins.cell_of_block HBK3 7
  obtain ⟨b1, d1⟩ : ∃ b, noneT d.val = b := ⟨_, rfl⟩
  obtain ⟨b2, d2⟩ : ∃ b, decide (d.num ≥ 0) = b := ⟨_, rfl⟩
  obtain ⟨b3, d3⟩ : ∃ b, decide (d.num ≤ 999) = b := ⟨_, rfl⟩
  have HE : Hid (mayD d = (b1 && (b2 && b3))) := hid (by
   rw [← d1, ← d2, ← d3]
   unfold mayD
   rw [HMP.out, HK.out]
   rw [Bool.eq_iff_iff]
   simp)
  clear hb3 HBK3 HNO
  cases b1 <;> cases b2 <;> cases b3
  all_goals
   go_wp2_with fail
   go_ret
   exact ⟨by rw [HR.out, HE.out]; rfl, HB3.out⟩
 have e3 := beq_false_of_ne k3
 have HN : Hid (mayD d = false) := hid (by
  unfold mayD
  rw [HK.out]
  simp [k1, k2, k3])
 clear k1 k2 k3
 go_wp2_with fail
 go_ret
 exact ⟨by rw [HR.out, HN.out]; rfl, HB1.out⟩
theorem all_upto'D {α : Type} {p : α → Bool} {l : List α} (h : ∀ j (h : j < l.length), p l[j] = true) : l.all p = true := by
 rw [List.all_eq_true]
 intro x hx
 obtain ⟨j, hj, rfl⟩ := List.mem_iff_getElem.1 hx
 exact h j hj
theorem all_not'D {α : Type} {p : α → Bool} {l : List α} {j : Nat} (hj : j < l.length) (h : p l[j] = false) : l.all p = false := by
 rw [List.all_eq_false]
 exact ⟨l[j], List.getElem_mem hj, by rw [h]; simp⟩
set_option maxHeartbeats 4000000 in
theorem dlcheck1_any (S : Nat → Prop) (d : DelT) (cs : Array Value) (w : World) (hS : ∀ b, S b → b < w.heap.size) (h : DelL w S d cs) (hd : depthT d.val ≤ 4611686018427387903) :
  Calls Tryz.prog 188 #[.agg cs] w fun e w' => e = .returned (.bool (!mayD d)) ∧ Below w.heap.size w w' := by
 obtain ⟨PA, pc, VA, vc, VA', vc', rfl, hv, hp, hpc, hpn, hk, hn, hpl⟩ := id h
 obtain ⟨w1, hw1⟩ : ∃ W, W = w.alloc (.cells #[.int .i64 d.kind, .slice PA d.path.length pc, .int .i64 d.val.kind, .int .i64 d.val.num, .string d.val.text, .slice VA d.val.items.length vc, .slice VA' d.val.names.length vc', .int .i64 d.num] 65) := ⟨_, rfl⟩
 have hbk : w1.heap[w.heap.size]? = some (.cells #[.int .i64 d.kind, .slice PA d.path.length pc, .int .i64 d.val.kind, .int .i64 d.val.num, .string d.val.text, .slice VA d.val.items.length vc, .slice VA' d.val.names.length vc', .int .i64 d.num] 65 (0, 0)) := by rw [hw1]; exact heap_alloc_new w _
 have hb1 : Below w.heap.size w w1 := by rw [hw1]; exact (Below.refl _ _).alloc (Nat.le_refl _) _
 have y0 := Go.Joins.cell_of_block hbk 0
 have y1 := Go.Joins.cell_of_block hbk 1
 have y2 := Go.Joins.cell_of_block hbk 2
 have y3 := Go.Joins.cell_of_block hbk 3
 have y4 := Go.Joins.cell_of_block hbk 4
 have y5 := Go.Joins.cell_of_block hbk 5
 have y6 := Go.Joins.cell_of_block hbk 6
 have y7 := Go.Joins.cell_of_block hbk 7
 have HM := hid (dlmay_any S d _ w1 (fun b hb => Nat.lt_of_lt_of_le (hS b hb) hb1.size) (h.below hS hb1) hd)
 have HB1 := hid hb1
 clear hbk hb1 h hv hp hpc hpn hk hn hpl hS hd
 go_enter Tryz.func188, Tryz.ntmps188
 go_wp2_with fail
 rw [← hw1]
 refine HM.out.mono ?_
 rintro e w2 ⟨rfl, hb2⟩
 have HB2 := hid (HB1.out.trans (hb2.mono HB1.out.size))
 clear hb2
 clear HM
 go_wp2_with fail
 go_ret
 exact ⟨rfl, HB2.out⟩
set_option maxHeartbeats 4000000 in
theorem idxD_any (S : Nat → Prop) (A : Option Addr) (c : Nat) (l : List DelT) (w : World) (hS : ∀ b, S b → b < w.heap.size) (h : DelsL w S A l) (hn : l.length ≤ 140737488351232) (hd : SmallD l) :
  Calls Tryz.prog 169 #[.slice A l.length c, .func (.func 188) #[] #[]] w fun e w' => (∃ i : Int, e = .returned (.int .i64 i) ∧ decide (0 ≤ i) = (!(l.all mayD))) ∧ Below w.heap.size w w' := by
 have H := hid h
 have HS := hid hS
 have HD := hid hd
 have HN := hid hn
 clear h hS hd
 go_enter Tryz.func169, Tryz.ntmps169
 go_wp2_with fail
 go_loopw [8] (fun i wr => ∃ k : Nat, i = .int .i64 k ∧ k ≤ l.length ∧ Hid (Below w.heap.size w wr) ∧ Hid (∀ j (h : j < l.length), j < k → mayD l[j] = true)) (fun i _ => l.length - (intOf i).toNat)
 case atStart => exact ⟨0, rfl, by omega, hid (Below.refl _ _), hid fun j _ h => absurd h (by omega)⟩
 case round =>
  obtain ⟨k, rfl, hk, HB, HJ⟩ := hrel
  by_cases hlt : k < l.length
  ·have hS2 : ∀ b, S b → b < wr.heap.size := fun b hb => Nat.lt_of_lt_of_le (HS.out b hb) HB.out.size
   obtain ⟨bp, off, PA, pc, VA, vc, VA', vc', rfl, hpS, ho, x0, x1, x2, x3, x4, x5, x6, x7⟩ := (H.out.below HS.out HB.out).cells k hlt
   have HC := hid (dlcheck1_any S l[k] _ wr hS2 ho (HD.out _ (List.getElem_mem hlt)))
   clear ho hS2 hpS
   go_wp2_with fail
   refine HC.out.mono ?_
   rintro e u ⟨rfl, hb⟩
   have HB2 := hid (HB.out.trans (hb.mono HB.out.size))
   clear hb HC x0 x1 x2 x3 x4 x5 x6 x7
   cases hm : mayD l[k]
   ·have HM := hid hm
    clear hm
    go_wp2_with fail
    go_ret
    exact ⟨⟨k, rfl, by rw [all_not'D hlt HM.out]; simp⟩, HB2.out⟩
   ·have HM := hid hm
    clear hm
    go_wp2_with fail
    go_roundw
    case rel => exact ⟨k + 1, by go_num, by omega, HB2, hid fun j h hjk => by
     by_cases e : j = k
     ·subst e; exact HM.out
     ·exact HJ.out j h (by omega)⟩
    case measure => simp [intOf]; omega
  ·go_wp2_with fail
   go_ret
   exact ⟨⟨-1, rfl, by rw [all_upto'D fun j h => HJ.out j h (by omega)]; rfl⟩, HB.out⟩
theorem contD_any (S : Nat → Prop) (A : Option Addr) (c : Nat) (l : List DelT) (w : World) (hS : ∀ b, S b → b < w.heap.size) (h : DelsL w S A l) (hn : l.length ≤ 140737488351232) (hd : SmallD l) :
  Calls Tryz.prog 133 #[.slice A l.length c, .func (.func 188) #[] #[]] w fun e w' => e = .returned (.bool (!(l.all mayD))) ∧ Below w.heap.size w w' := by
 have HC := hid (idxD_any S A c l w hS h hn hd)
 clear h hS hd
 go_enter Tryz.func133, Tryz.ntmps133
 go_wp2_with fail
 refine HC.out.mono ?_
 rintro e u ⟨⟨i, rfl, hi⟩, hb⟩
 have HI := hid hi
 have HB := hid hb
 clear hi hb HC
 go_wp2_with fail
 go_ret
 exact ⟨ret_bool HI.out, HB.out⟩
set_option maxHeartbeats 4000000 in
theorem dlcheck_any (S : Nat → Prop) (A : Option Addr) (c : Nat) (l : List DelT) (w : World) (hS : ∀ b, S b → b < w.heap.size) (h : DelsL w S A l) (hn : l.length ≤ 140737488351232) (hd : SmallD l) :
  Calls Tryz.prog 166 #[.slice A l.length c] w fun e w' => e = .returned (.int .i64 (checkD l)) ∧ Below w.heap.size w w' := by
 have HC := hid (contD_any S A c l w hS h hn hd)
 clear h hS hd
 obtain ⟨r, hr⟩ : ∃ r, r = checkD l := ⟨_, rfl⟩
 have HR := hid hr
 rw [← hr]
 clear hr
 go_enter Tryz.func166, Tryz.ntmps166
 by_cases h64 : 64 < l.length
 ·have d1 : decide ((l.length : Int) > 64) = true := decide_eq_true (by omega)
  go_wp2_with fail
  go_ret
  exact ⟨by rw [HR.out]; unfold checkD; rw [if_pos h64]; rfl, Below.refl _ _⟩
 ·have d1 : decide ((l.length : Int) > 64) = false := decide_eq_false (by omega)
  have H64 := hid h64
  clear h64
  go_wp2_with fail
  refine HC.out.mono ?_
  rintro e u ⟨rfl, hb⟩
  have HB := hid hb
  clear hb HC
  cases ha : l.all mayD
  ·have HA := hid ha
   clear ha
   go_wp2_with fail
   go_ret
   exact ⟨by rw [HR.out]; unfold checkD; rw [if_neg H64.out, HA.out]; rfl, HB.out⟩
  ·have HA := hid ha
   clear ha
   go_wp2_with fail
   go_ret
   exact ⟨by rw [HR.out]; unfold checkD; rw [if_neg H64.out, HA.out]; rfl, HB.out⟩
theorem same_none {t : VT} {r : Bool} (h : r = true ↔ t = .mk 0 0 ⟨#[]⟩ [] []) : r = noneT t := by rw [Bool.eq_iff_iff, h, noneT_iff]
set_option maxHeartbeats 16000000 in
theorem r6may_any (S : Nat → Prop) (d : DelT) (cs : Array Value) (w : World) (hS : ∀ b, S b → b < w.heap.size) (h : DelL w S d cs) (hd : depthT d.val ≤ 4611686018427387903) :
  Calls Tryz.prog 139 #[.agg cs] w fun e w' => e = .returned (.bool (mayD d)) ∧ Below w.heap.size w w' := by
 obtain ⟨PA, pc, VA, vc, VA', vc', rfl, hv, hp, hpc, hpn, hk, hn, hpl⟩ := h
 obtain ⟨w1, hw1⟩ : ∃ W, W = w.alloc (.cells #[.int .i64 d.kind, .slice PA d.path.length pc, .int .i64 d.val.kind, .int .i64 d.val.num, .string d.val.text, .slice VA d.val.items.length vc, .slice VA' d.val.names.length vc', .int .i64 d.num] 65) := ⟨_, rfl⟩
 have hbk : w1.heap[w.heap.size]? = some (.cells #[.int .i64 d.kind, .slice PA d.path.length pc, .int .i64 d.val.kind, .int .i64 d.val.num, .string d.val.text, .slice VA d.val.items.length vc, .slice VA' d.val.names.length vc', .int .i64 d.num] 65 (0, 0)) := by rw [hw1]; exact heap_alloc_new w _
 have hb1 : Below w.heap.size w w1 := by rw [hw1]; exact (Below.refl _ _).alloc (Nat.le_refl _) _
 have y0 := Go.Joins.cell_of_block hbk 0
 have y1 := Go.Joins.cell_of_block hbk 1
 have y2 := Go.Joins.cell_of_block hbk 2
 have y3 := Go.Joins.cell_of_block hbk 3
 have y4 := Go.Joins.cell_of_block hbk 4
 have y5 := Go.Joins.cell_of_block hbk 5
 have y6 := Go.Joins.cell_of_block hbk 6
 have y7 := Go.Joins.cell_of_block hbk 7
 have hS1 : ∀ b, S b → b < w1.heap.size := fun b hb => Nat.lt_of_lt_of_le (hS b hb) hb1.size
 have hv1 := hv.keep fun b hb => hb1.block b (hS b hb)
 have HMA := hid (rpmay_any PA pc d.path w1 S (hp.keep fun b hb => hb1.block b (hS b hb)) (by omega))
 have HNO := hid (rsame_any S (depthT d.val) d.val (.mk 0 0 ⟨#[]⟩ [] []) _ (.agg #[.int .i64 0, .int .i64 0, .string ⟨#[]⟩, .slice none 0 0, .slice none 0 0]) _ (Nat.le_refl _) hS1 hv1 (zero_lv _ _))
 have HD := hid hd
 have HV := hid hv1
 have HBK := hid hbk
 have HB1 := hid hb1
 have HW1 := hid hw1
 have HS := hid hS
 obtain ⟨r, hr⟩ : ∃ r, r = mayD d := ⟨_, rfl⟩
 have HR := hid hr
 rw [← hr]
 clear hbk hb1 hS1 hv1 hv hp hpc hpn hk hn hpl hd hS hr
 go_enter Tryz.func139, Tryz.ntmps139
 go_wp2_with fail
 rw [← hw1]
 clear hw1
 refine HMA.out.mono ?_
 rintro e w2 ⟨rfl, rfl⟩
 clear HMA
 cases hmp : mayP d.path
 ·go_wp2_with fail
  go_ret
  exact ⟨by rw [HR.out]; unfold mayD; rw [hmp]; rfl, HB1.out⟩
 have HMP := hid hmp
 clear hmp
 obtain ⟨k, hk⟩ : ∃ k, k = d.kind := ⟨_, rfl⟩
 rw [← hk] at y0
 have HK := hid hk.symm
 clear hk
 go_wp2_with fail
 refine HNO.out.mono ?_
 rintro e w3 ⟨⟨rn, rfl, hrn⟩, hb3⟩
 obtain rfl := same_none hrn
 have HB3 := hid (HB1.out.trans (hb3.mono HB1.out.size))
 have hk3 := (hb3.block _ (Array.getElem?_eq_some_iff.1 HBK.out).1).trans HBK.out
 have HV3 := hid (HV.out.keep fun b hb => hb3.block b (Nat.lt_of_lt_of_le (HS.out b hb) HB1.out.size))
 have HBK3 := hid hk3
 have x0 := Go.Joins.cell_of_block hk3 0
 have x1 := Go.Joins.cell_of_block hk3 1
 have x2 := Go.Joins.cell_of_block hk3 2
 have x3 := Go.Joins.cell_of_block hk3 3
 have x4 := Go.Joins.cell_of_block hk3 4
 have x5 := Go.Joins.cell_of_block hk3 5
 have x6 := Go.Joins.cell_of_block hk3 6
 have x7 := Go.Joins.cell_of_block hk3 7
 rw [HK.out] at x0
 clear hb3 hk3 HNO hrn y0 y1 y2 y3 y4 y5 y6 y7 HV HBK
 by_cases k1 : k = 1
 ·subst k1
  have HCK := hid (rcheck_any S d.val _ w3 HD.out (fun b hb => Nat.lt_of_lt_of_le (HS.out b hb) HB3.out.size) HV3.out)
  go_wp2_with fail
  refine HCK.out.mono ?_
  rintro e w4 ⟨rfl, hb4⟩
  have HB4 := hid (HB3.out.trans (hb4.mono HB3.out.size))
  have HBK4 := (hb4.block _ (Array.getElem?_eq_some_iff.1 HBK3.out).1).trans HBK3.out
  have z7 := Go.Joins.cell_of_block HBK4 7
  obtain ⟨b1, d1⟩ : ∃ b, (checkT d.val == 0) = b := ⟨_, rfl⟩
  obtain ⟨b2, d2⟩ : ∃ b, (d.num == 0) = b := ⟨_, rfl⟩
  have HE : Hid (mayD d = (b1 && b2)) := hid (by
   rw [← d1, ← d2]
   unfold mayD
   rw [HMP.out, HK.out]
   rw [Bool.eq_iff_iff]
   simp)
  clear hb4 HBK4 HCK
  cases b1 <;> cases b2
  all_goals
   go_wp2_with fail
   go_ret
   exact ⟨by rw [HR.out, HE.out]; rfl, HB4.out⟩
 have e1 := beq_false_of_ne k1
 by_cases k2 : k = 2
 ·subst k2
  obtain ⟨b1, d1⟩ : ∃ b, noneT d.val = b := ⟨_, rfl⟩
  obtain ⟨b2, d2⟩ : ∃ b, (d.num == 0) = b := ⟨_, rfl⟩
  have HE : Hid (mayD d = (b1 && b2)) := hid (by
   rw [← d1, ← d2]
   unfold mayD
   rw [HMP.out, HK.out]
   rw [Bool.eq_iff_iff]
   simp)
  rw [d1]
  cases b1 <;> cases b2
  all_goals
   go_wp2_with fail
   go_ret
   exact ⟨by rw [HR.out, HE.out]; rfl, HB3.out⟩
 have e2 := beq_false_of_ne k2
 by_cases k3 : k = 3
 ·subst k3
  obtain ⟨b1, d1⟩ : ∃ b, noneT d.val = b := ⟨_, rfl⟩
  obtain ⟨b2, d2⟩ : ∃ b, decide (d.num ≥ 0) = b := ⟨_, rfl⟩
  obtain ⟨b3, d3⟩ : ∃ b, decide (d.num ≤ 999) = b := ⟨_, rfl⟩
  have HE : Hid (mayD d = (b1 && (b2 && b3))) := hid (by
   rw [← d1, ← d2, ← d3]
   unfold mayD
   rw [HMP.out, HK.out]
   rw [Bool.eq_iff_iff]
   simp)
  rw [d1]
  cases b1 <;> cases b2 <;> cases b3
  all_goals
   go_wp2_with fail
   go_ret
   exact ⟨by rw [HR.out, HE.out]; rfl, HB3.out⟩
 have e3 := beq_false_of_ne k3
 have HN : Hid (mayD d = false) := hid (by
  unfold mayD
  rw [HK.out]
  simp [k1, k2, k3])
 clear k1 k2 k3
 go_wp2_with fail
 go_ret
 exact ⟨by rw [HR.out, HN.out]; rfl, HB3.out⟩
def bigD (d : DelT) : Bool := largeT d.val || decide (50 < d.path.length)
def largeD (l : List DelT) : Bool := (l.take 70).any bigD || decide (100 < l.length)
theorem largeD_hit {l : List DelT} {k : Nat} (hk : k < l.length) (h70 : k < 70) (h : bigD l[k] = true) : largeD l = true := by
 unfold largeD
 rw [List.any_eq_true.2 ⟨l[k], List.mem_take_iff_getElem.2 ⟨k, by omega, rfl⟩, h⟩]
 rfl
theorem largeD_miss {l : List DelT} {k : Nat} (h : ∀ j (hj : j < l.length), j < k → bigD l[j] = false) (hk : k = l.length ∨ 70 ≤ k) : largeD l = decide (100 < l.length) := by
 unfold largeD
 rw [show (l.take 70).any bigD = false from List.any_eq_false.2 fun x hx => by
  obtain ⟨j, hj, rfl⟩ := List.mem_take_iff_getElem.1 hx
  rw [h j (by omega) (by omega)]
  simp]
 rfl
theorem largeD_small {l : List DelT} (h : largeD l = false) : l.length ≤ 100 ∧ ∀ d ∈ l.take 70, depthT d.val ≤ 41 ∧ d.path.length ≤ 50 ∧ largeT d.val = false := by
 unfold largeD at h
 simp only [Bool.or_eq_false_iff, decide_eq_false_iff_not] at h
 refine ⟨by omega, fun d hd => ?_⟩
 have h4 := List.any_eq_false.1 h.1 d hd
 unfold bigD at h4
 simp only [Bool.or_eq_true, not_or, decide_eq_true_eq, Bool.not_eq_true] at h4
 exact ⟨depth_small h4.1, by omega, h4.1⟩
set_option maxHeartbeats 16000000 in
theorem r6large_any (S : Nat → Prop) (A : Option Addr) (c : Nat) (l : List DelT) (w : World) (hS : ∀ b, S b → b < w.heap.size) (h : DelsL w S A l) (hn : l.length ≤ 140737488351232) :
  Calls Tryz.prog 45 #[.slice A l.length c] w fun e w' => e = .returned (.bool (largeD l)) ∧ Below w.heap.size w w' := by
 have H := hid h
 have HS := hid hS
 obtain ⟨r, hr⟩ : ∃ r, r = largeD l := ⟨_, rfl⟩
 have HR := hid hr
 rw [← hr]
 obtain ⟨n, hn'⟩ : ∃ n, n = l.length := ⟨_, rfl⟩
 have HN := hid hn'
 rw [← hn'] at hn ⊢
 clear h hS hr hn'
 go_enter Tryz.func45, Tryz.ntmps45
 go_wp2_with fail
 go_loopw [3] (fun i wr => ∃ k : Nat, i = .int .i64 k ∧ k ≤ n ∧ k ≤ 70 ∧ Hid (Below w.heap.size w wr) ∧ Hid (∀ j (h : j < l.length), j < k → bigD l[j] = false)) (fun i _ => n - (intOf i).toNat)
 case atStart => exact ⟨0, rfl, by omega, by omega, hid (Below.refl _ _), hid fun j _ h => absurd h (by omega)⟩
 case round =>
  obtain ⟨k, rfl, hk, hk6, HB, HJ⟩ := hrel
  by_cases hlt : k < n ∧ k < 70
  ·obtain ⟨hlt, h70⟩ := hlt
   have d1 : decide ((k : Int) < (n : Int)) = true := decide_eq_true (by omega)
   have d2 : decide ((k : Int) < 70) = true := decide_eq_true (by omega)
   have hkl : k < l.length := by have := HN.out; omega
   have hS2 : ∀ b, S b → b < wr.heap.size := fun b hb => Nat.lt_of_lt_of_le (HS.out b hb) HB.out.size
   obtain ⟨p, off, PA, pc, VA, vc, VA', vc', rfl, hpS, ho, x0, x1, x2, x3, x4, x5, x6, x7⟩ := (H.out.below HS.out HB.out).cells k hkl
   have hlv : LV wr S l[k].val (.agg #[.int .i64 l[k].val.kind, .int .i64 l[k].val.num, .string l[k].val.text, .slice VA l[k].val.items.length vc, .slice VA' l[k].val.names.length vc']) := by
    obtain ⟨PB, pd, VB, vd, VB', vd', e, q0, -⟩ := ho
    simp only [Array.mk.injEq, List.cons.injEq, Value.slice.injEq, and_true, true_and] at e
    obtain ⟨⟨rfl, rfl⟩, ⟨rfl, rfl⟩, rfl, rfl⟩ := e
    exact q0
   have HLG := hid (large_any S l[k].val _ wr hS2 hlv)
   have hp2 := hS2 p hpS
   have HX : Hid (∀ W, Below wr.heap.size wr W → W.cell? ⟨p, off + k * 8 + 1, none⟩ = some (.slice PA l[k].path.length pc)) := hid fun W hW => (hW.cell (p := ⟨p, off + k * 8 + 1, none⟩) hp2).trans x1
   have HBO : Hid (bigD l[k] = (largeT l[k].val || decide (50 < l[k].path.length))) := hid rfl
   obtain ⟨np, hnp⟩ : ∃ n, n = l[k].path.length := ⟨_, rfl⟩
   obtain ⟨lg, hlg⟩ : ∃ b, b = largeT l[k].val := ⟨_, rfl⟩
   rw [← hnp] at HX HBO x1
   rw [← hlg] at HLG HBO
   have HH := hid (fun hb : bigD l[k] = true => largeD_hit hkl h70 hb)
   clear hlv hpS ho hnp hlg hS2 hp2
   go_wp2_with fail
   refine HLG.out.mono ?_
   rintro e u ⟨rfl, hb⟩
   have HB2 := hid (HB.out.trans (hb.mono HB.out.size))
   have x1' := HX.out u hb
   clear x0 x1 x2 x3 x4 x5 x6 x7 hb HLG HX
   cases lg
   rotate_left
   ·have HT : Hid (largeD l = true) := hid (HH.out (by rw [HBO.out]; rfl))
    go_wp2_with fail
    go_ret
    exact ⟨by rw [HR.out, HT.out]; rfl, HB2.out⟩
   by_cases h50 : 50 < np
   ·have d3 : decide ((np : Int) > 50) = true := decide_eq_true (by omega)
    have HT : Hid (largeD l = true) := hid (HH.out (by rw [HBO.out, decide_eq_true h50]; rfl))
    clear h50
    go_wp2_with fail
    go_ret
    exact ⟨by rw [HR.out, HT.out]; rfl, HB2.out⟩
   ·have d3 : decide ((np : Int) > 50) = false := decide_eq_false (by omega)
    have HT : Hid (bigD l[k] = false) := hid (by rw [HBO.out, decide_eq_false h50]; rfl)
    clear h50
    go_wp2_with fail
    go_roundw
    case rel => exact ⟨k + 1, by go_num, by omega, by omega, HB2, hid fun j h hjk => by
     by_cases e : j = k
     ·subst e; exact HT.out
     ·exact HJ.out j h (by omega)⟩
    case measure => simp [intOf]; omega
  ·have HM : Hid (largeD l = decide (100 < n)) := hid (by rw [HN.out]; exact largeD_miss HJ.out (by have := HN.out; omega))
   have hcut : (k < n ∧ ¬ k < 70) ∨ ¬ k < n := by omega
   clear hlt hk
   by_cases h50 : 100 < n
   ·have d3 : decide ((n : Int) > 100) = true := decide_eq_true (by omega)
    have HE : Hid (largeD l = true) := hid (by rw [HM.out, decide_eq_true h50])
    clear h50
    rcases hcut with ⟨c1, c2⟩ | c1
    ·have d1 : decide ((k : Int) < (n : Int)) = true := decide_eq_true (by omega)
     have d2 : decide ((k : Int) < 70) = false := decide_eq_false (by omega)
     go_wp2_with fail
     go_ret
     exact ⟨by rw [HR.out, HE.out]; rfl, HB.out⟩
    ·have d1 : decide ((k : Int) < (n : Int)) = false := decide_eq_false (by omega)
     go_wp2_with fail
     go_ret
     exact ⟨by rw [HR.out, HE.out]; rfl, HB.out⟩
   ·have d3 : decide ((n : Int) > 100) = false := decide_eq_false (by omega)
    have HE : Hid (largeD l = false) := hid (by rw [HM.out, decide_eq_false h50])
    clear h50
    rcases hcut with ⟨c1, c2⟩ | c1
    ·have d1 : decide ((k : Int) < (n : Int)) = true := decide_eq_true (by omega)
     have d2 : decide ((k : Int) < 70) = false := decide_eq_false (by omega)
     go_wp2_with fail
     go_ret
     exact ⟨by rw [HR.out, HE.out]; rfl, HB.out⟩
    ·have d1 : decide ((k : Int) < (n : Int)) = false := decide_eq_false (by omega)
     go_wp2_with fail
     go_ret
     exact ⟨by rw [HR.out, HE.out]; rfl, HB.out⟩
set_option maxHeartbeats 8000000 in
theorem r6check_any (S : Nat → Prop) (A : Option Addr) (c : Nat) (l : List DelT) (w : World) (hS : ∀ b, S b → b < w.heap.size) (h : DelsL w S A l) (hn : l.length ≤ 140737488351232) (hd : SmallD l) :
  Calls Tryz.prog 90 #[.slice A l.length c] w fun e w' => e = .returned (.int .i64 (checkD l)) ∧ Below w.heap.size w w' := by
 have H := hid h
 have HS := hid hS
 have HD := hid hd
 obtain ⟨r, hr⟩ : ∃ r, r = checkD l := ⟨_, rfl⟩
 have HR := hid hr
 rw [← hr]
 obtain ⟨n, hn'⟩ : ∃ n, n = l.length := ⟨_, rfl⟩
 have HN := hid hn'
 rw [← hn'] at hn ⊢
 clear h hS hr hn' hd
 go_enter Tryz.func90, Tryz.ntmps90
 by_cases h64 : 64 < n
 ·have d1 : decide ((n : Int) > 64) = true := decide_eq_true (by omega)
  go_wp2_with fail
  go_ret
  exact ⟨by rw [HR.out]; unfold checkD; rw [if_pos (by have := HN.out; omega)]; rfl, Below.refl _ _⟩
 have d1 : decide ((n : Int) > 64) = false := decide_eq_false (by omega)
 have H64 : Hid (¬ 64 < l.length) := hid (by have := HN.out; omega)
 go_wp2_with fail
 go_loopw [3] (fun i wr => ∃ k : Nat, i = .int .i64 k ∧ k ≤ n ∧ Hid (Below w.heap.size w wr) ∧ Hid (∀ j (h : j < l.length), j < k → mayD l[j] = true)) (fun i _ => n - (intOf i).toNat)
 case atStart => exact ⟨0, rfl, by omega, hid (Below.refl _ _), hid fun j _ h => absurd h (by omega)⟩
 case round =>
  obtain ⟨k, rfl, hk, HB, HJ⟩ := hrel
  by_cases hlt : k < n
  ·have d2 : decide ((k : Int) < (n : Int)) = true := decide_eq_true (by omega)
   have hkl : k < l.length := by have := HN.out; omega
   have hS2 : ∀ b, S b → b < wr.heap.size := fun b hb => Nat.lt_of_lt_of_le (HS.out b hb) HB.out.size
   obtain ⟨p, off, PA, pc, VA, vc, VA', vc', rfl, hpS, ho, x0, x1, x2, x3, x4, x5, x6, x7⟩ := (H.out.below HS.out HB.out).cells k hkl
   have HC := hid (r6may_any S l[k] _ wr hS2 ho (HD.out _ (List.getElem_mem hkl)))
   clear ho hS2 hpS
   go_wp2_with fail
   refine HC.out.mono ?_
   rintro e u ⟨rfl, hb⟩
   have HB2 := hid (HB.out.trans (hb.mono HB.out.size))
   clear hb HC x0 x1 x2 x3 x4 x5 x6 x7
   cases hm : mayD l[k]
   ·have HM := hid hm
    clear hm
    go_wp2_with fail
    go_ret
    exact ⟨by rw [HR.out]; unfold checkD; rw [if_neg H64.out, all_not'D hkl HM.out]; rfl, HB2.out⟩
   ·have HM := hid hm
    clear hm
    go_wp2_with fail
    go_roundw
    case rel => exact ⟨k + 1, by go_num, by omega, HB2, hid fun j h hjk => by
     by_cases e : j = k
     ·subst e; exact HM.out
     ·exact HJ.out j h (by omega)⟩
    case measure => simp [intOf]; omega
  ·have d2 : decide ((k : Int) < (n : Int)) = false := decide_eq_false (by omega)
   have HA : Hid (l.all mayD = true) := hid (all_upto'D fun j h => HJ.out j h (by have := HN.out; omega))
   go_wp2_with fail
   go_ret
   exact ⟨by rw [HR.out]; unfold checkD; rw [if_neg H64.out, HA.out]; rfl, HB.out⟩
end Go.Proofs.YtlipkmdjpligeaaGreat

/- A list's code is read back: plain. -/
namespace Go.Proofs.YtlipkmdjpligeaaGreat
set_option linter.unusedVariables false
set_option linter.unusedSimpArgs false
set_option maxRecDepth 100000
theorem checkD_zero {l : List DelT} (h : checkD l = 0) : l.length ≤ 64 ∧ ∀ d ∈ l, mayD d = true := by
 unfold checkD at h
 by_cases h1 : 64 < l.length
 ·rw [if_pos h1] at h; omega
 ·rw [if_neg h1] at h
  by_cases h2 : l.all mayD = true
  ·exact ⟨by omega, fun d hd => List.all_eq_true.1 h2 d hd⟩
  ·rw [if_neg h2] at h; omega
def SmallZD (l : List DelT) : Prop := ∀ d ∈ l, sizeT d.val ≤ 9223372036854775807
/-! ### what lies at one step -/
def itemT (t : VT) (s : ByteArray) : Option VT := if placeT t s < 0 then none else t.items[(placeT t s).toNat]?
theorem getT_item (t : VT) (s : ByteArray) (r : List ByteArray) : getT t (s :: r) = (itemT t s).bind fun u => getT u r := by
  conv => lhs; unfold getT
  unfold itemT
  split
  · rfl
  · cases t.items[(placeT t s).toNat]? <;> rfl
def lookN : List ByteArray → List VT → ByteArray → Option VT
  | a :: r, x :: l, s => if a = s then some x else lookN r l s
  | _, _, _ => none
theorem nmI_shift (s : ByteArray) : ∀ (l : List ByteArray) (k : Nat), nmI k l s = if nmI 0 l s < 0 then -1 else nmI 0 l s + k
  | [], k => by unfold nmI; simp
  | a :: r, k => by
    unfold nmI
    by_cases h : a = s
    · rw [if_pos h, if_pos h]; simp
    · rw [if_neg h, if_neg h]
      have h1 := nmI_shift s r (k + 1)
      have h2 := nmI_shift s r 1
      have h3 := (nmI_lt (s := s) (l := r) (k := 0)).1
      rw [h1]
      show _ = if nmI (0 + 1) r s < 0 then (-1 : Int) else nmI (0 + 1) r s + k
      rw [show 0 + 1 = 1 from rfl, h2]
      split <;> split <;> omega
theorem look_names (s : ByteArray) : ∀ (ns : List ByteArray) (l : List VT), (if nmI 0 ns s < 0 then none else l[(nmI 0 ns s).toNat]?) = lookN ns l s
  | [], l => by unfold nmI lookN; simp
  | a :: r, l => by
    by_cases h : a = s
    · have e : nmI 0 (a :: r) s = 0 := by unfold nmI; rw [if_pos h]; rfl
      rw [e]
      cases l with
      | nil => unfold lookN; simp
      | cons x l => unfold lookN; simp [h]
    · have e : nmI 0 (a :: r) s = nmI 1 r s := by conv => lhs; unfold nmI
                                                  rw [if_neg h]
      have e2 := nmI_shift s r 1
      have ih := look_names s r
      rw [e, e2]
      have h3 := (nmI_lt (s := s) (l := r) (k := 0)).1
      cases l with
      | nil =>
        unfold lookN
        split <;> simp
      | cons x l =>
        unfold lookN
        rw [if_neg h, ← ih l]
        by_cases hn : nmI 0 r s < 0
        · rw [if_pos hn, if_pos hn]; rfl
        · rw [if_neg hn, if_neg hn, if_neg (by omega)]
          have : (nmI 0 r s + ((1 : Nat) : Int)).toNat = (nmI 0 r s).toNat + 1 := by omega
          rw [this, List.getElem?_cons_succ]
theorem item_doc {t : VT} (h : t.kind = 7) (s : ByteArray) : itemT t s = lookN t.names t.items s := by
  unfold itemT
  rw [placeT_doc h]
  exact look_names s t.names t.items
theorem mayT_iff (t : VT) : mayT t = true ↔ fitsP t.kind t.num t.text t.items.length t.names = true ∧ ∀ x ∈ t.items, mayT x = true := by
  rw [mayT_mk2, Bool.and_eq_true]
  refine and_congr_right fun _ => ⟨fun h x hx => mayL_mem h hx, fun h => mayL_all fun j hj => h _ (List.getElem_mem hj)⟩
end Go.Proofs.YtlipkmdjpligeaaGreat
