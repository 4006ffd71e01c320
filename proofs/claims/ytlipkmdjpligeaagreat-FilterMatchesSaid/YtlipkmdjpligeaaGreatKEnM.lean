/- Whether an entry may be, by the document. (Written by mkenm.py.) -/
import Derived.Test.YtlipkmdjpligeaaGreatKEnJ
import Derived.Test.YtlipkmdjpligeaaGreatKValQ
import Derived.Test.YtlipkmdjpligeaaGreatKTrD
namespace Go.Proofs.YtlipkmdjpligeaaGreat
open Lib (hid)
set_option linter.unusedVariables false
set_option linter.unusedSimpArgs false
open Go.RowKit
set_option maxRecDepth 100000
theorem name13_below (s : ByteArray) (w : World) (hs : s.size ≤ 140737488351232) : Calls Tryz.prog 36 #[.string s] w fun e w' => e = .returned (.bool (nameC s)) ∧ Below w.heap.size w w' :=
 (r13name_any s w hs).mono fun _ _ h => ⟨h.1, by rw [h.2]; exact Below.refl _ _⟩
theorem len_pos5 {n : Nat} (h : ¬ n = 0) : (0 : Int) < (n : Int) := by omega
set_option maxHeartbeats 16000000 in
theorem r13may_bits (b1 b2 b3 b4 b5 : Bool) (hb : (b1 = false ∧ b2 = false ∧ b3 = false ∧ b4 = false ∧ b5 = false) ∨ (b1 = true ∧ b2 = false ∧ b3 = true ∧ b4 = true ∧ b5 = false) ∨ (b1 = true ∧ b2 = false ∧ b3 = true ∧ b4 = false ∧ b5 = true) ∨ (b1 = true ∧ b2 = false ∧ b3 = true ∧ b4 = false ∧ b5 = false) ∨ (b1 = true ∧ b2 = false ∧ b3 = false ∧ b4 = false ∧ b5 = false) ∨ (b1 = true ∧ b2 = true ∧ b3 = false ∧ b4 = false ∧ b5 = false)) (S : Nat → Prop) (e : EntT) (IA : Option Addr) (ic : Nat) (IA' : Option Addr) (ic' : Nat) (DA : Option Addr) (dc : Nat) (DA' : Option Addr) (dc' : Nat) (LA : Option Addr) (lc : Nat) (w : World) (hS : ∀ b, S b → b < w.heap.size) (h : EntAt w S e IA ic IA' ic' DA dc DA' dc' LA lc) (hd : SmE e)
  (hh : ∀ W, Calls Tryz.prog 46 #[.int .i64 e.kind] W fun r w' => r = .returned (.tuple #[.bool b1, .bool b2, .bool b3, .bool b4, .bool b5]) ∧ w' = W) (hkd : if b1 = true then e.kind ≠ 1 else (1 ≤ e.kind → e.kind ≤ 7 → e.kind = 1)) :
  Calls Tryz.prog 22 #[.agg #[.int .i64 e.term, .int .i64 e.kind, .string e.coll, .string e.to, .int .i64 e.id.kind, .int .i64 e.id.num, .string e.id.text, .slice IA e.id.items.length ic, .slice IA' e.id.names.length ic', .int .i64 e.doc.kind, .int .i64 e.doc.num, .string e.doc.text, .slice DA e.doc.items.length dc, .slice DA' e.doc.names.length dc', .slice LA e.dels.length lc, .int .i64 e.session, .int .i64 e.number]] w fun r w' => r = .returned (.bool (knownE e.kind && numE e && ((b1 || decide (e.coll.size = 0)) && (b2 || decide (e.to.size = 0)) && (b3 || noneT e.id) && (b4 || noneT e.doc) && (b5 || decide (e.dels.length = 0))) && ((!b1 || nameC e.coll) && (!b2 || (nameC e.to && decide (e.to ≠ e.coll))) && (!b3 || decide (checkT e.id = 0)) && (!b4 || holdE e.doc e.id) && (!b5 || mayDo e.dels)))) ∧ Below w.heap.size w w' := by
 obtain ⟨w1, hw1⟩ : ∃ W, W = w.alloc (.cells #[.int .i64 e.term, .int .i64 e.kind, .string e.coll, .string e.to, .int .i64 e.id.kind, .int .i64 e.id.num, .string e.id.text, .slice IA e.id.items.length ic, .slice IA' e.id.names.length ic', .int .i64 e.doc.kind, .int .i64 e.doc.num, .string e.doc.text, .slice DA e.doc.items.length dc, .slice DA' e.doc.names.length dc', .slice LA e.dels.length lc, .int .i64 e.session, .int .i64 e.number] 30) := ⟨_, rfl⟩
 have hbk : EBox w1 w.heap.size e IA ic IA' ic' DA dc DA' dc' LA lc := by rw [hw1]; exact heap_alloc_new w _
 have hb1 : Below w.heap.size w w1 := by rw [hw1]; exact below_box _
 obtain ⟨r, hr⟩ : ∃ r, r = (knownE e.kind && numE e && ((b1 || decide (e.coll.size = 0)) && (b2 || decide (e.to.size = 0)) && (b3 || noneT e.id) && (b4 || noneT e.doc) && (b5 || decide (e.dels.length = 0))) && ((!b1 || nameC e.coll) && (!b2 || (nameC e.to && decide (e.to ≠ e.coll))) && (!b3 || decide (checkT e.id = 0)) && (!b4 || holdE e.doc e.id) && (!b5 || mayDo e.dels))) := ⟨_, rfl⟩
 have HR := hid hr
 rw [← hr]
 have HB1 := hid hb1
 have HK1 := hid hbk
 have HS := hid hS
 have HA := hid h
 have HD := hid hd
 have HH := hid hh
 have HKD := hid hkd
 have HCB := hid hb
 clear hr hb1 hbk hS h hd hh hkd hb
 go_enter Tryz.func22, Tryz.ntmps22
 by_cases hK1 : 1 ≤ e.kind
 case neg =>
  have gK1 : e.kind < 1 := by omega
  have HE : Hid (r = false) := hid (by rw [HR.out]; unfold knownE numE; rw [decide_eq_false hK1]; simp)
  have dK1 : decide (e.kind < 1) = true := decide_eq_true gK1
  clear hK1
  go_wp2_with fail
  rw [← hw1]
  go_ret
  exact ⟨by rw [HE.out]; rfl, HB1.out⟩
 by_cases hK7 : e.kind ≤ 7
 case neg =>
  have gK7 : 7 < e.kind := by omega
  have HE : Hid (r = false) := hid (by rw [HR.out]; unfold knownE numE; rw [decide_eq_false hK7]; simp)
  have dK7 : decide (7 < e.kind) = true := decide_eq_true gK7
  have gK1 : decide (e.kind < 1) = false := decide_eq_false (by omega)
  clear hK7
  go_wp2_with fail
  rw [← hw1]
  go_ret
  exact ⟨by rw [HE.out]; rfl, HB1.out⟩
 by_cases hT0 : 0 ≤ e.term
 case neg =>
  have gT0 : e.term < 0 := by omega
  have HE : Hid (r = false) := hid (by rw [HR.out]; unfold knownE numE; rw [decide_eq_false hT0]; simp)
  have dT0 : decide (e.term < 0) = true := decide_eq_true gT0
  have gK1 : decide (e.kind < 1) = false := decide_eq_false (by omega)
  have gK7 : decide (7 < e.kind) = false := decide_eq_false (by omega)
  clear hT0
  go_wp2_with fail
  rw [← hw1]
  go_ret
  exact ⟨by rw [HE.out]; rfl, HB1.out⟩
 by_cases hT1 : e.term ≤ 1099511627776
 case neg =>
  have gT1 : 1099511627776 < e.term := by omega
  have HE : Hid (r = false) := hid (by rw [HR.out]; unfold knownE numE; rw [decide_eq_false hT1]; simp)
  have dT1 : decide (1099511627776 < e.term) = true := decide_eq_true gT1
  have gK1 : decide (e.kind < 1) = false := decide_eq_false (by omega)
  have gK7 : decide (7 < e.kind) = false := decide_eq_false (by omega)
  have gT0 : decide (e.term < 0) = false := decide_eq_false (by omega)
  clear hT1
  go_wp2_with fail
  rw [← hw1]
  go_ret
  exact ⟨by rw [HE.out]; rfl, HB1.out⟩
 by_cases hS0 : 0 ≤ e.session
 case neg =>
  have gS0 : e.session < 0 := by omega
  have HE : Hid (r = false) := hid (by rw [HR.out]; unfold knownE numE; rw [decide_eq_false hS0]; simp)
  have dS0 : decide (e.session < 0) = true := decide_eq_true gS0
  have gK1 : decide (e.kind < 1) = false := decide_eq_false (by omega)
  have gK7 : decide (7 < e.kind) = false := decide_eq_false (by omega)
  have gT0 : decide (e.term < 0) = false := decide_eq_false (by omega)
  have gT1 : decide (1099511627776 < e.term) = false := decide_eq_false (by omega)
  clear hS0
  go_wp2_with fail
  rw [← hw1]
  go_ret
  exact ⟨by rw [HE.out]; rfl, HB1.out⟩
 by_cases hS1 : e.session ≤ 255
 case neg =>
  have gS1 : 255 < e.session := by omega
  have HE : Hid (r = false) := hid (by rw [HR.out]; unfold knownE numE; rw [decide_eq_false hS1]; simp)
  have dS1 : decide (255 < e.session) = true := decide_eq_true gS1
  have gK1 : decide (e.kind < 1) = false := decide_eq_false (by omega)
  have gK7 : decide (7 < e.kind) = false := decide_eq_false (by omega)
  have gT0 : decide (e.term < 0) = false := decide_eq_false (by omega)
  have gT1 : decide (1099511627776 < e.term) = false := decide_eq_false (by omega)
  have gS0 : decide (e.session < 0) = false := decide_eq_false (by omega)
  clear hS1
  go_wp2_with fail
  rw [← hw1]
  go_ret
  exact ⟨by rw [HE.out]; rfl, HB1.out⟩
 by_cases hN0 : 0 ≤ e.number
 case neg =>
  have gN0 : e.number < 0 := by omega
  have HE : Hid (r = false) := hid (by rw [HR.out]; unfold knownE numE; rw [decide_eq_false hN0]; simp)
  have dN0 : decide (e.number < 0) = true := decide_eq_true gN0
  have gK1 : decide (e.kind < 1) = false := decide_eq_false (by omega)
  have gK7 : decide (7 < e.kind) = false := decide_eq_false (by omega)
  have gT0 : decide (e.term < 0) = false := decide_eq_false (by omega)
  have gT1 : decide (1099511627776 < e.term) = false := decide_eq_false (by omega)
  have gS0 : decide (e.session < 0) = false := decide_eq_false (by omega)
  have gS1 : decide (255 < e.session) = false := decide_eq_false (by omega)
  clear hN0
  go_wp2_with fail
  rw [← hw1]
  go_ret
  exact ⟨by rw [HE.out]; rfl, HB1.out⟩
 by_cases hN1 : e.number ≤ 1099511627776
 case neg =>
  have gN1 : 1099511627776 < e.number := by omega
  have HE : Hid (r = false) := hid (by rw [HR.out]; unfold knownE numE; rw [decide_eq_false hN1]; simp)
  have dN1 : decide (1099511627776 < e.number) = true := decide_eq_true gN1
  have gK1 : decide (e.kind < 1) = false := decide_eq_false (by omega)
  have gK7 : decide (7 < e.kind) = false := decide_eq_false (by omega)
  have gT0 : decide (e.term < 0) = false := decide_eq_false (by omega)
  have gT1 : decide (1099511627776 < e.term) = false := decide_eq_false (by omega)
  have gS0 : decide (e.session < 0) = false := decide_eq_false (by omega)
  have gS1 : decide (255 < e.session) = false := decide_eq_false (by omega)
  have gN0 : decide (e.number < 0) = false := decide_eq_false (by omega)
  clear hN1
  go_wp2_with fail
  rw [← hw1]
  go_ret
  exact ⟨by rw [HE.out]; rfl, HB1.out⟩
 have gK1 : decide (e.kind < 1) = false := decide_eq_false (by omega)
 have gK7 : decide (7 < e.kind) = false := decide_eq_false (by omega)
 have gT0 : decide (e.term < 0) = false := decide_eq_false (by omega)
 have gT1 : decide (1099511627776 < e.term) = false := decide_eq_false (by omega)
 have gS0 : decide (e.session < 0) = false := decide_eq_false (by omega)
 have gS1 : decide (255 < e.session) = false := decide_eq_false (by omega)
 have gN0 : decide (e.number < 0) = false := decide_eq_false (by omega)
 have gN1 : decide (1099511627776 < e.number) = false := decide_eq_false (by omega)
 have HNB := hid (And.intro hK1 (And.intro hK7 (And.intro hT0 (And.intro hT1 (And.intro hS0 (And.intro hS1 (And.intro hN0 hN1)))))))
 have HKN : Hid (knownE e.kind = true ∧ numE e = (if e.kind = 1 then decide (e.session = 0) && decide (e.number = 0) else true)) := hid (by
  unfold knownE numE
  rw [decide_eq_true hK1, decide_eq_true hK7, decide_eq_true hT0, decide_eq_true hT1, decide_eq_true hS0, decide_eq_true hS1, decide_eq_true hN0, decide_eq_true hN1]
  simp)
 rw [HKN.out.1, HKN.out.2, Bool.true_and] at HR
 go_wp2_with fail
 rw [← hw1]
 clear hw1
 refine (HH.out _).mono ?_
 rintro q u ⟨rfl, hw⟩
 replace hw := hw.symm
 subst hw
 clear hK1 hK7 hT0 hT1 hS0 hS1 hN0 hN1 gK1 gK7 gT0 gT1 gS0 gS1 gN0 gN1
 rcases HCB.out with ⟨rfl, rfl, rfl, rfl, rfl⟩ | ⟨rfl, rfl, rfl, rfl, rfl⟩ | ⟨rfl, rfl, rfl, rfl, rfl⟩ | ⟨rfl, rfl, rfl, rfl, rfl⟩ | ⟨rfl, rfl, rfl, rfl, rfl⟩ | ⟨rfl, rfl, rfl, rfl, rfl⟩
 ·skip
  have y1 := HK1.out.g1
  have y2 := HK1.out.g2
  have y3 := HK1.out.g3
  have y4 := HK1.out.g4
  have y5 := HK1.out.g5
  have y6 := HK1.out.g6
  have y7 := HK1.out.g7
  have y8 := HK1.out.g8
  have y9 := HK1.out.g9
  have y10 := HK1.out.g10
  have y11 := HK1.out.g11
  have y12 := HK1.out.g12
  have y13 := HK1.out.g13
  have y14 := HK1.out.g14
  have y15 := HK1.out.g15
  have y16 := HK1.out.g16
  by_cases hc1 : e.coll.size = 0
  case neg =>
   have e1 : e.coll.toList.isEmpty = false := by rw [← Bool.not_eq_true, isEmpty_size]; exact hc1
   have f1 : ¬ e.coll.toList = [] := fun h => hc1 (toList_nil.1 h)
   have HE : Hid (r = false) := hid (by rw [HR.out]; simp [hc1])
   go_wp2_with fail
   go_ret
   exact ⟨by rw [HE.out]; rfl, HB1.out⟩
  have e1 : e.coll.toList = [] := toList_nil.2 hc1
  have HC1 := hid hc1
  clear hc1
  by_cases hc2 : e.to.size = 0
  case neg =>
   have e2 : e.to.toList.isEmpty = false := by rw [← Bool.not_eq_true, isEmpty_size]; exact hc2
   have f2 : ¬ e.to.toList = [] := fun h => hc2 (toList_nil.1 h)
   have HE : Hid (r = false) := hid (by rw [HR.out]; simp [hc2])
   go_wp2_with fail
   go_ret
   exact ⟨by rw [HE.out]; rfl, HB1.out⟩
  have e2 : e.to.toList = [] := toList_nil.2 hc2
  have HC2 := hid hc2
  clear hc2
  have HN := hid (rnone7_any S e.id _ w1 (fun b hb => Nat.lt_of_lt_of_le (HS.out b hb) HB1.out.size) ((HA.out.below HS.out HB1.out)).id)
  go_wp2_with fail
  refine HN.out.mono ?_
  rintro q w2 ⟨rfl, hb⟩
  clear y1 y2 y3 y4 y5 y6 y7 y8 y9 y10 y11 y12 y13 y14 y15 y16
  have HB2 := hid (HB1.out.trans (hb.mono HB1.out.size))
  have HK2 := hid (HK1.out.below hb)
  clear hb
  clear HN
  have y1 := HK2.out.g1
  have y2 := HK2.out.g2
  have y3 := HK2.out.g3
  have y4 := HK2.out.g4
  have y5 := HK2.out.g5
  have y6 := HK2.out.g6
  have y7 := HK2.out.g7
  have y8 := HK2.out.g8
  have y9 := HK2.out.g9
  have y10 := HK2.out.g10
  have y11 := HK2.out.g11
  have y12 := HK2.out.g12
  have y13 := HK2.out.g13
  have y14 := HK2.out.g14
  have y15 := HK2.out.g15
  have y16 := HK2.out.g16
  cases ni : noneT e.id
  case false =>
   have HE : Hid (r = false) := hid (by rw [HR.out]; simp [ni])
   go_wp2_with fail
   go_ret
   exact ⟨by rw [HE.out]; rfl, HB2.out⟩
  have Hni := hid ni
  clear ni
  have HN := hid (rnone7_any S e.doc _ w2 (fun b hb => Nat.lt_of_lt_of_le (HS.out b hb) HB2.out.size) ((HA.out.below HS.out HB2.out)).doc)
  go_wp2_with fail
  refine HN.out.mono ?_
  rintro q w3 ⟨rfl, hb⟩
  clear y1 y2 y3 y4 y5 y6 y7 y8 y9 y10 y11 y12 y13 y14 y15 y16
  have HB3 := hid (HB2.out.trans (hb.mono HB2.out.size))
  have HK3 := hid (HK2.out.below hb)
  clear hb
  clear HN
  have y1 := HK3.out.g1
  have y2 := HK3.out.g2
  have y3 := HK3.out.g3
  have y4 := HK3.out.g4
  have y5 := HK3.out.g5
  have y6 := HK3.out.g6
  have y7 := HK3.out.g7
  have y8 := HK3.out.g8
  have y9 := HK3.out.g9
  have y10 := HK3.out.g10
  have y11 := HK3.out.g11
  have y12 := HK3.out.g12
  have y13 := HK3.out.g13
  have y14 := HK3.out.g14
  have y15 := HK3.out.g15
  have y16 := HK3.out.g16
  cases nd : noneT e.doc
  case false =>
   have HE : Hid (r = false) := hid (by rw [HR.out]; simp [nd])
   go_wp2_with fail
   go_ret
   exact ⟨by rw [HE.out]; rfl, HB3.out⟩
  have Hnd := hid nd
  clear nd
  by_cases hc5 : e.dels.length = 0
  case neg =>
   have g5 : decide ((e.dels.length : Int) > 0) = true := decide_eq_true (len_pos5 hc5)
   have g6 : (0 : Int) < (e.dels.length : Int) := len_pos5 hc5
   have g7 : ¬ e.dels = [] := fun h => hc5 (by rw [h]; rfl)
   have HE : Hid (r = false) := hid (by rw [HR.out]; simp [g7])
   go_wp2_with fail
   go_ret
   exact ⟨by rw [HE.out]; rfl, HB3.out⟩
  have g5 : ¬ ((0 : Int) < (e.dels.length : Int)) := by omega
  have g6 : e.dels = [] := List.eq_nil_of_length_eq_zero hc5
  have HC5 := hid hc5
  clear hc5 g5
  have hk1 : e.kind = 1 := by have := HKD.out; simp only [Bool.false_eq_true, if_false] at this; exact this HNB.out.1 HNB.out.2.1
  have HE : Hid (r = (decide (e.session = 0) && decide (e.number = 0))) := hid (by rw [HR.out, if_pos hk1]; simp only [HC1.out, HC2.out, Hni.out, Hnd.out, HC5.out, Bool.not_true, Bool.not_false, Bool.true_or, Bool.false_or, decide_true, Bool.and_true, Bool.true_and, Bool.and_self])
  obtain ⟨kk, hkk⟩ : ∃ k, k = e.kind := ⟨_, rfl⟩
  rw [← hkk] at y1 hk1
  subst hk1
  obtain ⟨ss, hss⟩ : ∃ k, k = e.session := ⟨_, rfl⟩
  obtain ⟨nn, hnn⟩ : ∃ k, k = e.number := ⟨_, rfl⟩
  rw [← hss] at y15
  rw [← hnn] at y16
  rw [← hss, ← hnn] at HE
  clear hkk hss hnn
  by_cases h1 : ss = 0
  case neg =>
   have g1 : (ss == 0) = false := beq_false_of_ne h1
   have HE2 : Hid (r = false) := hid (by rw [HE.out, decide_eq_false h1]; rfl)
   go_wp2_with fail
   go_ret
   exact ⟨by rw [HE2.out]; rfl, HB3.out⟩
  subst h1
  by_cases h2 : nn = 0
  case neg =>
   have g1 : (nn == 0) = false := beq_false_of_ne h2
   have HE2 : Hid (r = false) := hid (by rw [HE.out, decide_eq_false h2]; rfl)
   go_wp2_with fail
   go_ret
   exact ⟨by rw [HE2.out]; rfl, HB3.out⟩
  subst h2
  go_wp2_with fail
  go_ret
  exact ⟨by rw [HE.out]; rfl, HB3.out⟩
 ·skip
  have y1 := HK1.out.g1
  have y2 := HK1.out.g2
  have y3 := HK1.out.g3
  have y4 := HK1.out.g4
  have y5 := HK1.out.g5
  have y6 := HK1.out.g6
  have y7 := HK1.out.g7
  have y8 := HK1.out.g8
  have y9 := HK1.out.g9
  have y10 := HK1.out.g10
  have y11 := HK1.out.g11
  have y12 := HK1.out.g12
  have y13 := HK1.out.g13
  have y14 := HK1.out.g14
  have y15 := HK1.out.g15
  have y16 := HK1.out.g16
  by_cases hc1 : e.coll.size = 0
  case pos =>
   have e1 : e.coll.toList = [] := toList_nil.2 hc1
   have hnn : nameC e.coll = false := by
    cases hz : nameC e.coll with
    | false => rfl
    | true => exact absurd hc1 (nameC_pos hz)
   have HE : Hid (r = false) := hid (by rw [HR.out]; simp [hnn])
   clear hnn
   go_wp2_with fail
   go_ret
   exact ⟨by rw [HE.out]; rfl, HB1.out⟩
  have e1 : e.coll.toList.isEmpty = false := by rw [← Bool.not_eq_true, isEmpty_size]; exact hc1
  have f1 : ¬ e.coll.toList = [] := fun h => hc1 (toList_nil.1 h)
  have HC1 := hid hc1
  clear hc1
  have HN := hid (name13_below e.coll w1 HA.out.cz)
  go_wp2_with fail
  refine HN.out.mono ?_
  rintro q w2 ⟨rfl, hb⟩
  clear y1 y2 y3 y4 y5 y6 y7 y8 y9 y10 y11 y12 y13 y14 y15 y16
  have HB2 := hid (HB1.out.trans (hb.mono HB1.out.size))
  have HK2 := hid (HK1.out.below hb)
  clear hb
  clear HN
  have y1 := HK2.out.g1
  have y2 := HK2.out.g2
  have y3 := HK2.out.g3
  have y4 := HK2.out.g4
  have y5 := HK2.out.g5
  have y6 := HK2.out.g6
  have y7 := HK2.out.g7
  have y8 := HK2.out.g8
  have y9 := HK2.out.g9
  have y10 := HK2.out.g10
  have y11 := HK2.out.g11
  have y12 := HK2.out.g12
  have y13 := HK2.out.g13
  have y14 := HK2.out.g14
  have y15 := HK2.out.g15
  have y16 := HK2.out.g16
  cases nc : nameC e.coll
  case false =>
   have HE : Hid (r = false) := hid (by rw [HR.out]; simp [nc])
   go_wp2_with fail
   go_ret
   exact ⟨by rw [HE.out]; rfl, HB2.out⟩
  have Hnc := hid nc
  clear nc
  by_cases hc2 : e.to.size = 0
  case neg =>
   have e2 : e.to.toList.isEmpty = false := by rw [← Bool.not_eq_true, isEmpty_size]; exact hc2
   have f2 : ¬ e.to.toList = [] := fun h => hc2 (toList_nil.1 h)
   have HE : Hid (r = false) := hid (by rw [HR.out]; simp [hc2])
   go_wp2_with fail
   go_ret
   exact ⟨by rw [HE.out]; rfl, HB2.out⟩
  have e2 : e.to.toList = [] := toList_nil.2 hc2
  have HC2 := hid hc2
  clear hc2
  have HN := hid (rcheck_any S e.id _ w2 HD.out.idd (fun b hb => Nat.lt_of_lt_of_le (HS.out b hb) HB2.out.size) ((HA.out.below HS.out HB2.out)).id)
  go_wp2_with fail
  refine HN.out.mono ?_
  rintro q w3 ⟨rfl, hb⟩
  clear y1 y2 y3 y4 y5 y6 y7 y8 y9 y10 y11 y12 y13 y14 y15 y16
  have HB3 := hid (HB2.out.trans (hb.mono HB2.out.size))
  have HK3 := hid (HK2.out.below hb)
  clear hb
  clear HN
  have y1 := HK3.out.g1
  have y2 := HK3.out.g2
  have y3 := HK3.out.g3
  have y4 := HK3.out.g4
  have y5 := HK3.out.g5
  have y6 := HK3.out.g6
  have y7 := HK3.out.g7
  have y8 := HK3.out.g8
  have y9 := HK3.out.g9
  have y10 := HK3.out.g10
  have y11 := HK3.out.g11
  have y12 := HK3.out.g12
  have y13 := HK3.out.g13
  have y14 := HK3.out.g14
  have y15 := HK3.out.g15
  have y16 := HK3.out.g16
  obtain ⟨x, hx⟩ : ∃ x, x = checkT e.id := ⟨_, rfl⟩
  have HX := hid hx
  rw [← hx] at HR ⊢
  clear hx
  by_cases hx0 : x = 0
  case neg =>
   have g1 : (x == 0) = false := beq_false_of_ne hx0
   have g2 : (x != 0) = true := by simp [hx0]
   have HE : Hid (r = false) := hid (by rw [HR.out]; simp [hx0])
   go_wp2_with fail
   go_ret
   exact ⟨by rw [HE.out]; rfl, HB3.out⟩
  subst hx0
  have HN := hid (r13doc_any S e.doc e.id _ _ w3 (fun b hb => Nat.lt_of_lt_of_le (HS.out b hb) HB3.out.size) ((HA.out.below HS.out HB3.out)).doc ((HA.out.below HS.out HB3.out)).id HD.out.docd (check_may HX.out.symm))
  go_wp2_with fail
  refine HN.out.mono ?_
  rintro q w4 ⟨rfl, hb⟩
  clear y1 y2 y3 y4 y5 y6 y7 y8 y9 y10 y11 y12 y13 y14 y15 y16
  have HB4 := hid (HB3.out.trans (hb.mono HB3.out.size))
  have HK4 := hid (HK3.out.below hb)
  clear hb
  clear HN
  have y1 := HK4.out.g1
  have y2 := HK4.out.g2
  have y3 := HK4.out.g3
  have y4 := HK4.out.g4
  have y5 := HK4.out.g5
  have y6 := HK4.out.g6
  have y7 := HK4.out.g7
  have y8 := HK4.out.g8
  have y9 := HK4.out.g9
  have y10 := HK4.out.g10
  have y11 := HK4.out.g11
  have y12 := HK4.out.g12
  have y13 := HK4.out.g13
  have y14 := HK4.out.g14
  have y15 := HK4.out.g15
  have y16 := HK4.out.g16
  cases nd : holdE e.doc e.id
  case false =>
   have HE : Hid (r = false) := hid (by rw [HR.out]; simp [nd])
   go_wp2_with fail
   go_ret
   exact ⟨by rw [HE.out]; rfl, HB4.out⟩
  have Hnd := hid nd
  clear nd
  by_cases hc5 : e.dels.length = 0
  case neg =>
   have g5 : decide ((e.dels.length : Int) > 0) = true := decide_eq_true (len_pos5 hc5)
   have g6 : (0 : Int) < (e.dels.length : Int) := len_pos5 hc5
   have g7 : ¬ e.dels = [] := fun h => hc5 (by rw [h]; rfl)
   have HE : Hid (r = false) := hid (by rw [HR.out]; simp [g7])
   go_wp2_with fail
   go_ret
   exact ⟨by rw [HE.out]; rfl, HB4.out⟩
  have g5 : ¬ ((0 : Int) < (e.dels.length : Int)) := by omega
  have g6 : e.dels = [] := List.eq_nil_of_length_eq_zero hc5
  have HC5 := hid hc5
  clear hc5 g5
  have hk1 : e.kind ≠ 1 := by have := HKD.out; simpa using this
  have HE : Hid (r = true) := hid (by rw [HR.out, if_neg hk1]; simp only [Hnc.out, HC2.out, decide_true, Hnd.out, HC5.out, Bool.not_true, Bool.not_false, Bool.true_or, Bool.false_or, decide_true, Bool.and_true, Bool.true_and, Bool.and_self])
  have g8 : (e.kind == 1) = false := beq_false_of_ne hk1
  have g9 : ¬ e.kind = 1 := hk1
  clear hk1
  go_wp2_with fail
  go_ret
  exact ⟨by rw [HE.out]; rfl, HB4.out⟩
 ·skip
  have y1 := HK1.out.g1
  have y2 := HK1.out.g2
  have y3 := HK1.out.g3
  have y4 := HK1.out.g4
  have y5 := HK1.out.g5
  have y6 := HK1.out.g6
  have y7 := HK1.out.g7
  have y8 := HK1.out.g8
  have y9 := HK1.out.g9
  have y10 := HK1.out.g10
  have y11 := HK1.out.g11
  have y12 := HK1.out.g12
  have y13 := HK1.out.g13
  have y14 := HK1.out.g14
  have y15 := HK1.out.g15
  have y16 := HK1.out.g16
  by_cases hc1 : e.coll.size = 0
  case pos =>
   have e1 : e.coll.toList = [] := toList_nil.2 hc1
   have hnn : nameC e.coll = false := by
    cases hz : nameC e.coll with
    | false => rfl
    | true => exact absurd hc1 (nameC_pos hz)
   have HE : Hid (r = false) := hid (by rw [HR.out]; simp [hnn])
   clear hnn
   go_wp2_with fail
   go_ret
   exact ⟨by rw [HE.out]; rfl, HB1.out⟩
  have e1 : e.coll.toList.isEmpty = false := by rw [← Bool.not_eq_true, isEmpty_size]; exact hc1
  have f1 : ¬ e.coll.toList = [] := fun h => hc1 (toList_nil.1 h)
  have HC1 := hid hc1
  clear hc1
  have HN := hid (name13_below e.coll w1 HA.out.cz)
  go_wp2_with fail
  refine HN.out.mono ?_
  rintro q w2 ⟨rfl, hb⟩
  clear y1 y2 y3 y4 y5 y6 y7 y8 y9 y10 y11 y12 y13 y14 y15 y16
  have HB2 := hid (HB1.out.trans (hb.mono HB1.out.size))
  have HK2 := hid (HK1.out.below hb)
  clear hb
  clear HN
  have y1 := HK2.out.g1
  have y2 := HK2.out.g2
  have y3 := HK2.out.g3
  have y4 := HK2.out.g4
  have y5 := HK2.out.g5
  have y6 := HK2.out.g6
  have y7 := HK2.out.g7
  have y8 := HK2.out.g8
  have y9 := HK2.out.g9
  have y10 := HK2.out.g10
  have y11 := HK2.out.g11
  have y12 := HK2.out.g12
  have y13 := HK2.out.g13
  have y14 := HK2.out.g14
  have y15 := HK2.out.g15
  have y16 := HK2.out.g16
  cases nc : nameC e.coll
  case false =>
   have HE : Hid (r = false) := hid (by rw [HR.out]; simp [nc])
   go_wp2_with fail
   go_ret
   exact ⟨by rw [HE.out]; rfl, HB2.out⟩
  have Hnc := hid nc
  clear nc
  by_cases hc2 : e.to.size = 0
  case neg =>
   have e2 : e.to.toList.isEmpty = false := by rw [← Bool.not_eq_true, isEmpty_size]; exact hc2
   have f2 : ¬ e.to.toList = [] := fun h => hc2 (toList_nil.1 h)
   have HE : Hid (r = false) := hid (by rw [HR.out]; simp [hc2])
   go_wp2_with fail
   go_ret
   exact ⟨by rw [HE.out]; rfl, HB2.out⟩
  have e2 : e.to.toList = [] := toList_nil.2 hc2
  have HC2 := hid hc2
  clear hc2
  have HN := hid (rcheck_any S e.id _ w2 HD.out.idd (fun b hb => Nat.lt_of_lt_of_le (HS.out b hb) HB2.out.size) ((HA.out.below HS.out HB2.out)).id)
  go_wp2_with fail
  refine HN.out.mono ?_
  rintro q w3 ⟨rfl, hb⟩
  clear y1 y2 y3 y4 y5 y6 y7 y8 y9 y10 y11 y12 y13 y14 y15 y16
  have HB3 := hid (HB2.out.trans (hb.mono HB2.out.size))
  have HK3 := hid (HK2.out.below hb)
  clear hb
  clear HN
  have y1 := HK3.out.g1
  have y2 := HK3.out.g2
  have y3 := HK3.out.g3
  have y4 := HK3.out.g4
  have y5 := HK3.out.g5
  have y6 := HK3.out.g6
  have y7 := HK3.out.g7
  have y8 := HK3.out.g8
  have y9 := HK3.out.g9
  have y10 := HK3.out.g10
  have y11 := HK3.out.g11
  have y12 := HK3.out.g12
  have y13 := HK3.out.g13
  have y14 := HK3.out.g14
  have y15 := HK3.out.g15
  have y16 := HK3.out.g16
  obtain ⟨x, hx⟩ : ∃ x, x = checkT e.id := ⟨_, rfl⟩
  have HX := hid hx
  rw [← hx] at HR ⊢
  clear hx
  by_cases hx0 : x = 0
  case neg =>
   have g1 : (x == 0) = false := beq_false_of_ne hx0
   have g2 : (x != 0) = true := by simp [hx0]
   have HE : Hid (r = false) := hid (by rw [HR.out]; simp [hx0])
   go_wp2_with fail
   go_ret
   exact ⟨by rw [HE.out]; rfl, HB3.out⟩
  subst hx0
  have HN := hid (rnone7_any S e.doc _ w3 (fun b hb => Nat.lt_of_lt_of_le (HS.out b hb) HB3.out.size) ((HA.out.below HS.out HB3.out)).doc)
  go_wp2_with fail
  refine HN.out.mono ?_
  rintro q w4 ⟨rfl, hb⟩
  clear y1 y2 y3 y4 y5 y6 y7 y8 y9 y10 y11 y12 y13 y14 y15 y16
  have HB4 := hid (HB3.out.trans (hb.mono HB3.out.size))
  have HK4 := hid (HK3.out.below hb)
  clear hb
  clear HN
  have y1 := HK4.out.g1
  have y2 := HK4.out.g2
  have y3 := HK4.out.g3
  have y4 := HK4.out.g4
  have y5 := HK4.out.g5
  have y6 := HK4.out.g6
  have y7 := HK4.out.g7
  have y8 := HK4.out.g8
  have y9 := HK4.out.g9
  have y10 := HK4.out.g10
  have y11 := HK4.out.g11
  have y12 := HK4.out.g12
  have y13 := HK4.out.g13
  have y14 := HK4.out.g14
  have y15 := HK4.out.g15
  have y16 := HK4.out.g16
  cases nd : noneT e.doc
  case false =>
   have HE : Hid (r = false) := hid (by rw [HR.out]; simp [nd])
   go_wp2_with fail
   go_ret
   exact ⟨by rw [HE.out]; rfl, HB4.out⟩
  have Hnd := hid nd
  clear nd
  have HN := hid (r13deltas_any S LA lc e.dels w4 (fun b hb => Nat.lt_of_lt_of_le (HS.out b hb) HB4.out.size) ((HA.out.below HS.out HB4.out)).dels HA.out.len HD.out.dels)
  go_wp2_with fail
  refine HN.out.mono ?_
  rintro q w5 ⟨rfl, hb⟩
  clear y1 y2 y3 y4 y5 y6 y7 y8 y9 y10 y11 y12 y13 y14 y15 y16
  have HB5 := hid (HB4.out.trans (hb.mono HB4.out.size))
  have HK5 := hid (HK4.out.below hb)
  clear hb
  clear HN
  have y1 := HK5.out.g1
  have y2 := HK5.out.g2
  have y3 := HK5.out.g3
  have y4 := HK5.out.g4
  have y5 := HK5.out.g5
  have y6 := HK5.out.g6
  have y7 := HK5.out.g7
  have y8 := HK5.out.g8
  have y9 := HK5.out.g9
  have y10 := HK5.out.g10
  have y11 := HK5.out.g11
  have y12 := HK5.out.g12
  have y13 := HK5.out.g13
  have y14 := HK5.out.g14
  have y15 := HK5.out.g15
  have y16 := HK5.out.g16
  cases nl : mayDo e.dels
  case false =>
   have HE : Hid (r = false) := hid (by rw [HR.out]; simp [nl])
   go_wp2_with fail
   go_ret
   exact ⟨by rw [HE.out]; rfl, HB5.out⟩
  have Hnl := hid nl
  clear nl
  have hk1 : e.kind ≠ 1 := by have := HKD.out; simpa using this
  have HE : Hid (r = true) := hid (by rw [HR.out, if_neg hk1]; simp only [Hnc.out, HC2.out, decide_true, Hnd.out, Hnl.out, Bool.not_true, Bool.not_false, Bool.true_or, Bool.false_or, decide_true, Bool.and_true, Bool.true_and, Bool.and_self])
  have g8 : (e.kind == 1) = false := beq_false_of_ne hk1
  have g9 : ¬ e.kind = 1 := hk1
  clear hk1
  go_wp2_with fail
  go_ret
  exact ⟨by rw [HE.out]; rfl, HB5.out⟩
 ·skip
  have y1 := HK1.out.g1
  have y2 := HK1.out.g2
  have y3 := HK1.out.g3
  have y4 := HK1.out.g4
  have y5 := HK1.out.g5
  have y6 := HK1.out.g6
  have y7 := HK1.out.g7
  have y8 := HK1.out.g8
  have y9 := HK1.out.g9
  have y10 := HK1.out.g10
  have y11 := HK1.out.g11
  have y12 := HK1.out.g12
  have y13 := HK1.out.g13
  have y14 := HK1.out.g14
  have y15 := HK1.out.g15
  have y16 := HK1.out.g16
  by_cases hc1 : e.coll.size = 0
  case pos =>
   have e1 : e.coll.toList = [] := toList_nil.2 hc1
   have hnn : nameC e.coll = false := by
    cases hz : nameC e.coll with
    | false => rfl
    | true => exact absurd hc1 (nameC_pos hz)
   have HE : Hid (r = false) := hid (by rw [HR.out]; simp [hnn])
   clear hnn
   go_wp2_with fail
   go_ret
   exact ⟨by rw [HE.out]; rfl, HB1.out⟩
  have e1 : e.coll.toList.isEmpty = false := by rw [← Bool.not_eq_true, isEmpty_size]; exact hc1
  have f1 : ¬ e.coll.toList = [] := fun h => hc1 (toList_nil.1 h)
  have HC1 := hid hc1
  clear hc1
  have HN := hid (name13_below e.coll w1 HA.out.cz)
  go_wp2_with fail
  refine HN.out.mono ?_
  rintro q w2 ⟨rfl, hb⟩
  clear y1 y2 y3 y4 y5 y6 y7 y8 y9 y10 y11 y12 y13 y14 y15 y16
  have HB2 := hid (HB1.out.trans (hb.mono HB1.out.size))
  have HK2 := hid (HK1.out.below hb)
  clear hb
  clear HN
  have y1 := HK2.out.g1
  have y2 := HK2.out.g2
  have y3 := HK2.out.g3
  have y4 := HK2.out.g4
  have y5 := HK2.out.g5
  have y6 := HK2.out.g6
  have y7 := HK2.out.g7
  have y8 := HK2.out.g8
  have y9 := HK2.out.g9
  have y10 := HK2.out.g10
  have y11 := HK2.out.g11
  have y12 := HK2.out.g12
  have y13 := HK2.out.g13
  have y14 := HK2.out.g14
  have y15 := HK2.out.g15
  have y16 := HK2.out.g16
  cases nc : nameC e.coll
  case false =>
   have HE : Hid (r = false) := hid (by rw [HR.out]; simp [nc])
   go_wp2_with fail
   go_ret
   exact ⟨by rw [HE.out]; rfl, HB2.out⟩
  have Hnc := hid nc
  clear nc
  by_cases hc2 : e.to.size = 0
  case neg =>
   have e2 : e.to.toList.isEmpty = false := by rw [← Bool.not_eq_true, isEmpty_size]; exact hc2
   have f2 : ¬ e.to.toList = [] := fun h => hc2 (toList_nil.1 h)
   have HE : Hid (r = false) := hid (by rw [HR.out]; simp [hc2])
   go_wp2_with fail
   go_ret
   exact ⟨by rw [HE.out]; rfl, HB2.out⟩
  have e2 : e.to.toList = [] := toList_nil.2 hc2
  have HC2 := hid hc2
  clear hc2
  have HN := hid (rcheck_any S e.id _ w2 HD.out.idd (fun b hb => Nat.lt_of_lt_of_le (HS.out b hb) HB2.out.size) ((HA.out.below HS.out HB2.out)).id)
  go_wp2_with fail
  refine HN.out.mono ?_
  rintro q w3 ⟨rfl, hb⟩
  clear y1 y2 y3 y4 y5 y6 y7 y8 y9 y10 y11 y12 y13 y14 y15 y16
  have HB3 := hid (HB2.out.trans (hb.mono HB2.out.size))
  have HK3 := hid (HK2.out.below hb)
  clear hb
  clear HN
  have y1 := HK3.out.g1
  have y2 := HK3.out.g2
  have y3 := HK3.out.g3
  have y4 := HK3.out.g4
  have y5 := HK3.out.g5
  have y6 := HK3.out.g6
  have y7 := HK3.out.g7
  have y8 := HK3.out.g8
  have y9 := HK3.out.g9
  have y10 := HK3.out.g10
  have y11 := HK3.out.g11
  have y12 := HK3.out.g12
  have y13 := HK3.out.g13
  have y14 := HK3.out.g14
  have y15 := HK3.out.g15
  have y16 := HK3.out.g16
  obtain ⟨x, hx⟩ : ∃ x, x = checkT e.id := ⟨_, rfl⟩
  have HX := hid hx
  rw [← hx] at HR ⊢
  clear hx
  by_cases hx0 : x = 0
  case neg =>
   have g1 : (x == 0) = false := beq_false_of_ne hx0
   have g2 : (x != 0) = true := by simp [hx0]
   have HE : Hid (r = false) := hid (by rw [HR.out]; simp [hx0])
   go_wp2_with fail
   go_ret
   exact ⟨by rw [HE.out]; rfl, HB3.out⟩
  subst hx0
  have HN := hid (rnone7_any S e.doc _ w3 (fun b hb => Nat.lt_of_lt_of_le (HS.out b hb) HB3.out.size) ((HA.out.below HS.out HB3.out)).doc)
  go_wp2_with fail
  refine HN.out.mono ?_
  rintro q w4 ⟨rfl, hb⟩
  clear y1 y2 y3 y4 y5 y6 y7 y8 y9 y10 y11 y12 y13 y14 y15 y16
  have HB4 := hid (HB3.out.trans (hb.mono HB3.out.size))
  have HK4 := hid (HK3.out.below hb)
  clear hb
  clear HN
  have y1 := HK4.out.g1
  have y2 := HK4.out.g2
  have y3 := HK4.out.g3
  have y4 := HK4.out.g4
  have y5 := HK4.out.g5
  have y6 := HK4.out.g6
  have y7 := HK4.out.g7
  have y8 := HK4.out.g8
  have y9 := HK4.out.g9
  have y10 := HK4.out.g10
  have y11 := HK4.out.g11
  have y12 := HK4.out.g12
  have y13 := HK4.out.g13
  have y14 := HK4.out.g14
  have y15 := HK4.out.g15
  have y16 := HK4.out.g16
  cases nd : noneT e.doc
  case false =>
   have HE : Hid (r = false) := hid (by rw [HR.out]; simp [nd])
   go_wp2_with fail
   go_ret
   exact ⟨by rw [HE.out]; rfl, HB4.out⟩
  have Hnd := hid nd
  clear nd
  by_cases hc5 : e.dels.length = 0
  case neg =>
   have g5 : decide ((e.dels.length : Int) > 0) = true := decide_eq_true (len_pos5 hc5)
   have g6 : (0 : Int) < (e.dels.length : Int) := len_pos5 hc5
   have g7 : ¬ e.dels = [] := fun h => hc5 (by rw [h]; rfl)
   have HE : Hid (r = false) := hid (by rw [HR.out]; simp [g7])
   go_wp2_with fail
   go_ret
   exact ⟨by rw [HE.out]; rfl, HB4.out⟩
  have g5 : ¬ ((0 : Int) < (e.dels.length : Int)) := by omega
  have g6 : e.dels = [] := List.eq_nil_of_length_eq_zero hc5
  have HC5 := hid hc5
  clear hc5 g5
  have hk1 : e.kind ≠ 1 := by have := HKD.out; simpa using this
  have HE : Hid (r = true) := hid (by rw [HR.out, if_neg hk1]; simp only [Hnc.out, HC2.out, decide_true, Hnd.out, HC5.out, Bool.not_true, Bool.not_false, Bool.true_or, Bool.false_or, decide_true, Bool.and_true, Bool.true_and, Bool.and_self])
  have g8 : (e.kind == 1) = false := beq_false_of_ne hk1
  have g9 : ¬ e.kind = 1 := hk1
  clear hk1
  go_wp2_with fail
  go_ret
  exact ⟨by rw [HE.out]; rfl, HB4.out⟩
 ·skip
  have y1 := HK1.out.g1
  have y2 := HK1.out.g2
  have y3 := HK1.out.g3
  have y4 := HK1.out.g4
  have y5 := HK1.out.g5
  have y6 := HK1.out.g6
  have y7 := HK1.out.g7
  have y8 := HK1.out.g8
  have y9 := HK1.out.g9
  have y10 := HK1.out.g10
  have y11 := HK1.out.g11
  have y12 := HK1.out.g12
  have y13 := HK1.out.g13
  have y14 := HK1.out.g14
  have y15 := HK1.out.g15
  have y16 := HK1.out.g16
  by_cases hc1 : e.coll.size = 0
  case pos =>
   have e1 : e.coll.toList = [] := toList_nil.2 hc1
   have hnn : nameC e.coll = false := by
    cases hz : nameC e.coll with
    | false => rfl
    | true => exact absurd hc1 (nameC_pos hz)
   have HE : Hid (r = false) := hid (by rw [HR.out]; simp [hnn])
   clear hnn
   go_wp2_with fail
   go_ret
   exact ⟨by rw [HE.out]; rfl, HB1.out⟩
  have e1 : e.coll.toList.isEmpty = false := by rw [← Bool.not_eq_true, isEmpty_size]; exact hc1
  have f1 : ¬ e.coll.toList = [] := fun h => hc1 (toList_nil.1 h)
  have HC1 := hid hc1
  clear hc1
  have HN := hid (name13_below e.coll w1 HA.out.cz)
  go_wp2_with fail
  refine HN.out.mono ?_
  rintro q w2 ⟨rfl, hb⟩
  clear y1 y2 y3 y4 y5 y6 y7 y8 y9 y10 y11 y12 y13 y14 y15 y16
  have HB2 := hid (HB1.out.trans (hb.mono HB1.out.size))
  have HK2 := hid (HK1.out.below hb)
  clear hb
  clear HN
  have y1 := HK2.out.g1
  have y2 := HK2.out.g2
  have y3 := HK2.out.g3
  have y4 := HK2.out.g4
  have y5 := HK2.out.g5
  have y6 := HK2.out.g6
  have y7 := HK2.out.g7
  have y8 := HK2.out.g8
  have y9 := HK2.out.g9
  have y10 := HK2.out.g10
  have y11 := HK2.out.g11
  have y12 := HK2.out.g12
  have y13 := HK2.out.g13
  have y14 := HK2.out.g14
  have y15 := HK2.out.g15
  have y16 := HK2.out.g16
  cases nc : nameC e.coll
  case false =>
   have HE : Hid (r = false) := hid (by rw [HR.out]; simp [nc])
   go_wp2_with fail
   go_ret
   exact ⟨by rw [HE.out]; rfl, HB2.out⟩
  have Hnc := hid nc
  clear nc
  by_cases hc2 : e.to.size = 0
  case neg =>
   have e2 : e.to.toList.isEmpty = false := by rw [← Bool.not_eq_true, isEmpty_size]; exact hc2
   have f2 : ¬ e.to.toList = [] := fun h => hc2 (toList_nil.1 h)
   have HE : Hid (r = false) := hid (by rw [HR.out]; simp [hc2])
   go_wp2_with fail
   go_ret
   exact ⟨by rw [HE.out]; rfl, HB2.out⟩
  have e2 : e.to.toList = [] := toList_nil.2 hc2
  have HC2 := hid hc2
  clear hc2
  have HN := hid (rnone7_any S e.id _ w2 (fun b hb => Nat.lt_of_lt_of_le (HS.out b hb) HB2.out.size) ((HA.out.below HS.out HB2.out)).id)
  go_wp2_with fail
  refine HN.out.mono ?_
  rintro q w3 ⟨rfl, hb⟩
  clear y1 y2 y3 y4 y5 y6 y7 y8 y9 y10 y11 y12 y13 y14 y15 y16
  have HB3 := hid (HB2.out.trans (hb.mono HB2.out.size))
  have HK3 := hid (HK2.out.below hb)
  clear hb
  clear HN
  have y1 := HK3.out.g1
  have y2 := HK3.out.g2
  have y3 := HK3.out.g3
  have y4 := HK3.out.g4
  have y5 := HK3.out.g5
  have y6 := HK3.out.g6
  have y7 := HK3.out.g7
  have y8 := HK3.out.g8
  have y9 := HK3.out.g9
  have y10 := HK3.out.g10
  have y11 := HK3.out.g11
  have y12 := HK3.out.g12
  have y13 := HK3.out.g13
  have y14 := HK3.out.g14
  have y15 := HK3.out.g15
  have y16 := HK3.out.g16
  cases ni : noneT e.id
  case false =>
   have HE : Hid (r = false) := hid (by rw [HR.out]; simp [ni])
   go_wp2_with fail
   go_ret
   exact ⟨by rw [HE.out]; rfl, HB3.out⟩
  have Hni := hid ni
  clear ni
  have HN := hid (rnone7_any S e.doc _ w3 (fun b hb => Nat.lt_of_lt_of_le (HS.out b hb) HB3.out.size) ((HA.out.below HS.out HB3.out)).doc)
  go_wp2_with fail
  refine HN.out.mono ?_
  rintro q w4 ⟨rfl, hb⟩
  clear y1 y2 y3 y4 y5 y6 y7 y8 y9 y10 y11 y12 y13 y14 y15 y16
  have HB4 := hid (HB3.out.trans (hb.mono HB3.out.size))
  have HK4 := hid (HK3.out.below hb)
  clear hb
  clear HN
  have y1 := HK4.out.g1
  have y2 := HK4.out.g2
  have y3 := HK4.out.g3
  have y4 := HK4.out.g4
  have y5 := HK4.out.g5
  have y6 := HK4.out.g6
  have y7 := HK4.out.g7
  have y8 := HK4.out.g8
  have y9 := HK4.out.g9
  have y10 := HK4.out.g10
  have y11 := HK4.out.g11
  have y12 := HK4.out.g12
  have y13 := HK4.out.g13
  have y14 := HK4.out.g14
  have y15 := HK4.out.g15
  have y16 := HK4.out.g16
  cases nd : noneT e.doc
  case false =>
   have HE : Hid (r = false) := hid (by rw [HR.out]; simp [nd])
   go_wp2_with fail
   go_ret
   exact ⟨by rw [HE.out]; rfl, HB4.out⟩
  have Hnd := hid nd
  clear nd
  by_cases hc5 : e.dels.length = 0
  case neg =>
   have g5 : decide ((e.dels.length : Int) > 0) = true := decide_eq_true (len_pos5 hc5)
   have g6 : (0 : Int) < (e.dels.length : Int) := len_pos5 hc5
   have g7 : ¬ e.dels = [] := fun h => hc5 (by rw [h]; rfl)
   have HE : Hid (r = false) := hid (by rw [HR.out]; simp [g7])
   go_wp2_with fail
   go_ret
   exact ⟨by rw [HE.out]; rfl, HB4.out⟩
  have g5 : ¬ ((0 : Int) < (e.dels.length : Int)) := by omega
  have g6 : e.dels = [] := List.eq_nil_of_length_eq_zero hc5
  have HC5 := hid hc5
  clear hc5 g5
  have hk1 : e.kind ≠ 1 := by have := HKD.out; simpa using this
  have HE : Hid (r = true) := hid (by rw [HR.out, if_neg hk1]; simp only [Hnc.out, HC2.out, Hni.out, Hnd.out, HC5.out, Bool.not_true, Bool.not_false, Bool.true_or, Bool.false_or, decide_true, Bool.and_true, Bool.true_and, Bool.and_self])
  have g8 : (e.kind == 1) = false := beq_false_of_ne hk1
  have g9 : ¬ e.kind = 1 := hk1
  clear hk1
  go_wp2_with fail
  go_ret
  exact ⟨by rw [HE.out]; rfl, HB4.out⟩
 ·skip
  have y1 := HK1.out.g1
  have y2 := HK1.out.g2
  have y3 := HK1.out.g3
  have y4 := HK1.out.g4
  have y5 := HK1.out.g5
  have y6 := HK1.out.g6
  have y7 := HK1.out.g7
  have y8 := HK1.out.g8
  have y9 := HK1.out.g9
  have y10 := HK1.out.g10
  have y11 := HK1.out.g11
  have y12 := HK1.out.g12
  have y13 := HK1.out.g13
  have y14 := HK1.out.g14
  have y15 := HK1.out.g15
  have y16 := HK1.out.g16
  by_cases hc1 : e.coll.size = 0
  case pos =>
   have e1 : e.coll.toList = [] := toList_nil.2 hc1
   have hnn : nameC e.coll = false := by
    cases hz : nameC e.coll with
    | false => rfl
    | true => exact absurd hc1 (nameC_pos hz)
   have HE : Hid (r = false) := hid (by rw [HR.out]; simp [hnn])
   clear hnn
   go_wp2_with fail
   go_ret
   exact ⟨by rw [HE.out]; rfl, HB1.out⟩
  have e1 : e.coll.toList.isEmpty = false := by rw [← Bool.not_eq_true, isEmpty_size]; exact hc1
  have f1 : ¬ e.coll.toList = [] := fun h => hc1 (toList_nil.1 h)
  have HC1 := hid hc1
  clear hc1
  have HN := hid (name13_below e.coll w1 HA.out.cz)
  go_wp2_with fail
  refine HN.out.mono ?_
  rintro q w2 ⟨rfl, hb⟩
  clear y1 y2 y3 y4 y5 y6 y7 y8 y9 y10 y11 y12 y13 y14 y15 y16
  have HB2 := hid (HB1.out.trans (hb.mono HB1.out.size))
  have HK2 := hid (HK1.out.below hb)
  clear hb
  clear HN
  have y1 := HK2.out.g1
  have y2 := HK2.out.g2
  have y3 := HK2.out.g3
  have y4 := HK2.out.g4
  have y5 := HK2.out.g5
  have y6 := HK2.out.g6
  have y7 := HK2.out.g7
  have y8 := HK2.out.g8
  have y9 := HK2.out.g9
  have y10 := HK2.out.g10
  have y11 := HK2.out.g11
  have y12 := HK2.out.g12
  have y13 := HK2.out.g13
  have y14 := HK2.out.g14
  have y15 := HK2.out.g15
  have y16 := HK2.out.g16
  cases nc : nameC e.coll
  case false =>
   have HE : Hid (r = false) := hid (by rw [HR.out]; simp [nc])
   go_wp2_with fail
   go_ret
   exact ⟨by rw [HE.out]; rfl, HB2.out⟩
  have Hnc := hid nc
  clear nc
  by_cases hc2 : e.to.size = 0
  case pos =>
   have e2 : e.to.toList = [] := toList_nil.2 hc2
   have hnn : nameC e.to = false := by
    cases hz : nameC e.to with
    | false => rfl
    | true => exact absurd hc2 (nameC_pos hz)
   have HE : Hid (r = false) := hid (by rw [HR.out]; simp [hnn])
   clear hnn
   go_wp2_with fail
   go_ret
   exact ⟨by rw [HE.out]; rfl, HB2.out⟩
  have e2 : e.to.toList.isEmpty = false := by rw [← Bool.not_eq_true, isEmpty_size]; exact hc2
  have f2 : ¬ e.to.toList = [] := fun h => hc2 (toList_nil.1 h)
  have HC2 := hid hc2
  clear hc2
  have HN := hid (name13_below e.to w2 HA.out.tz)
  go_wp2_with fail
  refine HN.out.mono ?_
  rintro q w3 ⟨rfl, hb⟩
  clear y1 y2 y3 y4 y5 y6 y7 y8 y9 y10 y11 y12 y13 y14 y15 y16
  have HB3 := hid (HB2.out.trans (hb.mono HB2.out.size))
  have HK3 := hid (HK2.out.below hb)
  clear hb
  clear HN
  have y1 := HK3.out.g1
  have y2 := HK3.out.g2
  have y3 := HK3.out.g3
  have y4 := HK3.out.g4
  have y5 := HK3.out.g5
  have y6 := HK3.out.g6
  have y7 := HK3.out.g7
  have y8 := HK3.out.g8
  have y9 := HK3.out.g9
  have y10 := HK3.out.g10
  have y11 := HK3.out.g11
  have y12 := HK3.out.g12
  have y13 := HK3.out.g13
  have y14 := HK3.out.g14
  have y15 := HK3.out.g15
  have y16 := HK3.out.g16
  cases nt : nameC e.to
  case false =>
   have HE : Hid (r = false) := hid (by rw [HR.out]; simp [nt])
   go_wp2_with fail
   go_ret
   exact ⟨by rw [HE.out]; rfl, HB3.out⟩
  have Hnt := hid nt
  clear nt
  by_cases hne : e.to = e.coll
  case pos =>
   have g1 : (e.to.toList == e.coll.toList) = true := by rw [str_beq]; exact decide_eq_true hne
   have g3 : e.to.toList = e.coll.toList := by rw [hne]
   have HNE := hid hne
   clear hne
   have HE : Hid (r = false) := hid (by rw [HR.out]; simp [HNE.out])
   go_wp2_with fail
   go_ret
   exact ⟨by rw [HE.out]; rfl, HB3.out⟩
  have g1 : (e.to.toList == e.coll.toList) = false := by rw [str_beq]; exact decide_eq_false hne
  have HNE := hid (decide_eq_true (p := e.to ≠ e.coll) hne)
  clear hne
  have HN := hid (rnone7_any S e.id _ w3 (fun b hb => Nat.lt_of_lt_of_le (HS.out b hb) HB3.out.size) ((HA.out.below HS.out HB3.out)).id)
  go_wp2_with fail
  refine HN.out.mono ?_
  rintro q w4 ⟨rfl, hb⟩
  clear y1 y2 y3 y4 y5 y6 y7 y8 y9 y10 y11 y12 y13 y14 y15 y16
  have HB4 := hid (HB3.out.trans (hb.mono HB3.out.size))
  have HK4 := hid (HK3.out.below hb)
  clear hb
  clear HN
  have y1 := HK4.out.g1
  have y2 := HK4.out.g2
  have y3 := HK4.out.g3
  have y4 := HK4.out.g4
  have y5 := HK4.out.g5
  have y6 := HK4.out.g6
  have y7 := HK4.out.g7
  have y8 := HK4.out.g8
  have y9 := HK4.out.g9
  have y10 := HK4.out.g10
  have y11 := HK4.out.g11
  have y12 := HK4.out.g12
  have y13 := HK4.out.g13
  have y14 := HK4.out.g14
  have y15 := HK4.out.g15
  have y16 := HK4.out.g16
  cases ni : noneT e.id
  case false =>
   have HE : Hid (r = false) := hid (by rw [HR.out]; simp [ni])
   go_wp2_with fail
   go_ret
   exact ⟨by rw [HE.out]; rfl, HB4.out⟩
  have Hni := hid ni
  clear ni
  have HN := hid (rnone7_any S e.doc _ w4 (fun b hb => Nat.lt_of_lt_of_le (HS.out b hb) HB4.out.size) ((HA.out.below HS.out HB4.out)).doc)
  go_wp2_with fail
  refine HN.out.mono ?_
  rintro q w5 ⟨rfl, hb⟩
  clear y1 y2 y3 y4 y5 y6 y7 y8 y9 y10 y11 y12 y13 y14 y15 y16
  have HB5 := hid (HB4.out.trans (hb.mono HB4.out.size))
  have HK5 := hid (HK4.out.below hb)
  clear hb
  clear HN
  have y1 := HK5.out.g1
  have y2 := HK5.out.g2
  have y3 := HK5.out.g3
  have y4 := HK5.out.g4
  have y5 := HK5.out.g5
  have y6 := HK5.out.g6
  have y7 := HK5.out.g7
  have y8 := HK5.out.g8
  have y9 := HK5.out.g9
  have y10 := HK5.out.g10
  have y11 := HK5.out.g11
  have y12 := HK5.out.g12
  have y13 := HK5.out.g13
  have y14 := HK5.out.g14
  have y15 := HK5.out.g15
  have y16 := HK5.out.g16
  cases nd : noneT e.doc
  case false =>
   have HE : Hid (r = false) := hid (by rw [HR.out]; simp [nd])
   go_wp2_with fail
   go_ret
   exact ⟨by rw [HE.out]; rfl, HB5.out⟩
  have Hnd := hid nd
  clear nd
  by_cases hc5 : e.dels.length = 0
  case neg =>
   have g5 : decide ((e.dels.length : Int) > 0) = true := decide_eq_true (len_pos5 hc5)
   have g6 : (0 : Int) < (e.dels.length : Int) := len_pos5 hc5
   have g7 : ¬ e.dels = [] := fun h => hc5 (by rw [h]; rfl)
   have HE : Hid (r = false) := hid (by rw [HR.out]; simp [g7])
   go_wp2_with fail
   go_ret
   exact ⟨by rw [HE.out]; rfl, HB5.out⟩
  have g5 : ¬ ((0 : Int) < (e.dels.length : Int)) := by omega
  have g6 : e.dels = [] := List.eq_nil_of_length_eq_zero hc5
  have HC5 := hid hc5
  clear hc5 g5
  have hk1 : e.kind ≠ 1 := by have := HKD.out; simpa using this
  have HE : Hid (r = true) := hid (by rw [HR.out, if_neg hk1]; simp only [Hnc.out, Hnt.out, HNE.out, Hni.out, Hnd.out, HC5.out, Bool.not_true, Bool.not_false, Bool.true_or, Bool.false_or, decide_true, Bool.and_true, Bool.true_and, Bool.and_self])
  have g8 : (e.kind == 1) = false := beq_false_of_ne hk1
  have g9 : ¬ e.kind = 1 := hk1
  clear hk1
  go_wp2_with fail
  go_ret
  exact ⟨by rw [HE.out]; rfl, HB5.out⟩
theorem r13may_any (S : Nat → Prop) (e : EntT) (cs : Array Value) (w : World) (hS : ∀ b, S b → b < w.heap.size) (h : EntL w S e cs) (hd : SmE e) :
  Calls Tryz.prog 22 #[.agg cs] w fun r w' => r = .returned (.bool (mayE e)) ∧ Below w.heap.size w w' := by
 obtain ⟨IA, ic, IA', ic', DA, dc, DA', dc', LA, lc, rfl, hat⟩ := h.at
 rw [mayE_parts]
 refine r13may_bits (hasColl e.kind) (hasTo e.kind) (hasId e.kind) (hasDoc e.kind) (hasDels e.kind) (has_combo e.kind) S e IA ic IA' ic' DA dc DA' dc' LA lc w hS hat hd (r13has_any e.kind) ?_
 by_cases hc : 2 ≤ e.kind ∧ e.kind ≤ 7
 ·have h1 : hasColl e.kind = true := by unfold hasColl; rw [decide_eq_true hc.1, decide_eq_true hc.2]; rfl
  rw [if_pos h1]; omega
 ·have h1 : ¬ hasColl e.kind = true := by unfold hasColl; simp only [Bool.and_eq_true, decide_eq_true_eq]; exact hc
  rw [if_neg h1]; omega
def largeE (e : EntT) : Bool := largeT e.id || largeT e.doc || largeD e.dels
theorem dels_smallE {w : World} {S : Nat → Prop} {A : Option Addr} {l : List DelT} (h : DelsL w S A l) (hl : largeD l = false) : l.length ≤ 64 → SmallD l ∧ SmallZD l := fun h64 => by
 have h1 : ∀ d ∈ l, depthT d.val ≤ 41 ∧ d.path.length ≤ 50 ∧ largeT d.val = false := fun d hd => (largeD_small hl).2 d (by rw [List.take_of_length_le (by omega)]; exact hd)
 refine ⟨fun d hd => by have := (h1 d hd).1; omega, fun d hd => ?_⟩
 obtain ⟨i, hi, rfl⟩ := List.getElem_of_mem hd
 obtain ⟨b, off, -, -, hc⟩ := h (by omega)
 obtain ⟨cs', -, hop⟩ := hc i hi
 obtain ⟨PA, pc, VA, vc, VA', vc', -, hlv, -⟩ := hop
 exact size_small hlv (h1 _ hd).2.2
theorem small_ent {w : World} {S : Nat → Prop} {e : EntT} {cs : Array Value} (h : EntL w S e cs) (hl : largeE e = false) : SmE e ∧ e.dels.length ≤ 100 := by
 obtain ⟨IA, ic, IA', ic', DA, dc, DA', dc', LA, lc, rfl, hat⟩ := h.at
 unfold largeE at hl
 simp only [Bool.or_eq_false_iff] at hl
 obtain ⟨⟨h1, h2⟩, h3⟩ := hl
 exact ⟨⟨by have := depth_small h1; omega, by have := depth_small h2; omega, size_small hat.id h1, size_small hat.doc h2, dels_smallE hat.dels h3⟩, (largeD_small h3).1⟩
set_option maxHeartbeats 4000000 in
theorem r13large_any (S : Nat → Prop) (e : EntT) (cs : Array Value) (w : World) (hS : ∀ b, S b → b < w.heap.size) (h : EntL w S e cs) :
  Calls Tryz.prog 20 #[.agg cs] w fun r w' => r = .returned (.bool (largeE e)) ∧ Below w.heap.size w w' := by
 obtain ⟨IA, ic, IA', ic', DA, dc, DA', dc', LA, lc, rfl, hat⟩ := h.at
 obtain ⟨w1, hw1⟩ : ∃ W, W = w.alloc (.cells #[.int .i64 e.term, .int .i64 e.kind, .string e.coll, .string e.to, .int .i64 e.id.kind, .int .i64 e.id.num, .string e.id.text, .slice IA e.id.items.length ic, .slice IA' e.id.names.length ic', .int .i64 e.doc.kind, .int .i64 e.doc.num, .string e.doc.text, .slice DA e.doc.items.length dc, .slice DA' e.doc.names.length dc', .slice LA e.dels.length lc, .int .i64 e.session, .int .i64 e.number] 30) := ⟨_, rfl⟩
 have hbk : EBox w1 w.heap.size e IA ic IA' ic' DA dc DA' dc' LA lc := by rw [hw1]; exact heap_alloc_new w _
 have hb1 : Below w.heap.size w w1 := by rw [hw1]; exact below_box _
 obtain ⟨r, hr⟩ : ∃ r, r = largeE e := ⟨_, rfl⟩
 have HR : Hid (r = (largeT e.id || largeT e.doc || largeD e.dels)) := hid hr
 rw [← hr]
 have HB1 := hid hb1
 have HK1 := hid hbk
 have HS := hid hS
 have HA := hid hat
 clear hr hb1 hbk hS h hat
 have HN := hid (large_any S e.id _ w1 (fun b hb => Nat.lt_of_lt_of_le (HS.out b hb) HB1.out.size) (HA.out.below HS.out HB1.out).id)
 go_enter Tryz.func20, Tryz.ntmps20
 go_wp2_with fail
 rw [← hw1]
 clear hw1
 refine HN.out.mono ?_
 rintro q w2 ⟨rfl, hb⟩
 have HB2 := hid (HB1.out.trans (hb.mono HB1.out.size))
 have HK2 := hid (HK1.out.below hb)
 clear hb HN
 cases h1 : largeT e.id
 case true =>
  have HE : Hid (r = true) := hid (by rw [HR.out, h1]; rfl)
  go_wp2_with fail
  go_ret
  exact ⟨by rw [HE.out]; rfl, HB2.out⟩
 rw [h1, Bool.false_or] at HR
 clear h1
 have HN := hid (large_any S e.doc _ w2 (fun b hb => Nat.lt_of_lt_of_le (HS.out b hb) HB2.out.size) (HA.out.below HS.out HB2.out).doc)
 have y9 := HK2.out.g9
 have y10 := HK2.out.g10
 have y11 := HK2.out.g11
 have y12 := HK2.out.g12
 have y13 := HK2.out.g13
 go_wp2_with fail
 refine HN.out.mono ?_
 rintro q w3 ⟨rfl, hb⟩
 clear y9 y10 y11 y12 y13
 have HB3 := hid (HB2.out.trans (hb.mono HB2.out.size))
 have HK3 := hid (HK2.out.below hb)
 clear hb HN
 cases h1 : largeT e.doc
 case true =>
  have HE : Hid (r = true) := hid (by rw [HR.out, h1]; rfl)
  go_wp2_with fail
  go_ret
  exact ⟨by rw [HE.out]; rfl, HB3.out⟩
 rw [h1, Bool.false_or] at HR
 clear h1
 have HN := hid (r6large_any S LA lc e.dels w3 (fun b hb => Nat.lt_of_lt_of_le (HS.out b hb) HB3.out.size) (HA.out.below HS.out HB3.out).dels (by have := HA.out.len; omega))
 have y14 := HK3.out.g14
 go_wp2_with fail
 refine HN.out.mono ?_
 rintro q w4 ⟨rfl, hb⟩
 have HB4 := hid (HB3.out.trans (hb.mono HB3.out.size))
 clear hb HN y14
 go_wp2_with fail
 go_ret
 exact ⟨by rw [HR.out]; rfl, HB4.out⟩
end Go.Proofs.YtlipkmdjpligeaaGreat
