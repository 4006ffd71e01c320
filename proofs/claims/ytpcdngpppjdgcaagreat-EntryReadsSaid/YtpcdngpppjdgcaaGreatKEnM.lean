/- Whether an entry may be, by the document. (Written by mkenm.py.) -/
import Derived.Test.YtpcdngpppjdgcaaGreatKDlP
import Derived.Test.YtpcdngpppjdgcaaGreatKValO
import Derived.Test.YtpcdngpppjdgcaaGreatKCodF
import Derived.Test.YtpcdngpppjdgcaaGreatKDlU
namespace Go.Proofs.YtpcdngpppjdgcaaGreat
open Lib (hid)
set_option linter.unusedVariables false
set_option linter.unusedSimpArgs false
open Go.RowKit
set_option maxRecDepth 100000
theorem name13_below (s : ByteArray) (w : World) (hs : s.size ≤ 140737488351232) : Calls Tryz.prog 19 #[.string s] w fun e w' => e = .returned (.bool (nameC s)) ∧ Below w.heap.size w w' :=
 (r13name_any s w hs).mono fun _ _ h => ⟨h.1, by rw [h.2]; exact Below.refl _ _⟩
theorem len_pos5 {n : Nat} (h : ¬ n = 0) : (0 : Int) < (n : Int) := by omega
set_option maxHeartbeats 16000000 in
theorem r13may_bits (b1 b2 b3 b4 b5 : Bool) (hb : (b1 = false ∧ b2 = false ∧ b3 = false ∧ b4 = false ∧ b5 = false) ∨ (b1 = true ∧ b2 = false ∧ b3 = true ∧ b4 = true ∧ b5 = false) ∨ (b1 = true ∧ b2 = false ∧ b3 = true ∧ b4 = false ∧ b5 = true) ∨ (b1 = true ∧ b2 = false ∧ b3 = true ∧ b4 = false ∧ b5 = false) ∨ (b1 = true ∧ b2 = false ∧ b3 = false ∧ b4 = false ∧ b5 = false) ∨ (b1 = true ∧ b2 = true ∧ b3 = false ∧ b4 = false ∧ b5 = false)) (S : Nat → Prop) (e : EntT) (IA : Option Addr) (ic : Nat) (IA' : Option Addr) (ic' : Nat) (DA : Option Addr) (dc : Nat) (DA' : Option Addr) (dc' : Nat) (LA : Option Addr) (lc : Nat) (w : World) (hS : ∀ b, S b → b < w.heap.size) (h : EntAt w S e IA ic IA' ic' DA dc DA' dc' LA lc) (hd : SmE e)
  (hh : ∀ W, Calls Tryz.prog 48 #[.int .i64 e.kind] W fun r w' => r = .returned (.tuple #[.bool b1, .bool b2, .bool b3, .bool b4, .bool b5]) ∧ w' = W) (hkd : if b1 = true then e.kind ≠ 1 else (1 ≤ e.kind → e.kind ≤ 7 → e.kind = 1)) :
  Calls Tryz.prog 15 #[.agg #[.int .i64 e.term, .int .i64 e.kind, .string e.coll, .string e.to, .int .i64 e.id.kind, .int .i64 e.id.num, .string e.id.text, .slice IA e.id.items.length ic, .slice IA' e.id.names.length ic', .int .i64 e.doc.kind, .int .i64 e.doc.num, .string e.doc.text, .slice DA e.doc.items.length dc, .slice DA' e.doc.names.length dc', .slice LA e.dels.length lc, .int .i64 e.session, .int .i64 e.number]] w fun r w' => r = .returned (.bool (knownE e.kind && numE e && ((b1 || decide (e.coll.size = 0)) && (b2 || decide (e.to.size = 0)) && (b3 || noneT e.id) && (b4 || noneT e.doc) && (b5 || decide (e.dels.length = 0))) && ((!b1 || nameC e.coll) && (!b2 || (nameC e.to && decide (e.to ≠ e.coll))) && (!b3 || decide (checkT e.id = 0)) && (!b4 || holdE e.doc e.id) && (!b5 || mayDo e.dels)))) ∧ Below w.heap.size w w' := by
 obtain ⟨w1, hw1⟩ : ∃ W, W = w.alloc (.cells #[.int .i64 e.term, .int .i64 e.kind, .string e.coll, .string e.to, .int .i64 e.id.kind, .int .i64 e.id.num, .string e.id.text, .slice IA e.id.items.length ic, .slice IA' e.id.names.length ic', .int .i64 e.doc.kind, .int .i64 e.doc.num, .string e.doc.text, .slice DA e.doc.items.length dc, .slice DA' e.doc.names.length dc', .slice LA e.dels.length lc, .int .i64 e.session, .int .i64 e.number] 28) := ⟨_, rfl⟩
 have hbk : EBox w1 w.heap.size e IA ic IA' ic' DA dc DA' dc' LA lc := by rw [hw1]; exact heap_alloc_new w _
 have hb1 : Below w.heap.size w w1 := by rw [hw1]; exact below_box _
 obtain ⟨r, hr⟩ : ∃ r, r = (knownE e.kind && numE e && ((b1 || decide (e.coll.size = 0)) && (b2 || decide (e.to.size = 0)) && (b3 || noneT e.id) && (b4 || noneT e.doc) && (b5 || decide (e.dels.length = 0))) && ((!b1 || nameC e.coll) && (!b2 || (nameC e.to && decide (e.to ≠ e.coll))) && (!b3 || decide (checkT e.id = 0)) && (!b4 || holdE e.doc e.id) && (!b5 || mayDo e.dels))) := ⟨_, rfl⟩
 have HR := hid hr
 rw [← hr]
 have HB1 := hid hb1
 have HK1 := hid hbk
 have HS := hid hS
 have HA := hid h
 have HD := hid hd
 have HH := hid hh
 have HKD := hid hkd
 have HCB := hid hb
 clear hr hb1 hbk hS h hd hh hkd hb
 go_enter Tryz.func15, Tryz.ntmps15
 by_cases hK1 : 1 ≤ e.kind
 case neg =>
  have gK1 : e.kind < 1 := by omega
  have HE : Hid (r = false) := hid (by rw [HR.out]; unfold knownE numE; rw [decide_eq_false hK1]; simp)
  have dK1 : decide (e.kind < 1) = true := decide_eq_true gK1
  clear hK1
  go_wp2_with fail
  rw [← hw1]
  go_ret
  exact ⟨by rw [HE.out]; rfl, HB1.out⟩
 by_cases hK7 : e.kind ≤ 7
 case neg =>
  have gK7 : 7 < e.kind := by omega
  have HE : Hid (r = false) := hid (by rw [HR.out]; unfold knownE numE; rw [decide_eq_false hK7]; simp)
  have dK7 : decide (7 < e.kind) = true := decide_eq_true gK7
  have gK1 : decide (e.kind < 1) = false := decide_eq_false (by omega)
  clear hK7
  go_wp2_with fail
  rw [← hw1]
  go_ret
  exact ⟨by rw [HE.out]; rfl, HB1.out⟩
 by_cases hT0 : 0 ≤ e.term
 case neg =>
  have gT0 : e.term < 0 := by omega
  have HE : Hid (r = false) := hid (by rw [HR.out]; unfold knownE numE; rw [decide_eq_false hT0]; simp)
  have dT0 : decide (e.term < 0) = true := decide_eq_true gT0
  have gK1 : decide (e.kind < 1) = false := decide_eq_false (by omega)
  have gK7 : decide (7 < e.kind) = false := decide_eq_false (by omega)
  clear hT0
  go_wp2_with fail
  rw [← hw1]
  go_ret
  exact ⟨by rw [HE.out]; rfl, HB1.out⟩
 by_cases hT1 : e.term ≤ 1099511627776
 case neg =>
  have gT1 : 1099511627776 < e.term := by omega
  have HE : Hid (r = false) := hid (by rw [HR.out]; unfold knownE numE; rw [decide_eq_false hT1]; simp)
  have dT1 : decide (1099511627776 < e.term) = true := decide_eq_true gT1
  have gK1 : decide (e.kind < 1) = false := decide_eq_false (by omega)
  have gK7 : decide (7 < e.kind) = false := decide_eq_false (by omega)
  have gT0 : decide (e.term < 0) = false := decide_eq_false (by omega)
  clear hT1
  go_wp2_with fail
  rw [← hw1]
  go_ret
  exact ⟨by rw [HE.out]; rfl, HB1.out⟩
 by_cases hS0 : 0 ≤ e.session
 case neg =>
  have gS0 : e.session < 0 := by omega
  have HE : Hid (r = false) := hid (by rw [HR.out]; unfold knownE numE; rw [decide_eq_false hS0]; simp)
  have dS0 : decide (e.session < 0) = true := decide_eq_true gS0
  have gK1 : decide (e.kind < 1) = false := decide_eq_false (by omega)
  have gK7 : decide (7 < e.kind) = false := decide_eq_false (by omega)
  have gT0 : decide (e.term < 0) = false := decide_eq_false (by omega)
  have gT1 : decide (1099511627776 < e.term) = false := decide_eq_false (by omega)
  clear hS0
  go_wp2_with fail
  rw [← hw1]
  go_ret
  exact ⟨by rw [HE.out]; rfl, HB1.out⟩
 by_cases hS1 : e.session ≤ 255
 case neg =>
  have gS1 : 255 < e.session := by omega
  have HE : Hid (r = false) := hid (by rw [HR.out]; unfold knownE numE; rw [decide_eq_false hS1]; simp)
  have dS1 : decide (255 < e.session) = true := decide_eq_true gS1
  have gK1 : decide (e.kind < 1) = false := decide_eq_false (by omega)
  have gK7 : decide (7 < e.kind) = false := decide_eq_false (by omega)
  have gT0 : decide (e.term < 0) = false := decide_eq_false (by omega)
  have gT1 : decide (1099511627776 < e.term) = false := decide_eq_false (by omega)
  have gS0 : decide (e.session < 0) = false := decide_eq_false (by omega)
  clear hS1
  go_wp2_with fail
  rw [← hw1]
  go_ret
  exact ⟨by rw [HE.out]; rfl, HB1.out⟩
 by_cases hN0 : 0 ≤ e.number
 case neg =>
  have gN0 : e.number < 0 := by omega
  have HE : Hid (r = false) := hid (by rw [HR.out]; unfold knownE numE; rw [decide_eq_false hN0]; simp)
  have dN0 : decide (e.number < 0) = true := decide_eq_true gN0
  have gK1 : decide (e.kind < 1) = false := decide_eq_false (by omega)
  have gK7 : decide (7 < e.kind) = false := decide_eq_false (by omega)
  have gT0 : decide (e.term < 0) = false := decide_eq_false (by omega)
  have gT1 : decide (1099511627776 < e.term) = false := decide_eq_false (by omega)
  have gS0 : decide (e.session < 0) = false := decide_eq_false (by omega)
  have gS1 : decide (255 < e.session) = false := decide_eq_false (by omega)
  clear hN0
  go_wp2_with fail
  rw [← hw1]
  go_ret
  exact ⟨by rw [HE.out]; rfl, HB1.out⟩
 by_cases hN1 : e.number ≤ 1099511627776
 case neg =>
  have gN1 : 1099511627776 < e.number := by omega
  have HE : Hid (r = false) := hid (by rw [HR.out]; unfold knownE numE; rw [decide_eq_false hN1]; simp)
  have dN1 : decide (1099511627776 < e.number) = true := decide_eq_true gN1
  have gK1 : decide (e.kind < 1) = false := decide_eq_false (by omega)
  have gK7 : decide (7 < e.kind) = false := decide_eq_false (by omega)
  have gT0 : decide (e.term < 0) = false := decide_eq_false (by omega)
  have gT1 : decide (1099511627776 < e.term) = false := decide_eq_false (by omega)
  have gS0 : decide (e.session < 0) = false := decide_eq_false (by omega)
  have gS1 : decide (255 < e.session) = false := decide_eq_false (by omega)
  have gN0 : decide (e.number < 0) = false := decide_eq_false (by omega)
  clear hN1
  go_wp2_with fail
  rw [← hw1]
  go_ret
  exact ⟨by rw [HE.out]; rfl, HB1.out⟩
 have gK1 : decide (e.kind < 1) = false := decide_eq_false (by omega)
 have gK7 : decide (7 < e.kind) = false := decide_eq_false (by omega)
 have gT0 : decide (e.term < 0) = false := decide_eq_false (by omega)
 have gT1 : decide (1099511627776 < e.term) = false := decide_eq_false (by omega)
 have gS0 : decide (e.session < 0) = false := decide_eq_false (by omega)
 have gS1 : decide (255 < e.session) = false := decide_eq_false (by omega)
 have gN0 : decide (e.number < 0) = false := decide_eq_false (by omega)
 have gN1 : decide (1099511627776 < e.number) = false := decide_eq_false (by omega)
 have HNB := hid (And.intro hK1 (And.intro hK7 (And.intro hT0 (And.intro hT1 (And.intro hS0 (And.intro hS1 (And.intro hN0 hN1)))))))
 have HKN : Hid (knownE e.kind = true ∧ numE e = (if e.kind = 1 then decide (e.session = 0) && decide (e.number = 0) else true)) := hid (by
  unfold knownE numE
  rw [decide_eq_true hK1, decide_eq_true hK7, decide_eq_true hT0, decide_eq_true hT1, decide_eq_true hS0, decide_eq_true hS1, decide_eq_true hN0, decide_eq_true hN1]
  simp)
 rw [HKN.out.1, HKN.out.2, Bool.true_and] at HR
 go_wp2_with fail
 rw [← hw1]
 clear hw1
 refine (HH.out _).mono ?_
 rintro q u ⟨rfl, hw⟩
 replace hw := hw.symm
 subst hw
 clear hK1 hK7 hT0 hT1 hS0 hS1 hN0 hN1 gK1 gK7 gT0 gT1 gS0 gS1 gN0 gN1
 rcases HCB.out with ⟨rfl, rfl, rfl, rfl, rfl⟩ | ⟨rfl, rfl, rfl, rfl, rfl⟩ | ⟨rfl, rfl, rfl, rfl, rfl⟩ | ⟨rfl, rfl, rfl, rfl, rfl⟩ | ⟨rfl, rfl, rfl, rfl, rfl⟩ | ⟨rfl, rfl, rfl, rfl, rfl⟩
 ·skip
  have y1 := HK1.out.g1
  have y2 := HK1.out.g2
  have y3 := HK1.out.g3
  have y4 := HK1.out.g4
  have y5 := HK1.out.g5
  have y6 := HK1.out.g6
  have y7 := HK1.out.g7
  have y8 := HK1.out.g8
  have y9 := HK1.out.g9
  have y10 := HK1.out.g10
  have y11 := HK1.out.g11
  have y12 := HK1.out.g12
  have y13 := HK1.out.g13
  have y14 := HK1.out.g14
  have y15 := HK1.out.g15
  have y16 := HK1.out.g16
  by_cases hc1 : e.coll.size = 0
  case neg =>
   have e1 : e.coll.toList.isEmpty = false := by rw [← Bool.not_eq_true, isEmpty_size]; exact hc1
   have f1 : ¬ e.coll.toList = [] := fun h => hc1 (toList_nil.1 h)
   have HE : Hid (r = false) := hid (by rw [HR.out]; simp [hc1])
   go_wp2_with fail
   go_ret
   exact ⟨by rw [HE.out]; rfl, HB1.out⟩
  have e1 : e.coll.toList = [] := toList_nil.2 hc1
  have HC1 := hid hc1
  clear hc1
  by_cases hc2 : e.to.size = 0
  case neg =>
   have e2 : e.to.toList.isEmpty = false := by rw [← Bool.not_eq_true, isEmpty_size]; exact hc2
   have f2 : ¬ e.to.toList = [] := fun h => hc2 (toList_nil.1 h)
   have HE : Hid (r = false) := hid (by rw [HR.out]; simp [hc2])
   go_wp2_with fail
   go_ret
   exact ⟨by rw [HE.out]; rfl, HB1.out⟩
  have e2 : e.to.toList = [] := toList_nil.2 hc2
  have HC2 := hid hc2
  clear hc2
  have HN := hid (rnone7_any S e.id _ w1 (fun b hb => Nat.lt_of_lt_of_le (HS.out b hb) HB1.out.size) ((HA.out.below HS.out HB1.out)).id)
  go_wp2_with fail
  refine HN.out.mono ?_
  rintro q w2 ⟨rfl, hb⟩
  clear y1 y2 y3 y4 y5 y6 y7 y8 y9 y10 y11 y12 y13 y14 y15 y16
  have HB2 := hid (HB1.out.trans (hb.mono HB1.out.size))
  have HK2 := hid (HK1.out.below hb)
  clear hb
  clear HN
  have y1 := HK2.out.g1
  have y2 := HK2.out.g2
  have y3 := HK2.out.g3
  have y4 := HK2.out.g4
  have y5 := HK2.out.g5
  have y6 := HK2.out.g6
  have y7 := HK2.out.g7
  have y8 := HK2.out.g8
  have y9 := HK2.out.g9
  have y10 := HK2.out.g10
  have y11 := HK2.out.g11
  have y12 := HK2.out.g12
  have y13 := HK2.out.g13
  have y14 := HK2.out.g14
  have y15 := HK2.out.g15
  have y16 := HK2.out.g16
  cases ni : noneT e.id
  case false =>
   have HE : Hid (r = false) := hid (by rw [HR.out]; simp [ni])
   go_wp2_with fail
   go_ret
   exact ⟨by rw [HE.out]; rfl, HB2.out⟩
  have Hni := hid ni
  clear ni
  have HN := hid (rnone7_any S e.doc _ w2 (fun b hb => Nat.lt_of_lt_of_le (HS.out b hb) HB2.out.size) ((HA.out.below HS.out HB2.out)).doc)
  go_wp2_with fail
  refine HN.out.mono ?_
  rintro q w3 ⟨rfl, hb⟩
  clear y1 y2 y3 y4 y5 y6 y7 y8 y9 y10 y11 y12 y13 y14 y15 y16
  have HB3 := hid (HB2.out.trans (hb.mono HB2.out.size))
  have HK3 := hid (HK2.out.below hb)
  clear hb
  clear HN
  have y1 := HK3.out.g1
  have y2 := HK3.out.g2
  have y3 := HK3.out.g3
  have y4 := HK3.out.g4
  have y5 := HK3.out.g5
  have y6 := HK3.out.g6
  have y7 := HK3.out.g7
  have y8 := HK3.out.g8
  have y9 := HK3.out.g9
  have y10 := HK3.out.g10
  have y11 := HK3.out.g11
  have y12 := HK3.out.g12
  have y13 := HK3.out.g13
  have y14 := HK3.out.g14
  have y15 := HK3.out.g15
  have y16 := HK3.out.g16
  cases nd : noneT e.doc
  case false =>
   have HE : Hid (r = false) := hid (by rw [HR.out]; simp [nd])
   go_wp2_with fail
   go_ret
   exact ⟨by rw [HE.out]; rfl, HB3.out⟩
  have Hnd := hid nd
  clear nd
  by_cases hc5 : e.dels.length = 0
  case neg =>
   have g5 : decide ((e.dels.length : Int) > 0) = true := decide_eq_true (len_pos5 hc5)
   have g6 : (0 : Int) < (e.dels.length : Int) := len_pos5 hc5
   have g7 : ¬ e.dels = [] := fun h => hc5 (by rw [h]; rfl)
   have HE : Hid (r = false) := hid (by rw [HR.out]; simp [g7])
   go_wp2_with fail
   go_ret
   exact ⟨by rw [HE.out]; rfl, HB3.out⟩
  have g5 : ¬ ((0 : Int) < (e.dels.length : Int)) := by omega
  have g6 : e.dels = [] := List.eq_nil_of_length_eq_zero hc5
  have HC5 := hid hc5
  clear hc5 g5
  have hk1 : e.kind = 1 := by have := HKD.out; simp only [Bool.false_eq_true, if_false] at this; exact this HNB.out.1 HNB.out.2.1
  have HE : Hid (r = (decide (e.session = 0) && decide (e.number = 0))) := hid (by rw [HR.out, if_pos hk1]; simp only [HC1.out, HC2.out, Hni.out, Hnd.out, HC5.out, Bool.not_true, Bool.not_false, Bool.true_or, Bool.false_or, decide_true, Bool.and_true, Bool.true_and, Bool.and_self])
  obtain ⟨kk, hkk⟩ : ∃ k, k = e.kind := ⟨_, rfl⟩
  rw [← hkk] at y1 hk1
  subst hk1
  obtain ⟨ss, hss⟩ : ∃ k, k = e.session := ⟨_, rfl⟩
  obtain ⟨nn, hnn⟩ : ∃ k, k = e.number := ⟨_, rfl⟩
  rw [← hss] at y15
  rw [← hnn] at y16
  rw [← hss, ← hnn] at HE
  clear hkk hss hnn
  by_cases h1 : ss = 0
  case neg =>
   have g1 : (ss == 0) = false := beq_false_of_ne h1
   have HE2 : Hid (r = false) := hid (by rw [HE.out, decide_eq_false h1]; rfl)
   go_wp2_with fail
   go_ret
   exact ⟨by rw [HE2.out]; rfl, HB3.out⟩
  subst h1
  by_cases h2 : nn = 0
  case neg =>
   have g1 : (nn == 0) = false := beq_false_of_ne h2
   have HE2 : Hid (r = false) := hid (by rw [HE.out, decide_eq_false h2]; rfl)
   go_wp2_with fail
   go_ret
   exact ⟨by rw [HE2.out]; rfl, HB3.out⟩
  subst h2
  go_wp2_with fail
  go_ret
  exact ⟨by rw [HE.out]; rfl, HB3.out⟩
 ·skip
  have y1 := HK1.out.g1
  have y2 := HK1.out.g2
  have y3 := HK1.out.g3
  have y4 := HK1.out.g4
  have y5 := HK1.out.g5
  have y6 := HK1.out.g6
  have y7 := HK1.out.g7
  have y8 := HK1.out.g8
  have y9 := HK1.out.g9
  have y10 := HK1.out.g10
  have y11 := HK1.out.g11
  have y12 := HK1.out.g12
  have y13 := HK1.out.g13
  have y14 := HK1.out.g14
  have y15 := HK1.out.g15
  have y16 := HK1.out.g16
  by_cases hc1 : e.coll.size = 0
  case pos =>
   have e1 : e.coll.toList = [] := toList_nil.2 hc1
   have hnn : nameC e.coll = false := by
    cases hz : nameC e.coll with
    | false => rfl
    | true => exact absurd hc1 (nameC_pos hz)
   have HE : Hid (r = false) := hid (by rw [HR.out]; simp [hnn])
   clear hnn
   go_wp2_with fail
   go_ret
   exact ⟨by rw [HE.out]; rfl, HB1.out⟩
  have e1 : e.coll.toList.isEmpty = false := by rw [← Bool.not_eq_true, isEmpty_size]; exact hc1
  have f1 : ¬ e.coll.toList = [] := fun h => hc1 (toList_nil.1 h)
  have HC1 := hid hc1
  clear hc1
  have HN := hid (name13_below e.coll w1 HA.out.cz)
  go_wp2_with fail
  refine HN.out.mono ?_
  rintro q w2 ⟨rfl, hb⟩
  clear y1 y2 y3 y4 y5 y6 y7 y8 y9 y10 y11 y12 y13 y14 y15 y16
  have HB2 := hid (HB1.out.trans (hb.mono HB1.out.size))
  have HK2 := hid (HK1.out.below hb)
  clear hb
  clear HN
  have y1 := HK2.out.g1
  have y2 := HK2.out.g2
  have y3 := HK2.out.g3
  have y4 := HK2.out.g4
  have y5 := HK2.out.g5
  have y6 := HK2.out.g6
  have y7 := HK2.out.g7
  have y8 := HK2.out.g8
  have y9 := HK2.out.g9
  have y10 := HK2.out.g10
  have y11 := HK2.out.g11
  have y12 := HK2.out.g12
  have y13 := HK2.out.g13
  have y14 := HK2.out.g14
  have y15 := HK2.out.g15
  have y16 := HK2.out.g16
  cases nc : nameC e.coll
  case false =>
   have HE : Hid (r = false) := hid (by rw [HR.out]; simp [nc])
   go_wp2_with fail
   go_ret
   exact ⟨by rw [HE.out]; rfl, HB2.out⟩
  have Hnc := hid nc
  clear nc
  by_cases hc2 : e.to.size = 0
  case neg =>
   have e2 : e.to.toList.isEmpty = false := by rw [← Bool.not_eq_true, isEmpty_size]; exact hc2
   have f2 : ¬ e.to.toList = [] := fun h => hc2 (toList_nil.1 h)
   have HE : Hid (r = false) := hid (by rw [HR.out]; simp [hc2])
   go_wp2_with fail
   go_ret
   exact ⟨by rw [HE.out]; rfl, HB2.out⟩
  have e2 : e.to.toList = [] := toList_nil.2 hc2
  have HC2 := hid hc2
  clear hc2
  have HN := hid (rcheck_any S e.id _ w2 HD.out.idd (fun b hb => Nat.lt_of_lt_of_le (HS.out b hb) HB2.out.size) ((HA.out.below HS.out HB2.out)).id)
  go_wp2_with fail
  refine HN.out.mono ?_
  rintro q w3 ⟨rfl, hb⟩
  clear y1 y2 y3 y4 y5 y6 y7 y8 y9 y10 y11 y12 y13 y14 y15 y16
  have HB3 := hid (HB2.out.trans (hb.mono HB2.out.size))
  have HK3 := hid (HK2.out.below hb)
  clear hb
  clear HN
  have y1 := HK3.out.g1
  have y2 := HK3.out.g2
  have y3 := HK3.out.g3
  have y4 := HK3.out.g4
  have y5 := HK3.out.g5
  have y6 := HK3.out.g6
  have y7 := HK3.out.g7
  have y8 := HK3.out.g8
  have y9 := HK3.out.g9
  have y10 := HK3.out.g10
  have y11 := HK3.out.g11
  have y12 := HK3.out.g12
  have y13 := HK3.out.g13
  have y14 := HK3.out.g14
  have y15 := HK3.out.g15
  have y16 := HK3.out.g16
  obtain ⟨x, hx⟩ : ∃ x, x = checkT e.id := ⟨_, rfl⟩
  have HX := hid hx
  rw [← hx] at HR ⊢
  clear hx
  by_cases hx0 : x = 0
  case neg =>
   have g1 : (x == 0) = false := beq_false_of_ne hx0
   have g2 : (x != 0) = true := by simp [hx0]
   have HE : Hid (r = false) := hid (by rw [HR.out]; simp [hx0])
   go_wp2_with fail
   go_ret
   exact ⟨by rw [HE.out]; rfl, HB3.out⟩
  subst hx0
  have HN := hid (r13doc_any S e.doc e.id _ _ w3 (fun b hb => Nat.lt_of_lt_of_le (HS.out b hb) HB3.out.size) ((HA.out.below HS.out HB3.out)).doc ((HA.out.below HS.out HB3.out)).id HD.out.docd (check_may HX.out.symm))
  go_wp2_with fail
  refine HN.out.mono ?_
  rintro q w4 ⟨rfl, hb⟩
  clear y1 y2 y3 y4 y5 y6 y7 y8 y9 y10 y11 y12 y13 y14 y15 y16
  have HB4 := hid (HB3.out.trans (hb.mono HB3.out.size))
  have HK4 := hid (HK3.out.below hb)
  clear hb
  clear HN
  have y1 := HK4.out.g1
  have y2 := HK4.out.g2
  have y3 := HK4.out.g3
  have y4 := HK4.out.g4
  have y5 := HK4.out.g5
  have y6 := HK4.out.g6
  have y7 := HK4.out.g7
  have y8 := HK4.out.g8
  have y9 := HK4.out.g9
  have y10 := HK4.out.g10
  have y11 := HK4.out.g11
  have y12 := HK4.out.g12
  have y13 := HK4.out.g13
  have y14 := HK4.out.g14
  have y15 := HK4.out.g15
  have y16 := HK4.out.g16
  cases nd : holdE e.doc e.id
  case false =>
   have HE : Hid (r = false) := hid (by rw [HR.out]; simp [nd])
   go_wp2_with fail
   go_ret
   exact ⟨by rw [HE.out]; rfl, HB4.out⟩
  have Hnd := hid nd
  clear nd
  by_cases hc5 : e.dels.length = 0
  case neg =>
   have g5 : decide ((e.dels.length : Int) > 0) = true := decide_eq_true (len_pos5 hc5)
   have g6 : (0 : Int) < (e.dels.length : Int) := len_pos5 hc5
   have g7 : ¬ e.dels = [] := fun h => hc5 (by rw [h]; rfl)
   have HE : Hid (r = false) := hid (by rw [HR.out]; simp [g7])
   go_wp2_with fail
   go_ret
   exact ⟨by rw [HE.out]; rfl, HB4.out⟩
  have g5 : ¬ ((0 : Int) < (e.dels.length : Int)) := by omega
  have g6 : e.dels = [] := List.eq_nil_of_length_eq_zero hc5
  have HC5 := hid hc5
  clear hc5 g5
  have hk1 : e.kind ≠ 1 := by have := HKD.out; simpa using this
  have HE : Hid (r = true) := hid (by rw [HR.out, if_neg hk1]; simp only [Hnc.out, HC2.out, decide_true, Hnd.out, HC5.out, Bool.not_true, Bool.not_false, Bool.true_or, Bool.false_or, decide_true, Bool.and_true, Bool.true_and, Bool.and_self])
  have g8 : (e.kind == 1) = false := beq_false_of_ne hk1
  have g9 : ¬ e.kind = 1 := hk1
  clear hk1
  go_wp2_with fail
  go_ret
  exact ⟨by rw [HE.out]; rfl, HB4.out⟩
 ·skip
  have y1 := HK1.out.g1
  have y2 := HK1.out.g2
  have y3 := HK1.out.g3
  have y4 := HK1.out.g4
  have y5 := HK1.out.g5
  have y6 := HK1.out.g6
  have y7 := HK1.out.g7
  have y8 := HK1.out.g8
  have y9 := HK1.out.g9
  have y10 := HK1.out.g10
  have y11 := HK1.out.g11
  have y12 := HK1.out.g12
  have y13 := HK1.out.g13
  have y14 := HK1.out.g14
  have y15 := HK1.out.g15
  have y16 := HK1.out.g16
  by_cases hc1 : e.coll.size = 0
  case pos =>
   have e1 : e.coll.toList = [] := toList_nil.2 hc1
   have hnn : nameC e.coll = false := by
    cases hz : nameC e.coll with
    | false => rfl
    | true => exact absurd hc1 (nameC_pos hz)
   have HE : Hid (r = false) := hid (by rw [HR.out]; simp [hnn])
   clear hnn
   go_wp2_with fail
   go_ret
   exact ⟨by rw [HE.out]; rfl, HB1.out⟩
  have e1 : e.coll.toList.isEmpty = false := by rw [← Bool.not_eq_true, isEmpty_size]; exact hc1
  have f1 : ¬ e.coll.toList = [] := fun h => hc1 (toList_nil.1 h)
  have HC1 := hid hc1
  clear hc1
  have HN := hid (name13_below e.coll w1 HA.out.cz)
  go_wp2_with fail
  refine HN.out.mono ?_
  rintro q w2 ⟨rfl, hb⟩
  clear y1 y2 y3 y4 y5 y6 y7 y8 y9 y10 y11 y12 y13 y14 y15 y16
  have HB2 := hid (HB1.out.trans (hb.mono HB1.out.size))
  have HK2 := hid (HK1.out.below hb)
  clear hb
  clear HN
  have y1 := HK2.out.g1
  have y2 := HK2.out.g2
  have y3 := HK2.out.g3
  have y4 := HK2.out.g4
  have y5 := HK2.out.g5
  have y6 := HK2.out.g6
  have y7 := HK2.out.g7
  have y8 := HK2.out.g8
  have y9 := HK2.out.g9
  have y10 := HK2.out.g10
  have y11 := HK2.out.g11
  have y12 := HK2.out.g12
  have y13 := HK2.out.g13
  have y14 := HK2.out.g14
  have y15 := HK2.out.g15
  have y16 := HK2.out.g16
  cases nc : nameC e.coll
  case false =>
   have HE : Hid (r = false) := hid (by rw [HR.out]; simp [nc])
   go_wp2_with fail
   go_ret
   exact ⟨by rw [HE.out]; rfl, HB2.out⟩
  have Hnc := hid nc
  clear nc
  by_cases hc2 : e.to.size = 0
  case neg =>
   have e2 : e.to.toList.isEmpty = false := by rw [← Bool.not_eq_true, isEmpty_size]; exact hc2
   have f2 : ¬ e.to.toList = [] := fun h => hc2 (toList_nil.1 h)
   have HE : Hid (r = false) := hid (by rw [HR.out]; simp [hc2])
   go_wp2_with fail
   go_ret
   exact ⟨by rw [HE.out]; rfl, HB2.out⟩
  have e2 : e.to.toList = [] := toList_nil.2 hc2
  have HC2 := hid hc2
  clear hc2
  have HN := hid (rcheck_any S e.id _ w2 HD.out.idd (fun b hb => Nat.lt_of_lt_of_le (HS.out b hb) HB2.out.size) ((HA.out.below HS.out HB2.out)).id)
  go_wp2_with fail
  refine HN.out.mono ?_
  rintro q w3 ⟨rfl, hb⟩
  clear y1 y2 y3 y4 y5 y6 y7 y8 y9 y10 y11 y12 y13 y14 y15 y16
  have HB3 := hid (HB2.out.trans (hb.mono HB2.out.size))
  have HK3 := hid (HK2.out.below hb)
  clear hb
  clear HN
  have y1 := HK3.out.g1
  have y2 := HK3.out.g2
  have y3 := HK3.out.g3
  have y4 := HK3.out.g4
  have y5 := HK3.out.g5
  have y6 := HK3.out.g6
  have y7 := HK3.out.g7
  have y8 := HK3.out.g8
  have y9 := HK3.out.g9
  have y10 := HK3.out.g10
  have y11 := HK3.out.g11
  have y12 := HK3.out.g12
  have y13 := HK3.out.g13
  have y14 := HK3.out.g14
  have y15 := HK3.out.g15
  have y16 := HK3.out.g16
  obtain ⟨x, hx⟩ : ∃ x, x = checkT e.id := ⟨_, rfl⟩
  have HX := hid hx
  rw [← hx] at HR ⊢
  clear hx
  by_cases hx0 : x = 0
  case neg =>
   have g1 : (x == 0) = false := beq_false_of_ne hx0
   have g2 : (x != 0) = true := by simp [hx0]
   have HE : Hid (r = false) := hid (by rw [HR.out]; simp [hx0])
   go_wp2_with fail
   go_ret
   exact ⟨by rw [HE.out]; rfl, HB3.out⟩
  subst hx0
  have HN := hid (rnone7_any S e.doc _ w3 (fun b hb => Nat.lt_of_lt_of_le (HS.out b hb) HB3.out.size) ((HA.out.below HS.out HB3.out)).doc)
  go_wp2_with fail
  refine HN.out.mono ?_
  rintro q w4 ⟨rfl, hb⟩
  clear y1 y2 y3 y4 y5 y6 y7 y8 y9 y10 y11 y12 y13 y14 y15 y16
  have HB4 := hid (HB3.out.trans (hb.mono HB3.out.size))
  have HK4 := hid (HK3.out.below hb)
  clear hb
  clear HN
  have y1 := HK4.out.g1
  have y2 := HK4.out.g2
  have y3 := HK4.out.g3
  have y4 := HK4.out.g4
  have y5 := HK4.out.g5
  have y6 := HK4.out.g6
  have y7 := HK4.out.g7
  have y8 := HK4.out.g8
  have y9 := HK4.out.g9
  have y10 := HK4.out.g10
  have y11 := HK4.out.g11
  have y12 := HK4.out.g12
  have y13 := HK4.out.g13
  have y14 := HK4.out.g14
  have y15 := HK4.out.g15
  have y16 := HK4.out.g16
  cases nd : noneT e.doc
  case false =>
   have HE : Hid (r = false) := hid (by rw [HR.out]; simp [nd])
   go_wp2_with fail
   go_ret
   exact ⟨by rw [HE.out]; rfl, HB4.out⟩
  have Hnd := hid nd
  clear nd
  have HN := hid (r13deltas_any S LA lc e.dels w4 (fun b hb => Nat.lt_of_lt_of_le (HS.out b hb) HB4.out.size) ((HA.out.below HS.out HB4.out)).dels HA.out.len HD.out.dels)
  go_wp2_with fail
  refine HN.out.mono ?_
  rintro q w5 ⟨rfl, hb⟩
  clear y1 y2 y3 y4 y5 y6 y7 y8 y9 y10 y11 y12 y13 y14 y15 y16
  have HB5 := hid (HB4.out.trans (hb.mono HB4.out.size))
  have HK5 := hid (HK4.out.below hb)
  clear hb
  clear HN
  have y1 := HK5.out.g1
  have y2 := HK5.out.g2
  have y3 := HK5.out.g3
  have y4 := HK5.out.g4
  have y5 := HK5.out.g5
  have y6 := HK5.out.g6
  have y7 := HK5.out.g7
  have y8 := HK5.out.g8
  have y9 := HK5.out.g9
  have y10 := HK5.out.g10
  have y11 := HK5.out.g11
  have y12 := HK5.out.g12
  have y13 := HK5.out.g13
  have y14 := HK5.out.g14
  have y15 := HK5.out.g15
  have y16 := HK5.out.g16
  cases nl : mayDo e.dels
  case false =>
   have HE : Hid (r = false) := hid (by rw [HR.out]; simp [nl])
   go_wp2_with fail
   go_ret
   exact ⟨by rw [HE.out]; rfl, HB5.out⟩
  have Hnl := hid nl
  clear nl
  have hk1 : e.kind ≠ 1 := by have := HKD.out; simpa using this
  have HE : Hid (r = true) := hid (by rw [HR.out, if_neg hk1]; simp only [Hnc.out, HC2.out, decide_true, Hnd.out, Hnl.out, Bool.not_true, Bool.not_false, Bool.true_or, Bool.false_or, decide_true, Bool.and_true, Bool.true_and, Bool.and_self])
  have g8 : (e.kind == 1) = false := beq_false_of_ne hk1
  have g9 : ¬ e.kind = 1 := hk1
  clear hk1
  go_wp2_with fail
  go_ret
  exact ⟨by rw [HE.out]; rfl, HB5.out⟩
 ·skip
  have y1 := HK1.out.g1
  have y2 := HK1.out.g2
  have y3 := HK1.out.g3
  have y4 := HK1.out.g4
  have y5 := HK1.out.g5
  have y6 := HK1.out.g6
  have y7 := HK1.out.g7
  have y8 := HK1.out.g8
  have y9 := HK1.out.g9
  have y10 := HK1.out.g10
  have y11 := HK1.out.g11
  have y12 := HK1.out.g12
  have y13 := HK1.out.g13
  have y14 := HK1.out.g14
  have y15 := HK1.out.g15
  have y16 := HK1.out.g16
  by_cases hc1 : e.coll.size = 0
  case pos =>
   have e1 : e.coll.toList = [] := toList_nil.2 hc1
   have hnn : nameC e.coll = false := by
    cases hz : nameC e.coll with
    | false => rfl
    | true => exact absurd hc1 (nameC_pos hz)
   have HE : Hid (r = false) := hid (by rw [HR.out]; simp [hnn])
   clear hnn
   go_wp2_with fail
   go_ret
   exact ⟨by rw [HE.out]; rfl, HB1.out⟩
  have e1 : e.coll.toList.isEmpty = false := by rw [← Bool.not_eq_true, isEmpty_size]; exact hc1
  have f1 : ¬ e.coll.toList = [] := fun h => hc1 (toList_nil.1 h)
  have HC1 := hid hc1
  clear hc1
  have HN := hid (name13_below e.coll w1 HA.out.cz)
  go_wp2_with fail
  refine HN.out.mono ?_
  rintro q w2 ⟨rfl, hb⟩
  clear y1 y2 y3 y4 y5 y6 y7 y8 y9 y10 y11 y12 y13 y14 y15 y16
  have HB2 := hid (HB1.out.trans (hb.mono HB1.out.size))
  have HK2 := hid (HK1.out.below hb)
  clear hb
  clear HN
  have y1 := HK2.out.g1
  have y2 := HK2.out.g2
  have y3 := HK2.out.g3
  have y4 := HK2.out.g4
  have y5 := HK2.out.g5
  have y6 := HK2.out.g6
  have y7 := HK2.out.g7
  have y8 := HK2.out.g8
  have y9 := HK2.out.g9
  have y10 := HK2.out.g10
  have y11 := HK2.out.g11
  have y12 := HK2.out.g12
  have y13 := HK2.out.g13
  have y14 := HK2.out.g14
  have y15 := HK2.out.g15
  have y16 := HK2.out.g16
  cases nc : nameC e.coll
  case false =>
   have HE : Hid (r = false) := hid (by rw [HR.out]; simp [nc])
   go_wp2_with fail
   go_ret
   exact ⟨by rw [HE.out]; rfl, HB2.out⟩
  have Hnc := hid nc
  clear nc
  by_cases hc2 : e.to.size = 0
  case neg =>
   have e2 : e.to.toList.isEmpty = false := by rw [← Bool.not_eq_true, isEmpty_size]; exact hc2
   have f2 : ¬ e.to.toList = [] := fun h => hc2 (toList_nil.1 h)
   have HE : Hid (r = false) := hid (by rw [HR.out]; simp [hc2])
   go_wp2_with fail
   go_ret
   exact ⟨by rw [HE.out]; rfl, HB2.out⟩
  have e2 : e.to.toList = [] := toList_nil.2 hc2
  have HC2 := hid hc2
  clear hc2
  have HN := hid (rcheck_any S e.id _ w2 HD.out.idd (fun b hb => Nat.lt_of_lt_of_le (HS.out b hb) HB2.out.size) ((HA.out.below HS.out HB2.out)).id)
  go_wp2_with fail
  refine HN.out.mono ?_
  rintro q w3 ⟨rfl, hb⟩
  clear y1 y2 y3 y4 y5 y6 y7 y8 y9 y10 y11 y12 y13 y14 y15 y16
  have HB3 := hid (HB2.out.trans (hb.mono HB2.out.size))
  have HK3 := hid (HK2.out.below hb)
  clear hb
  clear HN
  have y1 := HK3.out.g1
  have y2 := HK3.out.g2
  have y3 := HK3.out.g3
  have y4 := HK3.out.g4
  have y5 := HK3.out.g5
  have y6 := HK3.out.g6
  have y7 := HK3.out.g7
  have y8 := HK3.out.g8
  have y9 := HK3.out.g9
  have y10 := HK3.out.g10
  have y11 := HK3.out.g11
  have y12 := HK3.out.g12
  have y13 := HK3.out.g13
  have y14 := HK3.out.g14
  have y15 := HK3.out.g15
  have y16 := HK3.out.g16
  obtain ⟨x, hx⟩ : ∃ x, x = checkT e.id := ⟨_, rfl⟩
  have HX := hid hx
  rw [← hx] at HR ⊢
  clear hx
  by_cases hx0 : x = 0
  case neg =>
   have g1 : (x == 0) = false := beq_false_of_ne hx0
   have g2 : (x != 0) = true := by simp [hx0]
   have HE : Hid (r = false) := hid (by rw [HR.out]; simp [hx0])
   go_wp2_with fail
   go_ret
   exact ⟨by rw [HE.out]; rfl, HB3.out⟩
  subst hx0
  have HN := hid (rnone7_any S e.doc _ w3 (fun b hb => Nat.lt_of_lt_of_le (HS.out b hb) HB3.out.size) ((HA.out.below HS.out HB3.out)).doc)
  go_wp2_with fail
  refine HN.out.mono ?_
  rintro q w4 ⟨rfl, hb⟩
  clear y1 y2 y3 y4 y5 y6 y7 y8 y9 y10 y11 y12 y13 y14 y15 y16
  have HB4 := hid (HB3.out.trans (hb.mono HB3.out.size))
  have HK4 := hid (HK3.out.below hb)
  clear hb
  clear HN
  have y1 := HK4.out.g1
  have y2 := HK4.out.g2
  have y3 := HK4.out.g3
  have y4 := HK4.out.g4
  have y5 := HK4.out.g5
  have y6 := HK4.out.g6
  have y7 := HK4.out.g7
  have y8 := HK4.out.g8
  have y9 := HK4.out.g9
  have y10 := HK4.out.g10
  have y11 := HK4.out.g11
  have y12 := HK4.out.g12
  have y13 := HK4.out.g13
  have y14 := HK4.out.g14
  have y15 := HK4.out.g15
  have y16 := HK4.out.g16
  cases nd : noneT e.doc
  case false =>
   have HE : Hid (r = false) := hid (by rw [HR.out]; simp [nd])
   go_wp2_with fail
   go_ret
   exact ⟨by rw [HE.out]; rfl, HB4.out⟩
  have Hnd := hid nd
  clear nd
  by_cases hc5 : e.dels.length = 0
  case neg =>
   have g5 : decide ((e.dels.length : Int) > 0) = true := decide_eq_true (len_pos5 hc5)
   have g6 : (0 : Int) < (e.dels.length : Int) := len_pos5 hc5
   have g7 : ¬ e.dels = [] := fun h => hc5 (by rw [h]; rfl)
   have HE : Hid (r = false) := hid (by rw [HR.out]; simp [g7])
   go_wp2_with fail
   go_ret
   exact ⟨by rw [HE.out]; rfl, HB4.out⟩
  have g5 : ¬ ((0 : Int) < (e.dels.length : Int)) := by omega
  have g6 : e.dels = [] := List.eq_nil_of_length_eq_zero hc5
  have HC5 := hid hc5
  clear hc5 g5
  have hk1 : e.kind ≠ 1 := by have := HKD.out; simpa using this
  have HE : Hid (r = true) := hid (by rw [HR.out, if_neg hk1]; simp only [Hnc.out, HC2.out, decide_true, Hnd.out, HC5.out, Bool.not_true, Bool.not_false, Bool.true_or, Bool.false_or, decide_true, Bool.and_true, Bool.true_and, Bool.and_self])
  have g8 : (e.kind == 1) = false := beq_false_of_ne hk1
  have g9 : ¬ e.kind = 1 := hk1
  clear hk1
  go_wp2_with fail
  go_ret
  exact ⟨by rw [HE.out]; rfl, HB4.out⟩
 ·skip
  have y1 := HK1.out.g1
  have y2 := HK1.out.g2
  have y3 := HK1.out.g3
  have y4 := HK1.out.g4
  have y5 := HK1.out.g5
  have y6 := HK1.out.g6
  have y7 := HK1.out.g7
  have y8 := HK1.out.g8
  have y9 := HK1.out.g9
  have y10 := HK1.out.g10
  have y11 := HK1.out.g11
  have y12 := HK1.out.g12
  have y13 := HK1.out.g13
  have y14 := HK1.out.g14
  have y15 := HK1.out.g15
  have y16 := HK1.out.g16
  by_cases hc1 : e.coll.size = 0
  case pos =>
   have e1 : e.coll.toList = [] := toList_nil.2 hc1
   have hnn : nameC e.coll = false := by
    cases hz : nameC e.coll with
    | false => rfl
    | true => exact absurd hc1 (nameC_pos hz)
   have HE : Hid (r = false) := hid (by rw [HR.out]; simp [hnn])
   clear hnn
   go_wp2_with fail
   go_ret
   exact ⟨by rw [HE.out]; rfl, HB1.out⟩
  have e1 : e.coll.toList.isEmpty = false := by rw [← Bool.not_eq_true, isEmpty_size]; exact hc1
  have f1 : ¬ e.coll.toList = [] := fun h => hc1 (toList_nil.1 h)
  have HC1 := hid hc1
  clear hc1
  have HN := hid (name13_below e.coll w1 HA.out.cz)
  go_wp2_with fail
  refine HN.out.mono ?_
  rintro q w2 ⟨rfl, hb⟩
  clear y1 y2 y3 y4 y5 y6 y7 y8 y9 y10 y11 y12 y13 y14 y15 y16
  have HB2 := hid (HB1.out.trans (hb.mono HB1.out.size))
  have HK2 := hid (HK1.out.below hb)
  clear hb
  clear HN
  have y1 := HK2.out.g1
  have y2 := HK2.out.g2
  have y3 := HK2.out.g3
  have y4 := HK2.out.g4
  have y5 := HK2.out.g5
  have y6 := HK2.out.g6
  have y7 := HK2.out.g7
  have y8 := HK2.out.g8
  have y9 := HK2.out.g9
  have y10 := HK2.out.g10
  have y11 := HK2.out.g11
  have y12 := HK2.out.g12
  have y13 := HK2.out.g13
  have y14 := HK2.out.g14
  have y15 := HK2.out.g15
  have y16 := HK2.out.g16
  cases nc : nameC e.coll
  case false =>
   have HE : Hid (r = false) := hid (by rw [HR.out]; simp [nc])
   go_wp2_with fail
   go_ret
   exact ⟨by rw [HE.out]; rfl, HB2.out⟩
  have Hnc := hid nc
  clear nc
  by_cases hc2 : e.to.size = 0
  case neg =>
   have e2 : e.to.toList.isEmpty = false := by rw [← Bool.not_eq_true, isEmpty_size]; exact hc2
   have f2 : ¬ e.to.toList = [] := fun h => hc2 (toList_nil.1 h)
   have HE : Hid (r = false) := hid (by rw [HR.out]; simp [hc2])
   go_wp2_with fail
   go_ret
   exact ⟨by rw [HE.out]; rfl, HB2.out⟩
  have e2 : e.to.toList = [] := toList_nil.2 hc2
  have HC2 := hid hc2
  clear hc2
  have HN := hid (rnone7_any S e.id _ w2 (fun b hb => Nat.lt_of_lt_of_le (HS.out b hb) HB2.out.size) ((HA.out.below HS.out HB2.out)).id)
  go_wp2_with fail
  refine HN.out.mono ?_
  rintro q w3 ⟨rfl, hb⟩
  clear y1 y2 y3 y4 y5 y6 y7 y8 y9 y10 y11 y12 y13 y14 y15 y16
  have HB3 := hid (HB2.out.trans (hb.mono HB2.out.size))
  have HK3 := hid (HK2.out.below hb)
  clear hb
  clear HN
  have y1 := HK3.out.g1
  have y2 := HK3.out.g2
  have y3 := HK3.out.g3
  have y4 := HK3.out.g4
  have y5 := HK3.out.g5
  have y6 := HK3.out.g6
  have y7 := HK3.out.g7
  have y8 := HK3.out.g8
  have y9 := HK3.out.g9
  have y10 := HK3.out.g10
  have y11 := HK3.out.g11
  have y12 := HK3.out.g12
  have y13 := HK3.out.g13
  have y14 := HK3.out.g14
  have y15 := HK3.out.g15
  have y16 := HK3.out.g16
  cases ni : noneT e.id
  case false =>
   have HE : Hid (r = false) := hid (by rw [HR.out]; simp [ni])
   go_wp2_with fail
   go_ret
   exact ⟨by rw [HE.out]; rfl, HB3.out⟩
  have Hni := hid ni
  clear ni
  have HN := hid (rnone7_any S e.doc _ w3 (fun b hb => Nat.lt_of_lt_of_le (HS.out b hb) HB3.out.size) ((HA.out.below HS.out HB3.out)).doc)
  go_wp2_with fail
  refine HN.out.mono ?_
  rintro q w4 ⟨rfl, hb⟩
  clear y1 y2 y3 y4 y5 y6 y7 y8 y9 y10 y11 y12 y13 y14 y15 y16
  have HB4 := hid (HB3.out.trans (hb.mono HB3.out.size))
  have HK4 := hid (HK3.out.below hb)
  clear hb
  clear HN
  have y1 := HK4.out.g1
  have y2 := HK4.out.g2
  have y3 := HK4.out.g3
  have y4 := HK4.out.g4
  have y5 := HK4.out.g5
  have y6 := HK4.out.g6
  have y7 := HK4.out.g7
  have y8 := HK4.out.g8
  have y9 := HK4.out.g9
  have y10 := HK4.out.g10
  have y11 := HK4.out.g11
  have y12 := HK4.out.g12
  have y13 := HK4.out.g13
  have y14 := HK4.out.g14
  have y15 := HK4.out.g15
  have y16 := HK4.out.g16
  cases nd : noneT e.doc
  case false =>
   have HE : Hid (r = false) := hid (by rw [HR.out]; simp [nd])
   go_wp2_with fail
   go_ret
   exact ⟨by rw [HE.out]; rfl, HB4.out⟩
  have Hnd := hid nd
  clear nd
  by_cases hc5 : e.dels.length = 0
  case neg =>
   have g5 : decide ((e.dels.length : Int) > 0) = true := decide_eq_true (len_pos5 hc5)
   have g6 : (0 : Int) < (e.dels.length : Int) := len_pos5 hc5
   have g7 : ¬ e.dels = [] := fun h => hc5 (by rw [h]; rfl)
   have HE : Hid (r = false) := hid (by rw [HR.out]; simp [g7])
   go_wp2_with fail
   go_ret
   exact ⟨by rw [HE.out]; rfl, HB4.out⟩
  have g5 : ¬ ((0 : Int) < (e.dels.length : Int)) := by omega
  have g6 : e.dels = [] := List.eq_nil_of_length_eq_zero hc5
  have HC5 := hid hc5
  clear hc5 g5
  have hk1 : e.kind ≠ 1 := by have := HKD.out; simpa using this
  have HE : Hid (r = true) := hid (by rw [HR.out, if_neg hk1]; simp only [Hnc.out, HC2.out, Hni.out, Hnd.out, HC5.out, Bool.not_true, Bool.not_false, Bool.true_or, Bool.false_or, decide_true, Bool.and_true, Bool.true_and, Bool.and_self])
  have g8 : (e.kind == 1) = false := beq_false_of_ne hk1
  have g9 : ¬ e.kind = 1 := hk1
  clear hk1
  go_wp2_with fail
  go_ret
  exact ⟨by rw [HE.out]; rfl, HB4.out⟩
 ·skip
  have y1 := HK1.out.g1
  have y2 := HK1.out.g2
  have y3 := HK1.out.g3
  have y4 := HK1.out.g4
  have y5 := HK1.out.g5
  have y6 := HK1.out.g6
  have y7 := HK1.out.g7
  have y8 := HK1.out.g8
  have y9 := HK1.out.g9
  have y10 := HK1.out.g10
  have y11 := HK1.out.g11
  have y12 := HK1.out.g12
  have y13 := HK1.out.g13
  have y14 := HK1.out.g14
  have y15 := HK1.out.g15
  have y16 := HK1.out.g16
  by_cases hc1 : e.coll.size = 0
  case pos =>
   have e1 : e.coll.toList = [] := toList_nil.2 hc1
   have hnn : nameC e.coll = false := by
    cases hz : nameC e.coll with
    | false => rfl
    | true => exact absurd hc1 (nameC_pos hz)
   have HE : Hid (r = false) := hid (by rw [HR.out]; simp [hnn])
   clear hnn
   go_wp2_with fail
   go_ret
   exact ⟨by rw [HE.out]; rfl, HB1.out⟩
  have e1 : e.coll.toList.isEmpty = false := by rw [← Bool.not_eq_true, isEmpty_size]; exact hc1
  have f1 : ¬ e.coll.toList = [] := fun h => hc1 (toList_nil.1 h)
  have HC1 := hid hc1
  clear hc1
  have HN := hid (name13_below e.coll w1 HA.out.cz)
  go_wp2_with fail
  refine HN.out.mono ?_
  rintro q w2 ⟨rfl, hb⟩
  clear y1 y2 y3 y4 y5 y6 y7 y8 y9 y10 y11 y12 y13 y14 y15 y16
  have HB2 := hid (HB1.out.trans (hb.mono HB1.out.size))
  have HK2 := hid (HK1.out.below hb)
  clear hb
  clear HN
  have y1 := HK2.out.g1
  have y2 := HK2.out.g2
  have y3 := HK2.out.g3
  have y4 := HK2.out.g4
  have y5 := HK2.out.g5
  have y6 := HK2.out.g6
  have y7 := HK2.out.g7
  have y8 := HK2.out.g8
  have y9 := HK2.out.g9
  have y10 := HK2.out.g10
  have y11 := HK2.out.g11
  have y12 := HK2.out.g12
  have y13 := HK2.out.g13
  have y14 := HK2.out.g14
  have y15 := HK2.out.g15
  have y16 := HK2.out.g16
  cases nc : nameC e.coll
  case false =>
   have HE : Hid (r = false) := hid (by rw [HR.out]; simp [nc])
   go_wp2_with fail
   go_ret
   exact ⟨by rw [HE.out]; rfl, HB2.out⟩
  have Hnc := hid nc
  clear nc
  by_cases hc2 : e.to.size = 0
  case pos =>
   have e2 : e.to.toList = [] := toList_nil.2 hc2
   have hnn : nameC e.to = false := by
    cases hz : nameC e.to with
    | false => rfl
    | true => exact absurd hc2 (nameC_pos hz)
   have HE : Hid (r = false) := hid (by rw [HR.out]; simp [hnn])
   clear hnn
   go_wp2_with fail
   go_ret
   exact ⟨by rw [HE.out]; rfl, HB2.out⟩
  have e2 : e.to.toList.isEmpty = false := by rw [← Bool.not_eq_true, isEmpty_size]; exact hc2
  have f2 : ¬ e.to.toList = [] := fun h => hc2 (toList_nil.1 h)
  have HC2 := hid hc2
  clear hc2
  have HN := hid (name13_below e.to w2 HA.out.tz)
  go_wp2_with fail
  refine HN.out.mono ?_
  rintro q w3 ⟨rfl, hb⟩
  clear y1 y2 y3 y4 y5 y6 y7 y8 y9 y10 y11 y12 y13 y14 y15 y16
  have HB3 := hid (HB2.out.trans (hb.mono HB2.out.size))
  have HK3 := hid (HK2.out.below hb)
  clear hb
  clear HN
  have y1 := HK3.out.g1
  have y2 := HK3.out.g2
  have y3 := HK3.out.g3
  have y4 := HK3.out.g4
  have y5 := HK3.out.g5
  have y6 := HK3.out.g6
  have y7 := HK3.out.g7
  have y8 := HK3.out.g8
  have y9 := HK3.out.g9
  have y10 := HK3.out.g10
  have y11 := HK3.out.g11
  have y12 := HK3.out.g12
  have y13 := HK3.out.g13
  have y14 := HK3.out.g14
  have y15 := HK3.out.g15
  have y16 := HK3.out.g16
  cases nt : nameC e.to
  case false =>
   have HE : Hid (r = false) := hid (by rw [HR.out]; simp [nt])
   go_wp2_with fail
   go_ret
   exact ⟨by rw [HE.out]; rfl, HB3.out⟩
  have Hnt := hid nt
  clear nt
  by_cases hne : e.to = e.coll
  case pos =>
   have g1 : (e.to.toList == e.coll.toList) = true := by rw [str_beq]; exact decide_eq_true hne
   have g3 : e.to.toList = e.coll.toList := by rw [hne]
   have HNE := hid hne
   clear hne
   have HE : Hid (r = false) := hid (by rw [HR.out]; simp [HNE.out])
   go_wp2_with fail
   go_ret
   exact ⟨by rw [HE.out]; rfl, HB3.out⟩
  have g1 : (e.to.toList == e.coll.toList) = false := by rw [str_beq]; exact decide_eq_false hne
  have HNE := hid (decide_eq_true (p := e.to ≠ e.coll) hne)
  clear hne
  have HN := hid (rnone7_any S e.id _ w3 (fun b hb => Nat.lt_of_lt_of_le (HS.out b hb) HB3.out.size) ((HA.out.below HS.out HB3.out)).id)
  go_wp2_with fail
  refine HN.out.mono ?_
  rintro q w4 ⟨rfl, hb⟩
  clear y1 y2 y3 y4 y5 y6 y7 y8 y9 y10 y11 y12 y13 y14 y15 y16
  have HB4 := hid (HB3.out.trans (hb.mono HB3.out.size))
  have HK4 := hid (HK3.out.below hb)
  clear hb
  clear HN
  have y1 := HK4.out.g1
  have y2 := HK4.out.g2
  have y3 := HK4.out.g3
  have y4 := HK4.out.g4
  have y5 := HK4.out.g5
  have y6 := HK4.out.g6
  have y7 := HK4.out.g7
  have y8 := HK4.out.g8
  have y9 := HK4.out.g9
  have y10 := HK4.out.g10
  have y11 := HK4.out.g11
  have y12 := HK4.out.g12
  have y13 := HK4.out.g13
  have y14 := HK4.out.g14
  have y15 := HK4.out.g15
  have y16 := HK4.out.g16
  cases ni : noneT e.id
  case false =>
   have HE : Hid (r = false) := hid (by rw [HR.out]; simp [ni])
   go_wp2_with fail
   go_ret
   exact ⟨by rw [HE.out]; rfl, HB4.out⟩
  have Hni := hid ni
  clear ni
  have HN := hid (rnone7_any S e.doc _ w4 (fun b hb => Nat.lt_of_lt_of_le (HS.out b hb) HB4.out.size) ((HA.out.below HS.out HB4.out)).doc)
  go_wp2_with fail
  refine HN.out.mono ?_
  rintro q w5 ⟨rfl, hb⟩
  clear y1 y2 y3 y4 y5 y6 y7 y8 y9 y10 y11 y12 y13 y14 y15 y16
  have HB5 := hid (HB4.out.trans (hb.mono HB4.out.size))
  have HK5 := hid (HK4.out.below hb)
  clear hb
  clear HN
  have y1 := HK5.out.g1
  have y2 := HK5.out.g2
  have y3 := HK5.out.g3
  have y4 := HK5.out.g4
  have y5 := HK5.out.g5
  have y6 := HK5.out.g6
  have y7 := HK5.out.g7
  have y8 := HK5.out.g8
  have y9 := HK5.out.g9
  have y10 := HK5.out.g10
  have y11 := HK5.out.g11
  have y12 := HK5.out.g12
  have y13 := HK5.out.g13
  have y14 := HK5.out.g14
  have y15 := HK5.out.g15
  have y16 := HK5.out.g16
  cases nd : noneT e.doc
  case false =>
   have HE : Hid (r = false) := hid (by rw [HR.out]; simp [nd])
   go_wp2_with fail
   go_ret
   exact ⟨by rw [HE.out]; rfl, HB5.out⟩
  have Hnd := hid nd
  clear nd
  by_cases hc5 : e.dels.length = 0
  case neg =>
   have g5 : decide ((e.dels.length : Int) > 0) = true := decide_eq_true (len_pos5 hc5)
   have g6 : (0 : Int) < (e.dels.length : Int) := len_pos5 hc5
   have g7 : ¬ e.dels = [] := fun h => hc5 (by rw [h]; rfl)
   have HE : Hid (r = false) := hid (by rw [HR.out]; simp [g7])
   go_wp2_with fail
   go_ret
   exact ⟨by rw [HE.out]; rfl, HB5.out⟩
  have g5 : ¬ ((0 : Int) < (e.dels.length : Int)) := by omega
  have g6 : e.dels = [] := List.eq_nil_of_length_eq_zero hc5
  have HC5 := hid hc5
  clear hc5 g5
  have hk1 : e.kind ≠ 1 := by have := HKD.out; simpa using this
  have HE : Hid (r = true) := hid (by rw [HR.out, if_neg hk1]; simp only [Hnc.out, Hnt.out, HNE.out, Hni.out, Hnd.out, HC5.out, Bool.not_true, Bool.not_false, Bool.true_or, Bool.false_or, decide_true, Bool.and_true, Bool.true_and, Bool.and_self])
  have g8 : (e.kind == 1) = false := beq_false_of_ne hk1
  have g9 : ¬ e.kind = 1 := hk1
  clear hk1
  go_wp2_with fail
  go_ret
  exact ⟨by rw [HE.out]; rfl, HB5.out⟩
theorem r13may_any (S : Nat → Prop) (e : EntT) (cs : Array Value) (w : World) (hS : ∀ b, S b → b < w.heap.size) (h : EntL w S e cs) (hd : SmE e) :
  Calls Tryz.prog 15 #[.agg cs] w fun r w' => r = .returned (.bool (mayE e)) ∧ Below w.heap.size w w' := by
 obtain ⟨IA, ic, IA', ic', DA, dc, DA', dc', LA, lc, rfl, hat⟩ := h.at
 rw [mayE_parts]
 refine r13may_bits (hasColl e.kind) (hasTo e.kind) (hasId e.kind) (hasDoc e.kind) (hasDels e.kind) (has_combo e.kind) S e IA ic IA' ic' DA dc DA' dc' LA lc w hS hat hd (r13has_any e.kind) ?_
 by_cases hc : 2 ≤ e.kind ∧ e.kind ≤ 7
 ·have h1 : hasColl e.kind = true := by unfold hasColl; rw [decide_eq_true hc.1, decide_eq_true hc.2]; rfl
  rw [if_pos h1]; omega
 ·have h1 : ¬ hasColl e.kind = true := by unfold hasColl; simp only [Bool.and_eq_true, decide_eq_true_eq]; exact hc
  rw [if_neg h1]; omega
theorem EntT.same {a b : EntT} (h0 : a.term = b.term) (h1 : a.kind = b.kind) (h2 : a.coll = b.coll) (h3 : a.to = b.to) (h4 : a.id = b.id) (h5 : a.doc = b.doc) (h6 : a.dels = b.dels) (h7 : a.session = b.session) (h8 : a.number = b.number) : a = b := by
 cases a; cases b
 simp only at *
 subst h0 h1 h2 h3 h4 h5 h6 h7 h8; rfl
theorem not_sameE {a b : EntT} (h : ¬ a = b) : (false = true) ↔ a = b := ⟨fun h => (by cases h), fun h' => absurd h' h⟩
set_option maxHeartbeats 16000000 in
theorem r13same_any (S : Nat → Prop) (a b : EntT) (ca cb : Array Value) (w : World) (hS : ∀ b, S b → b < w.heap.size) (ha : EntL w S a ca) (hb : EntL w S b cb) :
  Calls Tryz.prog 16 #[.agg ca, .agg cb] w fun e w' => (∃ r : Bool, e = .returned (.bool r) ∧ (r = true ↔ a = b)) ∧ Below w.heap.size w w' := by
 obtain ⟨IA, ic, IA', ic', DA, dc, DA', dc', LA, lc, rfl, hat⟩ := ha.at
 obtain ⟨JA, jc, JA', jc', EA, ec, EA', ec', MA, mc, rfl, hbt⟩ := hb.at
 obtain ⟨w2, hw2⟩ : ∃ W, W = (w.alloc (.cells #[.int .i64 a.term, .int .i64 a.kind, .string a.coll, .string a.to, .int .i64 a.id.kind, .int .i64 a.id.num, .string a.id.text, .slice IA a.id.items.length ic, .slice IA' a.id.names.length ic', .int .i64 a.doc.kind, .int .i64 a.doc.num, .string a.doc.text, .slice DA a.doc.items.length dc, .slice DA' a.doc.names.length dc', .slice LA a.dels.length lc, .int .i64 a.session, .int .i64 a.number] 28)).alloc (.cells #[.int .i64 b.term, .int .i64 b.kind, .string b.coll, .string b.to, .int .i64 b.id.kind, .int .i64 b.id.num, .string b.id.text, .slice JA b.id.items.length jc, .slice JA' b.id.names.length jc', .int .i64 b.doc.kind, .int .i64 b.doc.num, .string b.doc.text, .slice EA b.doc.items.length ec, .slice EA' b.doc.names.length ec', .slice MA b.dels.length mc, .int .i64 b.session, .int .i64 b.number] 28) := ⟨_, rfl⟩
 have hz1 : (w.alloc (.cells #[.int .i64 a.term, .int .i64 a.kind, .string a.coll, .string a.to, .int .i64 a.id.kind, .int .i64 a.id.num, .string a.id.text, .slice IA a.id.items.length ic, .slice IA' a.id.names.length ic', .int .i64 a.doc.kind, .int .i64 a.doc.num, .string a.doc.text, .slice DA a.doc.items.length dc, .slice DA' a.doc.names.length dc', .slice LA a.dels.length lc, .int .i64 a.session, .int .i64 a.number] 28)).heap.size = w.heap.size + 1 := by simp
 have hbb : w2.heap[w.heap.size + 1]? = some (.cells #[.int .i64 b.term, .int .i64 b.kind, .string b.coll, .string b.to, .int .i64 b.id.kind, .int .i64 b.id.num, .string b.id.text, .slice JA b.id.items.length jc, .slice JA' b.id.names.length jc', .int .i64 b.doc.kind, .int .i64 b.doc.num, .string b.doc.text, .slice EA b.doc.items.length ec, .slice EA' b.doc.names.length ec', .slice MA b.dels.length mc, .int .i64 b.session, .int .i64 b.number] 28 (0, 0)) := by rw [hw2, ← hz1]; exact heap_alloc_new _ _
 have hba : w2.heap[w.heap.size]? = some (.cells #[.int .i64 a.term, .int .i64 a.kind, .string a.coll, .string a.to, .int .i64 a.id.kind, .int .i64 a.id.num, .string a.id.text, .slice IA a.id.items.length ic, .slice IA' a.id.names.length ic', .int .i64 a.doc.kind, .int .i64 a.doc.num, .string a.doc.text, .slice DA a.doc.items.length dc, .slice DA' a.doc.names.length dc', .slice LA a.dels.length lc, .int .i64 a.session, .int .i64 a.number] 28 (0, 0)) := by rw [hw2, Below.heap_alloc _ _ _ (by omega)]; exact heap_alloc_new _ _
 have h02 : Below w.heap.size w w2 := by rw [hw2]; exact (below_box _).alloc (by omega) _
 have HB2 := hid h02
 have HKA2 : Hid (EBox w2 w.heap.size a IA ic IA' ic' DA dc DA' dc' LA lc) := hid hba
 have HKB2 : Hid (EBox w2 (w.heap.size + 1) b JA jc JA' jc' EA ec EA' ec' MA mc) := hid hbb
 have HS := hid hS
 have HA := hid hat
 have HBB := hid hbt
 clear ha hb hat hbt hS h02 hba hbb hz1
 go_enter Tryz.func16, Tryz.ntmps16
 by_cases qterm : a.term = b.term
 case neg =>
  have g1 : (a.term == b.term) = false := beq_false_of_ne qterm
  go_wp2_with fail
  rw [← hw2]
  go_ret
  exact ⟨⟨false, rfl, not_sameE fun h => qterm (by rw [h])⟩, HB2.out⟩
 have Qterm := hid qterm
 have dterm : (a.term == b.term) = true := beq_iff_eq.2 qterm
 clear qterm
 by_cases qkind : a.kind = b.kind
 case neg =>
  have g1 : (a.kind == b.kind) = false := beq_false_of_ne qkind
  go_wp2_with fail
  rw [← hw2]
  go_ret
  exact ⟨⟨false, rfl, not_sameE fun h => qkind (by rw [h])⟩, HB2.out⟩
 have Qkind := hid qkind
 have dkind : (a.kind == b.kind) = true := beq_iff_eq.2 qkind
 clear qkind
 by_cases qcoll : a.coll = b.coll
 case neg =>
  have g1 : (a.coll.toList == b.coll.toList) = false := by rw [str_beq]; exact decide_eq_false qcoll
  go_wp2_with fail
  rw [← hw2]
  go_ret
  exact ⟨⟨false, rfl, not_sameE fun h => qcoll (by rw [h])⟩, HB2.out⟩
 have Qcoll := hid qcoll
 have dcoll : (a.coll.toList == b.coll.toList) = true := by rw [str_beq]; exact decide_eq_true qcoll
 clear qcoll
 by_cases qto : a.to = b.to
 case neg =>
  have g1 : (a.to.toList == b.to.toList) = false := by rw [str_beq]; exact decide_eq_false qto
  go_wp2_with fail
  rw [← hw2]
  go_ret
  exact ⟨⟨false, rfl, not_sameE fun h => qto (by rw [h])⟩, HB2.out⟩
 have Qto := hid qto
 have dto : (a.to.toList == b.to.toList) = true := by rw [str_beq]; exact decide_eq_true qto
 clear qto
 have HN := hid (rsame_any S (depthT a.id) a.id b.id _ _ w2 (Nat.le_refl _) (fun b hb => Nat.lt_of_lt_of_le (HS.out b hb) HB2.out.size) (HA.out.below HS.out HB2.out).id (HBB.out.below HS.out HB2.out).id)
 go_wp2_with fail
 rw [← hw2]
 clear hw2
 refine HN.out.mono ?_
 rintro q w3 ⟨⟨r, rfl, hr⟩, hb⟩
 have HB3 := hid (HB2.out.trans (hb.mono HB2.out.size))
 have HKA3 := hid (HKA2.out.below hb)
 have HKB3 := hid (HKB2.out.below hb)
 clear hb HN
 clear dterm dkind dcoll dto
 have HQ := hid hr
 clear hr
 cases r
 case false =>
  have HNE : Hid (¬ a.id = b.id) := hid fun h => by have := HQ.out.2 h; cases this
  go_wp2_with fail
  go_ret
  exact ⟨⟨false, rfl, not_sameE fun h => HNE.out (by rw [h])⟩, HB3.out⟩
 have Qid : Hid (a.id = b.id) := hid (HQ.out.1 rfl)
 clear HQ
 have y9 := HKA3.out.g9
 have z9 := HKB3.out.g9
 have y10 := HKA3.out.g10
 have z10 := HKB3.out.g10
 have y11 := HKA3.out.g11
 have z11 := HKB3.out.g11
 have y12 := HKA3.out.g12
 have z12 := HKB3.out.g12
 have y13 := HKA3.out.g13
 have z13 := HKB3.out.g13
 have HN := hid (rsame_any S (depthT a.doc) a.doc b.doc _ _ w3 (Nat.le_refl _) (fun b hb => Nat.lt_of_lt_of_le (HS.out b hb) HB3.out.size) (HA.out.below HS.out HB3.out).doc (HBB.out.below HS.out HB3.out).doc)
 go_wp2_with fail
 refine HN.out.mono ?_
 rintro q w4 ⟨⟨r, rfl, hr⟩, hb⟩
 have HB4 := hid (HB3.out.trans (hb.mono HB3.out.size))
 have HKA4 := hid (HKA3.out.below hb)
 have HKB4 := hid (HKB3.out.below hb)
 clear hb HN
 clear y9 z9 y10 z10 y11 z11 y12 z12 y13 z13
 have HQ := hid hr
 clear hr
 cases r
 case false =>
  have HNE : Hid (¬ a.doc = b.doc) := hid fun h => by have := HQ.out.2 h; cases this
  go_wp2_with fail
  go_ret
  exact ⟨⟨false, rfl, not_sameE fun h => HNE.out (by rw [h])⟩, HB4.out⟩
 have Qdoc : Hid (a.doc = b.doc) := hid (HQ.out.1 rfl)
 clear HQ
 have y14 := HKA4.out.g14
 have z14 := HKB4.out.g14
 have HN := hid (r6same_any S LA lc a.dels MA mc b.dels w4 (fun b hb => Nat.lt_of_lt_of_le (HS.out b hb) HB4.out.size) (HA.out.below HS.out HB4.out).dels (HBB.out.below HS.out HB4.out).dels (by have := HA.out.len; omega) (by have := HBB.out.len; omega))
 go_wp2_with fail
 refine HN.out.mono ?_
 rintro q w5 ⟨⟨r, rfl, hr⟩, hb⟩
 have HB5 := hid (HB4.out.trans (hb.mono HB4.out.size))
 have HKA5 := hid (HKA4.out.below hb)
 have HKB5 := hid (HKB4.out.below hb)
 clear hb HN
 clear y14 z14
 have HQ := hid hr
 clear hr
 cases r
 case false =>
  have HNE : Hid (¬ a.dels = b.dels) := hid fun h => by have := HQ.out.2 h; cases this
  go_wp2_with fail
  go_ret
  exact ⟨⟨false, rfl, not_sameE fun h => HNE.out (by rw [h])⟩, HB5.out⟩
 have Qdels : Hid (a.dels = b.dels) := hid (HQ.out.1 rfl)
 clear HQ
 have y15 := HKA5.out.g15
 have z15 := HKB5.out.g15
 have y16 := HKA5.out.g16
 have z16 := HKB5.out.g16
 by_cases qsession : a.session = b.session
 case neg =>
  have g1 : (a.session == b.session) = false := beq_false_of_ne qsession
  go_wp2_with fail
  go_ret
  exact ⟨⟨false, rfl, not_sameE fun h => qsession (by rw [h])⟩, HB5.out⟩
 have Qsession := hid qsession
 have dsession : (a.session == b.session) = true := beq_iff_eq.2 qsession
 clear qsession
 by_cases qnumber : a.number = b.number
 case neg =>
  have g1 : (a.number == b.number) = false := beq_false_of_ne qnumber
  go_wp2_with fail
  go_ret
  exact ⟨⟨false, rfl, not_sameE fun h => qnumber (by rw [h])⟩, HB5.out⟩
 have dn : (a.number == b.number) = true := beq_iff_eq.2 qnumber
 have Qn := hid qnumber
 clear qnumber
 go_wp2_with fail
 go_ret
 exact ⟨⟨true, rfl, fun _ => EntT.same Qterm.out Qkind.out Qcoll.out Qto.out Qid.out Qdoc.out Qdels.out Qsession.out Qn.out, fun _ => rfl⟩, HB5.out⟩
end Go.Proofs.YtpcdngpppjdgcaaGreat
