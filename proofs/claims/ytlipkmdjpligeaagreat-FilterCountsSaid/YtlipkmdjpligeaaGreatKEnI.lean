/- Entries, by the program: which fields are bare, and which are right. (Written by mkeni.py.) -/
import Derived.Test.YtlipkmdjpligeaaGreatKDlS
import Derived.Test.YtlipkmdjpligeaaGreatKIdx
import Derived.Test.YtlipkmdjpligeaaGreatKOpenDl
namespace Go.Proofs.YtlipkmdjpligeaaGreat
open Lib (hid)
set_option linter.unusedVariables false
set_option linter.unusedSimpArgs false
open Go.RowKit
set_option maxRecDepth 100000
set_option maxHeartbeats 16000000 in
theorem ebare_bits (b1 b2 b3 b4 b5 : Bool) (F : Int) (H1 : ∀ W, Calls Tryz.prog 125 #[.int .i64 F, .int .i64 1] W fun e w' => e = .returned (.bool b1) ∧ w' = W) (H2 : ∀ W, Calls Tryz.prog 125 #[.int .i64 F, .int .i64 2] W fun e w' => e = .returned (.bool b2) ∧ w' = W) (H3 : ∀ W, Calls Tryz.prog 125 #[.int .i64 F, .int .i64 4] W fun e w' => e = .returned (.bool b3) ∧ w' = W) (H4 : ∀ W, Calls Tryz.prog 125 #[.int .i64 F, .int .i64 8] W fun e w' => e = .returned (.bool b4) ∧ w' = W) (H5 : ∀ W, Calls Tryz.prog 125 #[.int .i64 F, .int .i64 16] W fun e w' => e = .returned (.bool b5) ∧ w' = W) (hb : (b1 = false ∧ b2 = false ∧ b3 = false ∧ b4 = false ∧ b5 = false) ∨ (b1 = true ∧ b2 = false ∧ b3 = true ∧ b4 = true ∧ b5 = false) ∨ (b1 = true ∧ b2 = false ∧ b3 = true ∧ b4 = false ∧ b5 = true) ∨ (b1 = true ∧ b2 = false ∧ b3 = true ∧ b4 = false ∧ b5 = false) ∨ (b1 = true ∧ b2 = false ∧ b3 = false ∧ b4 = false ∧ b5 = false) ∨ (b1 = true ∧ b2 = true ∧ b3 = false ∧ b4 = false ∧ b5 = false)) (S : Nat → Prop) (e : EntT) (IA : Option Addr) (ic : Nat) (IA' : Option Addr) (ic' : Nat) (DA : Option Addr) (dc : Nat) (DA' : Option Addr) (dc' : Nat) (LA : Option Addr) (lc : Nat) (w : World) (hS : ∀ b, S b → b < w.heap.size) (h : EntAt w S e IA ic IA' ic' DA dc DA' dc' LA lc) :
  Calls Tryz.prog 80 #[.int .i64 F, .agg #[.int .i64 e.term, .int .i64 e.kind, .string e.coll, .string e.to, .int .i64 e.id.kind, .int .i64 e.id.num, .string e.id.text, .slice IA e.id.items.length ic, .slice IA' e.id.names.length ic', .int .i64 e.doc.kind, .int .i64 e.doc.num, .string e.doc.text, .slice DA e.doc.items.length dc, .slice DA' e.doc.names.length dc', .slice LA e.dels.length lc, .int .i64 e.session, .int .i64 e.number]] w fun r w' => r = .returned (.bool ((b1 || decide (e.coll.size = 0)) && (b2 || decide (e.to.size = 0)) && (b3 || noneT e.id) && (b4 || noneT e.doc) && (b5 || decide (e.dels.length = 0)))) ∧ Below w.heap.size w w' := by
 obtain ⟨w1, hw1⟩ : ∃ W, W = w.alloc (.cells #[.int .i64 e.term, .int .i64 e.kind, .string e.coll, .string e.to, .int .i64 e.id.kind, .int .i64 e.id.num, .string e.id.text, .slice IA e.id.items.length ic, .slice IA' e.id.names.length ic', .int .i64 e.doc.kind, .int .i64 e.doc.num, .string e.doc.text, .slice DA e.doc.items.length dc, .slice DA' e.doc.names.length dc', .slice LA e.dels.length lc, .int .i64 e.session, .int .i64 e.number] 30) := ⟨_, rfl⟩
 have hbk : EBox w1 w.heap.size e IA ic IA' ic' DA dc DA' dc' LA lc := by rw [hw1]; exact heap_alloc_new w _
 have hb1 : Below w.heap.size w w1 := by rw [hw1]; exact below_box _
 obtain ⟨r, hr⟩ : ∃ r, r = ((b1 || decide (e.coll.size = 0)) && (b2 || decide (e.to.size = 0)) && (b3 || noneT e.id) && (b4 || noneT e.doc) && (b5 || decide (e.dels.length = 0))) := ⟨_, rfl⟩
 have HR := hid hr
 rw [← hr]
 have HB1 := hid hb1
 have HK1 := hid hbk
 have HS := hid hS
 have HA := hid h
 have HH1 := hid H1
 have HH2 := hid H2
 have HH3 := hid H3
 have HH4 := hid H4
 have HH5 := hid H5
 clear hr hb1 hbk hS h H1 H2 H3 H4 H5
 rcases hb with ⟨rfl, rfl, rfl, rfl, rfl⟩ | ⟨rfl, rfl, rfl, rfl, rfl⟩ | ⟨rfl, rfl, rfl, rfl, rfl⟩ | ⟨rfl, rfl, rfl, rfl, rfl⟩ | ⟨rfl, rfl, rfl, rfl, rfl⟩ | ⟨rfl, rfl, rfl, rfl, rfl⟩
 ·go_enter Tryz.func80, Tryz.ntmps80
  go_wp2_with fail
  rw [← hw1]
  clear hw1
  refine (HH1.out _).mono ?_
  rintro q u ⟨rfl, hw⟩
  replace hw := hw.symm
  subst hw
  have y2 := HK1.out.g2
  have y3 := HK1.out.g3
  have y4 := HK1.out.g4
  have y5 := HK1.out.g5
  have y6 := HK1.out.g6
  have y7 := HK1.out.g7
  have y8 := HK1.out.g8
  have y9 := HK1.out.g9
  have y10 := HK1.out.g10
  have y11 := HK1.out.g11
  have y12 := HK1.out.g12
  have y13 := HK1.out.g13
  have y14 := HK1.out.g14
  by_cases hc1 : e.coll.size = 0
  case neg =>
   have e1 : e.coll.toList.isEmpty = false := by rw [← Bool.not_eq_true, isEmpty_size]; exact hc1
   have HE : Hid (r = false) := hid (by rw [HR.out]; simp [hc1])
   go_wp2_with fail
   go_ret
   exact ⟨by rw [HE.out]; rfl, HB1.out⟩
  have e1 : e.coll.toList = [] := toList_nil.2 hc1
  have HC1 := hid hc1
  clear hc1
  go_wp2_with fail
  refine (HH2.out _).mono ?_
  rintro q u ⟨rfl, hw⟩
  replace hw := hw.symm
  subst hw
  by_cases hc2 : e.to.size = 0
  case neg =>
   have e2 : e.to.toList.isEmpty = false := by rw [← Bool.not_eq_true, isEmpty_size]; exact hc2
   have HE : Hid (r = false) := hid (by rw [HR.out]; simp [hc2])
   go_wp2_with fail
   go_ret
   exact ⟨by rw [HE.out]; rfl, HB1.out⟩
  have e2 : e.to.toList = [] := toList_nil.2 hc2
  have HC2 := hid hc2
  clear hc2
  go_wp2_with fail
  refine (HH3.out _).mono ?_
  rintro q u ⟨rfl, hw⟩
  replace hw := hw.symm
  subst hw
  have HN := hid (none_any S e.id _ w1 (fun b hb => Nat.lt_of_lt_of_le (HS.out b hb) HB1.out.size) ((HA.out.below HS.out HB1.out)).id)
  go_wp2_with fail
  refine HN.out.mono ?_
  rintro q w2 ⟨rfl, hb⟩
  clear y2 y3 y4 y5 y6 y7 y8 y9 y10 y11 y12 y13 y14
  have HB2 := hid (HB1.out.trans (hb.mono HB1.out.size))
  have HK2 := hid (HK1.out.below hb)
  clear hb
  clear HN
  have y2 := HK2.out.g2
  have y3 := HK2.out.g3
  have y4 := HK2.out.g4
  have y5 := HK2.out.g5
  have y6 := HK2.out.g6
  have y7 := HK2.out.g7
  have y8 := HK2.out.g8
  have y9 := HK2.out.g9
  have y10 := HK2.out.g10
  have y11 := HK2.out.g11
  have y12 := HK2.out.g12
  have y13 := HK2.out.g13
  have y14 := HK2.out.g14
  cases hn3 : noneT e.id
  case false =>
   have HE : Hid (r = false) := hid (by rw [HR.out]; simp [hn3])
   go_wp2_with fail
   go_ret
   exact ⟨by rw [HE.out]; rfl, HB2.out⟩
  have HN3 := hid hn3
  clear hn3
  go_wp2_with fail
  refine (HH4.out _).mono ?_
  rintro q u ⟨rfl, hw⟩
  replace hw := hw.symm
  subst hw
  have HN := hid (none_any S e.doc _ w2 (fun b hb => Nat.lt_of_lt_of_le (HS.out b hb) HB2.out.size) ((HA.out.below HS.out HB2.out)).doc)
  go_wp2_with fail
  refine HN.out.mono ?_
  rintro q w3 ⟨rfl, hb⟩
  clear y2 y3 y4 y5 y6 y7 y8 y9 y10 y11 y12 y13 y14
  have HB3 := hid (HB2.out.trans (hb.mono HB2.out.size))
  have HK3 := hid (HK2.out.below hb)
  clear hb
  clear HN
  have y2 := HK3.out.g2
  have y3 := HK3.out.g3
  have y4 := HK3.out.g4
  have y5 := HK3.out.g5
  have y6 := HK3.out.g6
  have y7 := HK3.out.g7
  have y8 := HK3.out.g8
  have y9 := HK3.out.g9
  have y10 := HK3.out.g10
  have y11 := HK3.out.g11
  have y12 := HK3.out.g12
  have y13 := HK3.out.g13
  have y14 := HK3.out.g14
  cases hn4 : noneT e.doc
  case false =>
   have HE : Hid (r = false) := hid (by rw [HR.out]; simp [hn4])
   go_wp2_with fail
   go_ret
   exact ⟨by rw [HE.out]; rfl, HB3.out⟩
  have HN4 := hid hn4
  clear hn4
  go_wp2_with fail
  refine (HH5.out _).mono ?_
  rintro q u ⟨rfl, hw⟩
  replace hw := hw.symm
  subst hw
  by_cases hc5 : e.dels.length = 0
  case neg =>
   have e5 : ((e.dels.length : Int) == 0) = false := beq_eq_false_iff_ne.2 (by omega)
   have e6 : ¬ e.dels = [] := fun h => hc5 (by rw [h]; rfl)
   have HE : Hid (r = false) := hid (by rw [HR.out]; simp [e6])
   go_wp2_with fail
   go_ret
   exact ⟨by rw [HE.out]; rfl, HB3.out⟩
  have e5 : ((e.dels.length : Int) == 0) = true := beq_iff_eq.2 (by omega)
  have e6 : (e.dels.length : Int) = 0 := by omega
  have HC5 := hid hc5
  clear hc5
  have HE : Hid (r = true) := hid (by rw [HR.out]; simp only [HC1.out, HC2.out, HN3.out, HN4.out, HC5.out, Bool.true_or, Bool.false_or, decide_true, Bool.and_true, Bool.and_self])
  go_wp2_with fail
  go_ret
  exact ⟨by rw [HE.out]; rfl, HB3.out⟩
 ·go_enter Tryz.func80, Tryz.ntmps80
  go_wp2_with fail
  rw [← hw1]
  clear hw1
  refine (HH1.out _).mono ?_
  rintro q u ⟨rfl, hw⟩
  replace hw := hw.symm
  subst hw
  have y2 := HK1.out.g2
  have y3 := HK1.out.g3
  have y4 := HK1.out.g4
  have y5 := HK1.out.g5
  have y6 := HK1.out.g6
  have y7 := HK1.out.g7
  have y8 := HK1.out.g8
  have y9 := HK1.out.g9
  have y10 := HK1.out.g10
  have y11 := HK1.out.g11
  have y12 := HK1.out.g12
  have y13 := HK1.out.g13
  have y14 := HK1.out.g14
  go_wp2_with fail
  refine (HH2.out _).mono ?_
  rintro q u ⟨rfl, hw⟩
  replace hw := hw.symm
  subst hw
  by_cases hc2 : e.to.size = 0
  case neg =>
   have e2 : e.to.toList.isEmpty = false := by rw [← Bool.not_eq_true, isEmpty_size]; exact hc2
   have HE : Hid (r = false) := hid (by rw [HR.out]; simp [hc2])
   go_wp2_with fail
   go_ret
   exact ⟨by rw [HE.out]; rfl, HB1.out⟩
  have e2 : e.to.toList = [] := toList_nil.2 hc2
  have HC2 := hid hc2
  clear hc2
  go_wp2_with fail
  refine (HH3.out _).mono ?_
  rintro q u ⟨rfl, hw⟩
  replace hw := hw.symm
  subst hw
  go_wp2_with fail
  refine (HH4.out _).mono ?_
  rintro q u ⟨rfl, hw⟩
  replace hw := hw.symm
  subst hw
  go_wp2_with fail
  refine (HH5.out _).mono ?_
  rintro q u ⟨rfl, hw⟩
  replace hw := hw.symm
  subst hw
  by_cases hc5 : e.dels.length = 0
  case neg =>
   have e5 : ((e.dels.length : Int) == 0) = false := beq_eq_false_iff_ne.2 (by omega)
   have e6 : ¬ e.dels = [] := fun h => hc5 (by rw [h]; rfl)
   have HE : Hid (r = false) := hid (by rw [HR.out]; simp [e6])
   go_wp2_with fail
   go_ret
   exact ⟨by rw [HE.out]; rfl, HB1.out⟩
  have e5 : ((e.dels.length : Int) == 0) = true := beq_iff_eq.2 (by omega)
  have e6 : (e.dels.length : Int) = 0 := by omega
  have HC5 := hid hc5
  clear hc5
  have HE : Hid (r = true) := hid (by rw [HR.out]; simp only [HC2.out, HC5.out, Bool.true_or, Bool.false_or, decide_true, Bool.and_true, Bool.and_self])
  go_wp2_with fail
  go_ret
  exact ⟨by rw [HE.out]; rfl, HB1.out⟩
 ·go_enter Tryz.func80, Tryz.ntmps80
  go_wp2_with fail
  rw [← hw1]
  clear hw1
  refine (HH1.out _).mono ?_
  rintro q u ⟨rfl, hw⟩
  replace hw := hw.symm
  subst hw
  have y2 := HK1.out.g2
  have y3 := HK1.out.g3
  have y4 := HK1.out.g4
  have y5 := HK1.out.g5
  have y6 := HK1.out.g6
  have y7 := HK1.out.g7
  have y8 := HK1.out.g8
  have y9 := HK1.out.g9
  have y10 := HK1.out.g10
  have y11 := HK1.out.g11
  have y12 := HK1.out.g12
  have y13 := HK1.out.g13
  have y14 := HK1.out.g14
  go_wp2_with fail
  refine (HH2.out _).mono ?_
  rintro q u ⟨rfl, hw⟩
  replace hw := hw.symm
  subst hw
  by_cases hc2 : e.to.size = 0
  case neg =>
   have e2 : e.to.toList.isEmpty = false := by rw [← Bool.not_eq_true, isEmpty_size]; exact hc2
   have HE : Hid (r = false) := hid (by rw [HR.out]; simp [hc2])
   go_wp2_with fail
   go_ret
   exact ⟨by rw [HE.out]; rfl, HB1.out⟩
  have e2 : e.to.toList = [] := toList_nil.2 hc2
  have HC2 := hid hc2
  clear hc2
  go_wp2_with fail
  refine (HH3.out _).mono ?_
  rintro q u ⟨rfl, hw⟩
  replace hw := hw.symm
  subst hw
  go_wp2_with fail
  refine (HH4.out _).mono ?_
  rintro q u ⟨rfl, hw⟩
  replace hw := hw.symm
  subst hw
  have HN := hid (none_any S e.doc _ w1 (fun b hb => Nat.lt_of_lt_of_le (HS.out b hb) HB1.out.size) ((HA.out.below HS.out HB1.out)).doc)
  go_wp2_with fail
  refine HN.out.mono ?_
  rintro q w2 ⟨rfl, hb⟩
  clear y2 y3 y4 y5 y6 y7 y8 y9 y10 y11 y12 y13 y14
  have HB2 := hid (HB1.out.trans (hb.mono HB1.out.size))
  have HK2 := hid (HK1.out.below hb)
  clear hb
  clear HN
  have y2 := HK2.out.g2
  have y3 := HK2.out.g3
  have y4 := HK2.out.g4
  have y5 := HK2.out.g5
  have y6 := HK2.out.g6
  have y7 := HK2.out.g7
  have y8 := HK2.out.g8
  have y9 := HK2.out.g9
  have y10 := HK2.out.g10
  have y11 := HK2.out.g11
  have y12 := HK2.out.g12
  have y13 := HK2.out.g13
  have y14 := HK2.out.g14
  cases hn4 : noneT e.doc
  case false =>
   have HE : Hid (r = false) := hid (by rw [HR.out]; simp [hn4])
   go_wp2_with fail
   go_ret
   exact ⟨by rw [HE.out]; rfl, HB2.out⟩
  have HN4 := hid hn4
  clear hn4
  go_wp2_with fail
  refine (HH5.out _).mono ?_
  rintro q u ⟨rfl, hw⟩
  replace hw := hw.symm
  subst hw
  have HE : Hid (r = true) := hid (by rw [HR.out]; simp only [HC2.out, HN4.out, Bool.true_or, Bool.false_or, decide_true, Bool.and_true, Bool.and_self])
  go_wp2_with fail
  go_ret
  exact ⟨by rw [HE.out]; rfl, HB2.out⟩
 ·go_enter Tryz.func80, Tryz.ntmps80
  go_wp2_with fail
  rw [← hw1]
  clear hw1
  refine (HH1.out _).mono ?_
  rintro q u ⟨rfl, hw⟩
  replace hw := hw.symm
  subst hw
  have y2 := HK1.out.g2
  have y3 := HK1.out.g3
  have y4 := HK1.out.g4
  have y5 := HK1.out.g5
  have y6 := HK1.out.g6
  have y7 := HK1.out.g7
  have y8 := HK1.out.g8
  have y9 := HK1.out.g9
  have y10 := HK1.out.g10
  have y11 := HK1.out.g11
  have y12 := HK1.out.g12
  have y13 := HK1.out.g13
  have y14 := HK1.out.g14
  go_wp2_with fail
  refine (HH2.out _).mono ?_
  rintro q u ⟨rfl, hw⟩
  replace hw := hw.symm
  subst hw
  by_cases hc2 : e.to.size = 0
  case neg =>
   have e2 : e.to.toList.isEmpty = false := by rw [← Bool.not_eq_true, isEmpty_size]; exact hc2
   have HE : Hid (r = false) := hid (by rw [HR.out]; simp [hc2])
   go_wp2_with fail
   go_ret
   exact ⟨by rw [HE.out]; rfl, HB1.out⟩
  have e2 : e.to.toList = [] := toList_nil.2 hc2
  have HC2 := hid hc2
  clear hc2
  go_wp2_with fail
  refine (HH3.out _).mono ?_
  rintro q u ⟨rfl, hw⟩
  replace hw := hw.symm
  subst hw
  go_wp2_with fail
  refine (HH4.out _).mono ?_
  rintro q u ⟨rfl, hw⟩
  replace hw := hw.symm
  subst hw
  have HN := hid (none_any S e.doc _ w1 (fun b hb => Nat.lt_of_lt_of_le (HS.out b hb) HB1.out.size) ((HA.out.below HS.out HB1.out)).doc)
  go_wp2_with fail
  refine HN.out.mono ?_
  rintro q w2 ⟨rfl, hb⟩
  clear y2 y3 y4 y5 y6 y7 y8 y9 y10 y11 y12 y13 y14
  have HB2 := hid (HB1.out.trans (hb.mono HB1.out.size))
  have HK2 := hid (HK1.out.below hb)
  clear hb
  clear HN
  have y2 := HK2.out.g2
  have y3 := HK2.out.g3
  have y4 := HK2.out.g4
  have y5 := HK2.out.g5
  have y6 := HK2.out.g6
  have y7 := HK2.out.g7
  have y8 := HK2.out.g8
  have y9 := HK2.out.g9
  have y10 := HK2.out.g10
  have y11 := HK2.out.g11
  have y12 := HK2.out.g12
  have y13 := HK2.out.g13
  have y14 := HK2.out.g14
  cases hn4 : noneT e.doc
  case false =>
   have HE : Hid (r = false) := hid (by rw [HR.out]; simp [hn4])
   go_wp2_with fail
   go_ret
   exact ⟨by rw [HE.out]; rfl, HB2.out⟩
  have HN4 := hid hn4
  clear hn4
  go_wp2_with fail
  refine (HH5.out _).mono ?_
  rintro q u ⟨rfl, hw⟩
  replace hw := hw.symm
  subst hw
  by_cases hc5 : e.dels.length = 0
  case neg =>
   have e5 : ((e.dels.length : Int) == 0) = false := beq_eq_false_iff_ne.2 (by omega)
   have e6 : ¬ e.dels = [] := fun h => hc5 (by rw [h]; rfl)
   have HE : Hid (r = false) := hid (by rw [HR.out]; simp [e6])
   go_wp2_with fail
   go_ret
   exact ⟨by rw [HE.out]; rfl, HB2.out⟩
  have e5 : ((e.dels.length : Int) == 0) = true := beq_iff_eq.2 (by omega)
  have e6 : (e.dels.length : Int) = 0 := by omega
  have HC5 := hid hc5
  clear hc5
  have HE : Hid (r = true) := hid (by rw [HR.out]; simp only [HC2.out, HN4.out, HC5.out, Bool.true_or, Bool.false_or, decide_true, Bool.and_true, Bool.and_self])
  go_wp2_with fail
  go_ret
  exact ⟨by rw [HE.out]; rfl, HB2.out⟩
 ·go_enter Tryz.func80, Tryz.ntmps80
  go_wp2_with fail
  rw [← hw1]
  clear hw1
  refine (HH1.out _).mono ?_
  rintro q u ⟨rfl, hw⟩
  replace hw := hw.symm
  subst hw
  have y2 := HK1.out.g2
  have y3 := HK1.out.g3
  have y4 := HK1.out.g4
  have y5 := HK1.out.g5
  have y6 := HK1.out.g6
  have y7 := HK1.out.g7
  have y8 := HK1.out.g8
  have y9 := HK1.out.g9
  have y10 := HK1.out.g10
  have y11 := HK1.out.g11
  have y12 := HK1.out.g12
  have y13 := HK1.out.g13
  have y14 := HK1.out.g14
  go_wp2_with fail
  refine (HH2.out _).mono ?_
  rintro q u ⟨rfl, hw⟩
  replace hw := hw.symm
  subst hw
  by_cases hc2 : e.to.size = 0
  case neg =>
   have e2 : e.to.toList.isEmpty = false := by rw [← Bool.not_eq_true, isEmpty_size]; exact hc2
   have HE : Hid (r = false) := hid (by rw [HR.out]; simp [hc2])
   go_wp2_with fail
   go_ret
   exact ⟨by rw [HE.out]; rfl, HB1.out⟩
  have e2 : e.to.toList = [] := toList_nil.2 hc2
  have HC2 := hid hc2
  clear hc2
  go_wp2_with fail
  refine (HH3.out _).mono ?_
  rintro q u ⟨rfl, hw⟩
  replace hw := hw.symm
  subst hw
  have HN := hid (none_any S e.id _ w1 (fun b hb => Nat.lt_of_lt_of_le (HS.out b hb) HB1.out.size) ((HA.out.below HS.out HB1.out)).id)
  go_wp2_with fail
  refine HN.out.mono ?_
  rintro q w2 ⟨rfl, hb⟩
  clear y2 y3 y4 y5 y6 y7 y8 y9 y10 y11 y12 y13 y14
  have HB2 := hid (HB1.out.trans (hb.mono HB1.out.size))
  have HK2 := hid (HK1.out.below hb)
  clear hb
  clear HN
  have y2 := HK2.out.g2
  have y3 := HK2.out.g3
  have y4 := HK2.out.g4
  have y5 := HK2.out.g5
  have y6 := HK2.out.g6
  have y7 := HK2.out.g7
  have y8 := HK2.out.g8
  have y9 := HK2.out.g9
  have y10 := HK2.out.g10
  have y11 := HK2.out.g11
  have y12 := HK2.out.g12
  have y13 := HK2.out.g13
  have y14 := HK2.out.g14
  cases hn3 : noneT e.id
  case false =>
   have HE : Hid (r = false) := hid (by rw [HR.out]; simp [hn3])
   go_wp2_with fail
   go_ret
   exact ⟨by rw [HE.out]; rfl, HB2.out⟩
  have HN3 := hid hn3
  clear hn3
  go_wp2_with fail
  refine (HH4.out _).mono ?_
  rintro q u ⟨rfl, hw⟩
  replace hw := hw.symm
  subst hw
  have HN := hid (none_any S e.doc _ w2 (fun b hb => Nat.lt_of_lt_of_le (HS.out b hb) HB2.out.size) ((HA.out.below HS.out HB2.out)).doc)
  go_wp2_with fail
  refine HN.out.mono ?_
  rintro q w3 ⟨rfl, hb⟩
  clear y2 y3 y4 y5 y6 y7 y8 y9 y10 y11 y12 y13 y14
  have HB3 := hid (HB2.out.trans (hb.mono HB2.out.size))
  have HK3 := hid (HK2.out.below hb)
  clear hb
  clear HN
  have y2 := HK3.out.g2
  have y3 := HK3.out.g3
  have y4 := HK3.out.g4
  have y5 := HK3.out.g5
  have y6 := HK3.out.g6
  have y7 := HK3.out.g7
  have y8 := HK3.out.g8
  have y9 := HK3.out.g9
  have y10 := HK3.out.g10
  have y11 := HK3.out.g11
  have y12 := HK3.out.g12
  have y13 := HK3.out.g13
  have y14 := HK3.out.g14
  cases hn4 : noneT e.doc
  case false =>
   have HE : Hid (r = false) := hid (by rw [HR.out]; simp [hn4])
   go_wp2_with fail
   go_ret
   exact ⟨by rw [HE.out]; rfl, HB3.out⟩
  have HN4 := hid hn4
  clear hn4
  go_wp2_with fail
  refine (HH5.out _).mono ?_
  rintro q u ⟨rfl, hw⟩
  replace hw := hw.symm
  subst hw
  by_cases hc5 : e.dels.length = 0
  case neg =>
   have e5 : ((e.dels.length : Int) == 0) = false := beq_eq_false_iff_ne.2 (by omega)
   have e6 : ¬ e.dels = [] := fun h => hc5 (by rw [h]; rfl)
   have HE : Hid (r = false) := hid (by rw [HR.out]; simp [e6])
   go_wp2_with fail
   go_ret
   exact ⟨by rw [HE.out]; rfl, HB3.out⟩
  have e5 : ((e.dels.length : Int) == 0) = true := beq_iff_eq.2 (by omega)
  have e6 : (e.dels.length : Int) = 0 := by omega
  have HC5 := hid hc5
  clear hc5
  have HE : Hid (r = true) := hid (by rw [HR.out]; simp only [HC2.out, HN3.out, HN4.out, HC5.out, Bool.true_or, Bool.false_or, decide_true, Bool.and_true, Bool.and_self])
  go_wp2_with fail
  go_ret
  exact ⟨by rw [HE.out]; rfl, HB3.out⟩
 ·go_enter Tryz.func80, Tryz.ntmps80
  go_wp2_with fail
  rw [← hw1]
  clear hw1
  refine (HH1.out _).mono ?_
  rintro q u ⟨rfl, hw⟩
  replace hw := hw.symm
  subst hw
  have y2 := HK1.out.g2
  have y3 := HK1.out.g3
  have y4 := HK1.out.g4
  have y5 := HK1.out.g5
  have y6 := HK1.out.g6
  have y7 := HK1.out.g7
  have y8 := HK1.out.g8
  have y9 := HK1.out.g9
  have y10 := HK1.out.g10
  have y11 := HK1.out.g11
  have y12 := HK1.out.g12
  have y13 := HK1.out.g13
  have y14 := HK1.out.g14
  go_wp2_with fail
  refine (HH2.out _).mono ?_
  rintro q u ⟨rfl, hw⟩
  replace hw := hw.symm
  subst hw
  go_wp2_with fail
  refine (HH3.out _).mono ?_
  rintro q u ⟨rfl, hw⟩
  replace hw := hw.symm
  subst hw
  have HN := hid (none_any S e.id _ w1 (fun b hb => Nat.lt_of_lt_of_le (HS.out b hb) HB1.out.size) ((HA.out.below HS.out HB1.out)).id)
  go_wp2_with fail
  refine HN.out.mono ?_
  rintro q w2 ⟨rfl, hb⟩
  clear y2 y3 y4 y5 y6 y7 y8 y9 y10 y11 y12 y13 y14
  have HB2 := hid (HB1.out.trans (hb.mono HB1.out.size))
  have HK2 := hid (HK1.out.below hb)
  clear hb
  clear HN
  have y2 := HK2.out.g2
  have y3 := HK2.out.g3
  have y4 := HK2.out.g4
  have y5 := HK2.out.g5
  have y6 := HK2.out.g6
  have y7 := HK2.out.g7
  have y8 := HK2.out.g8
  have y9 := HK2.out.g9
  have y10 := HK2.out.g10
  have y11 := HK2.out.g11
  have y12 := HK2.out.g12
  have y13 := HK2.out.g13
  have y14 := HK2.out.g14
  cases hn3 : noneT e.id
  case false =>
   have HE : Hid (r = false) := hid (by rw [HR.out]; simp [hn3])
   go_wp2_with fail
   go_ret
   exact ⟨by rw [HE.out]; rfl, HB2.out⟩
  have HN3 := hid hn3
  clear hn3
  go_wp2_with fail
  refine (HH4.out _).mono ?_
  rintro q u ⟨rfl, hw⟩
  replace hw := hw.symm
  subst hw
  have HN := hid (none_any S e.doc _ w2 (fun b hb => Nat.lt_of_lt_of_le (HS.out b hb) HB2.out.size) ((HA.out.below HS.out HB2.out)).doc)
  go_wp2_with fail
  refine HN.out.mono ?_
  rintro q w3 ⟨rfl, hb⟩
  clear y2 y3 y4 y5 y6 y7 y8 y9 y10 y11 y12 y13 y14
  have HB3 := hid (HB2.out.trans (hb.mono HB2.out.size))
  have HK3 := hid (HK2.out.below hb)
  clear hb
  clear HN
  have y2 := HK3.out.g2
  have y3 := HK3.out.g3
  have y4 := HK3.out.g4
  have y5 := HK3.out.g5
  have y6 := HK3.out.g6
  have y7 := HK3.out.g7
  have y8 := HK3.out.g8
  have y9 := HK3.out.g9
  have y10 := HK3.out.g10
  have y11 := HK3.out.g11
  have y12 := HK3.out.g12
  have y13 := HK3.out.g13
  have y14 := HK3.out.g14
  cases hn4 : noneT e.doc
  case false =>
   have HE : Hid (r = false) := hid (by rw [HR.out]; simp [hn4])
   go_wp2_with fail
   go_ret
   exact ⟨by rw [HE.out]; rfl, HB3.out⟩
  have HN4 := hid hn4
  clear hn4
  go_wp2_with fail
  refine (HH5.out _).mono ?_
  rintro q u ⟨rfl, hw⟩
  replace hw := hw.symm
  subst hw
  by_cases hc5 : e.dels.length = 0
  case neg =>
   have e5 : ((e.dels.length : Int) == 0) = false := beq_eq_false_iff_ne.2 (by omega)
   have e6 : ¬ e.dels = [] := fun h => hc5 (by rw [h]; rfl)
   have HE : Hid (r = false) := hid (by rw [HR.out]; simp [e6])
   go_wp2_with fail
   go_ret
   exact ⟨by rw [HE.out]; rfl, HB3.out⟩
  have e5 : ((e.dels.length : Int) == 0) = true := beq_iff_eq.2 (by omega)
  have e6 : (e.dels.length : Int) = 0 := by omega
  have HC5 := hid hc5
  clear hc5
  have HE : Hid (r = true) := hid (by rw [HR.out]; simp only [HN3.out, HN4.out, HC5.out, Bool.true_or, Bool.false_or, decide_true, Bool.and_true, Bool.and_self])
  go_wp2_with fail
  go_ret
  exact ⟨by rw [HE.out]; rfl, HB3.out⟩
set_option maxHeartbeats 16000000 in
theorem eright_bits (b1 b2 b3 b4 b5 : Bool) (F : Int) (H1 : ∀ W, Calls Tryz.prog 125 #[.int .i64 F, .int .i64 1] W fun e w' => e = .returned (.bool b1) ∧ w' = W) (H2 : ∀ W, Calls Tryz.prog 125 #[.int .i64 F, .int .i64 2] W fun e w' => e = .returned (.bool b2) ∧ w' = W) (H3 : ∀ W, Calls Tryz.prog 125 #[.int .i64 F, .int .i64 4] W fun e w' => e = .returned (.bool b3) ∧ w' = W) (H4 : ∀ W, Calls Tryz.prog 125 #[.int .i64 F, .int .i64 8] W fun e w' => e = .returned (.bool b4) ∧ w' = W) (H5 : ∀ W, Calls Tryz.prog 125 #[.int .i64 F, .int .i64 16] W fun e w' => e = .returned (.bool b5) ∧ w' = W) (hb : (b1 = false ∧ b2 = false ∧ b3 = false ∧ b4 = false ∧ b5 = false) ∨ (b1 = true ∧ b2 = false ∧ b3 = true ∧ b4 = true ∧ b5 = false) ∨ (b1 = true ∧ b2 = false ∧ b3 = true ∧ b4 = false ∧ b5 = true) ∨ (b1 = true ∧ b2 = false ∧ b3 = true ∧ b4 = false ∧ b5 = false) ∨ (b1 = true ∧ b2 = false ∧ b3 = false ∧ b4 = false ∧ b5 = false) ∨ (b1 = true ∧ b2 = true ∧ b3 = false ∧ b4 = false ∧ b5 = false)) (S : Nat → Prop) (e : EntT) (IA : Option Addr) (ic : Nat) (IA' : Option Addr) (ic' : Nat) (DA : Option Addr) (dc : Nat) (DA' : Option Addr) (dc' : Nat) (LA : Option Addr) (lc : Nat) (w : World) (hS : ∀ b, S b → b < w.heap.size) (h : EntAt w S e IA ic IA' ic' DA dc DA' dc' LA lc) (hd : SmE e) :
  Calls Tryz.prog 81 #[.int .i64 F, .agg #[.int .i64 e.term, .int .i64 e.kind, .string e.coll, .string e.to, .int .i64 e.id.kind, .int .i64 e.id.num, .string e.id.text, .slice IA e.id.items.length ic, .slice IA' e.id.names.length ic', .int .i64 e.doc.kind, .int .i64 e.doc.num, .string e.doc.text, .slice DA e.doc.items.length dc, .slice DA' e.doc.names.length dc', .slice LA e.dels.length lc, .int .i64 e.session, .int .i64 e.number]] w fun r w' => r = .returned (.bool ((!b1 || nameC e.coll) && (!b2 || (nameC e.to && decide (e.to ≠ e.coll))) && (!b3 || decide (checkT e.id = 0)) && (!b4 || holdE e.doc e.id) && (!b5 || mayDo e.dels))) ∧ Below w.heap.size w w' := by
 obtain ⟨w1, hw1⟩ : ∃ W, W = w.alloc (.cells #[.int .i64 e.term, .int .i64 e.kind, .string e.coll, .string e.to, .int .i64 e.id.kind, .int .i64 e.id.num, .string e.id.text, .slice IA e.id.items.length ic, .slice IA' e.id.names.length ic', .int .i64 e.doc.kind, .int .i64 e.doc.num, .string e.doc.text, .slice DA e.doc.items.length dc, .slice DA' e.doc.names.length dc', .slice LA e.dels.length lc, .int .i64 e.session, .int .i64 e.number] 30) := ⟨_, rfl⟩
 have hbk : EBox w1 w.heap.size e IA ic IA' ic' DA dc DA' dc' LA lc := by rw [hw1]; exact heap_alloc_new w _
 have hb1 : Below w.heap.size w w1 := by rw [hw1]; exact below_box _
 obtain ⟨r, hr⟩ : ∃ r, r = ((!b1 || nameC e.coll) && (!b2 || (nameC e.to && decide (e.to ≠ e.coll))) && (!b3 || decide (checkT e.id = 0)) && (!b4 || holdE e.doc e.id) && (!b5 || mayDo e.dels)) := ⟨_, rfl⟩
 have HR := hid hr
 rw [← hr]
 have HB1 := hid hb1
 have HK1 := hid hbk
 have HS := hid hS
 have HA := hid h
 have HD := hid hd
 have HH1 := hid H1
 have HH2 := hid H2
 have HH3 := hid H3
 have HH4 := hid H4
 have HH5 := hid H5
 clear hr hb1 hbk hS h hd H1 H2 H3 H4 H5
 rcases hb with ⟨rfl, rfl, rfl, rfl, rfl⟩ | ⟨rfl, rfl, rfl, rfl, rfl⟩ | ⟨rfl, rfl, rfl, rfl, rfl⟩ | ⟨rfl, rfl, rfl, rfl, rfl⟩ | ⟨rfl, rfl, rfl, rfl, rfl⟩ | ⟨rfl, rfl, rfl, rfl, rfl⟩
 ·go_enter Tryz.func81, Tryz.ntmps81
  go_wp2_with fail
  rw [← hw1]
  clear hw1
  refine (HH1.out _).mono ?_
  rintro q u ⟨rfl, hw⟩
  replace hw := hw.symm
  subst hw
  have y2 := HK1.out.g2
  have y3 := HK1.out.g3
  have y4 := HK1.out.g4
  have y5 := HK1.out.g5
  have y6 := HK1.out.g6
  have y7 := HK1.out.g7
  have y8 := HK1.out.g8
  have y9 := HK1.out.g9
  have y10 := HK1.out.g10
  have y11 := HK1.out.g11
  have y12 := HK1.out.g12
  have y13 := HK1.out.g13
  have y14 := HK1.out.g14
  go_wp2_with fail
  refine (HH2.out _).mono ?_
  rintro q u ⟨rfl, hw⟩
  replace hw := hw.symm
  subst hw
  go_wp2_with fail
  refine (HH3.out _).mono ?_
  rintro q u ⟨rfl, hw⟩
  replace hw := hw.symm
  subst hw
  go_wp2_with fail
  refine (HH4.out _).mono ?_
  rintro q u ⟨rfl, hw⟩
  replace hw := hw.symm
  subst hw
  go_wp2_with fail
  refine (HH5.out _).mono ?_
  rintro q u ⟨rfl, hw⟩
  replace hw := hw.symm
  subst hw
  have HE : Hid (r = true) := hid (by rw [HR.out]; simp only [Bool.not_true, Bool.not_false, Bool.true_or, Bool.false_or, decide_true, Bool.and_true, Bool.and_self])
  go_wp2_with fail
  go_ret
  exact ⟨by rw [HE.out]; rfl, HB1.out⟩
 ·go_enter Tryz.func81, Tryz.ntmps81
  go_wp2_with fail
  rw [← hw1]
  clear hw1
  refine (HH1.out _).mono ?_
  rintro q u ⟨rfl, hw⟩
  replace hw := hw.symm
  subst hw
  have y2 := HK1.out.g2
  have y3 := HK1.out.g3
  have y4 := HK1.out.g4
  have y5 := HK1.out.g5
  have y6 := HK1.out.g6
  have y7 := HK1.out.g7
  have y8 := HK1.out.g8
  have y9 := HK1.out.g9
  have y10 := HK1.out.g10
  have y11 := HK1.out.g11
  have y12 := HK1.out.g12
  have y13 := HK1.out.g13
  have y14 := HK1.out.g14
  have HN := hid (ename_any e.coll w1)
  go_wp2_with fail
  refine HN.out.mono ?_
  rintro q w2 ⟨rfl, hb⟩
  clear y2 y3 y4 y5 y6 y7 y8 y9 y10 y11 y12 y13 y14
  have HB2 := hid (HB1.out.trans (hb.mono HB1.out.size))
  have HK2 := hid (HK1.out.below hb)
  clear hb
  clear HN
  have y2 := HK2.out.g2
  have y3 := HK2.out.g3
  have y4 := HK2.out.g4
  have y5 := HK2.out.g5
  have y6 := HK2.out.g6
  have y7 := HK2.out.g7
  have y8 := HK2.out.g8
  have y9 := HK2.out.g9
  have y10 := HK2.out.g10
  have y11 := HK2.out.g11
  have y12 := HK2.out.g12
  have y13 := HK2.out.g13
  have y14 := HK2.out.g14
  cases nc : nameC e.coll
  case false =>
   have HE : Hid (r = false) := hid (by rw [HR.out]; simp [nc])
   go_wp2_with fail
   go_ret
   exact ⟨by rw [HE.out]; rfl, HB2.out⟩
  have Hnc := hid nc
  clear nc
  go_wp2_with fail
  refine (HH2.out _).mono ?_
  rintro q u ⟨rfl, hw⟩
  replace hw := hw.symm
  subst hw
  go_wp2_with fail
  refine (HH3.out _).mono ?_
  rintro q u ⟨rfl, hw⟩
  replace hw := hw.symm
  subst hw
  have HN := hid (check_any S e.id _ w2 (fun b hb => Nat.lt_of_lt_of_le (HS.out b hb) HB2.out.size) ((HA.out.below HS.out HB2.out)).id HD.out.idd)
  go_wp2_with fail
  refine HN.out.mono ?_
  rintro q w3 ⟨rfl, hb⟩
  clear y2 y3 y4 y5 y6 y7 y8 y9 y10 y11 y12 y13 y14
  have HB3 := hid (HB2.out.trans (hb.mono HB2.out.size))
  have HK3 := hid (HK2.out.below hb)
  clear hb
  clear HN
  have y2 := HK3.out.g2
  have y3 := HK3.out.g3
  have y4 := HK3.out.g4
  have y5 := HK3.out.g5
  have y6 := HK3.out.g6
  have y7 := HK3.out.g7
  have y8 := HK3.out.g8
  have y9 := HK3.out.g9
  have y10 := HK3.out.g10
  have y11 := HK3.out.g11
  have y12 := HK3.out.g12
  have y13 := HK3.out.g13
  have y14 := HK3.out.g14
  obtain ⟨x, hx⟩ : ∃ x, x = checkT e.id := ⟨_, rfl⟩
  have HX := hid hx
  rw [← hx] at HR ⊢
  clear hx
  by_cases hx0 : x = 0
  case neg =>
   have e1 : (x == 0) = false := beq_false_of_ne hx0
   have HE : Hid (r = false) := hid (by rw [HR.out]; simp [hx0])
   go_wp2_with fail
   go_ret
   exact ⟨by rw [HE.out]; rfl, HB3.out⟩
  subst hx0
  go_wp2_with fail
  refine (HH4.out _).mono ?_
  rintro q u ⟨rfl, hw⟩
  replace hw := hw.symm
  subst hw
  have HN := hid (eholds_any S e.doc e.id _ _ w3 (fun b hb => Nat.lt_of_lt_of_le (HS.out b hb) HB3.out.size) ((HA.out.below HS.out HB3.out)).doc ((HA.out.below HS.out HB3.out)).id HD.out.docd HD.out.idd (check_may HX.out.symm))
  go_wp2_with fail
  refine HN.out.mono ?_
  rintro q w4 ⟨rfl, hb⟩
  clear y2 y3 y4 y5 y6 y7 y8 y9 y10 y11 y12 y13 y14
  have HB4 := hid (HB3.out.trans (hb.mono HB3.out.size))
  have HK4 := hid (HK3.out.below hb)
  clear hb
  clear HN
  have y2 := HK4.out.g2
  have y3 := HK4.out.g3
  have y4 := HK4.out.g4
  have y5 := HK4.out.g5
  have y6 := HK4.out.g6
  have y7 := HK4.out.g7
  have y8 := HK4.out.g8
  have y9 := HK4.out.g9
  have y10 := HK4.out.g10
  have y11 := HK4.out.g11
  have y12 := HK4.out.g12
  have y13 := HK4.out.g13
  have y14 := HK4.out.g14
  cases nh : holdE e.doc e.id
  case false =>
   have HE : Hid (r = false) := hid (by rw [HR.out]; simp [nh])
   go_wp2_with fail
   go_ret
   exact ⟨by rw [HE.out]; rfl, HB4.out⟩
  have Hnh := hid nh
  clear nh
  go_wp2_with fail
  refine (HH5.out _).mono ?_
  rintro q u ⟨rfl, hw⟩
  replace hw := hw.symm
  subst hw
  have HE : Hid (r = true) := hid (by rw [HR.out]; simp only [Hnc.out, decide_true, Hnh.out, Bool.not_true, Bool.not_false, Bool.true_or, Bool.false_or, decide_true, Bool.and_true, Bool.and_self])
  go_wp2_with fail
  go_ret
  exact ⟨by rw [HE.out]; rfl, HB4.out⟩
 ·go_enter Tryz.func81, Tryz.ntmps81
  go_wp2_with fail
  rw [← hw1]
  clear hw1
  refine (HH1.out _).mono ?_
  rintro q u ⟨rfl, hw⟩
  replace hw := hw.symm
  subst hw
  have y2 := HK1.out.g2
  have y3 := HK1.out.g3
  have y4 := HK1.out.g4
  have y5 := HK1.out.g5
  have y6 := HK1.out.g6
  have y7 := HK1.out.g7
  have y8 := HK1.out.g8
  have y9 := HK1.out.g9
  have y10 := HK1.out.g10
  have y11 := HK1.out.g11
  have y12 := HK1.out.g12
  have y13 := HK1.out.g13
  have y14 := HK1.out.g14
  have HN := hid (ename_any e.coll w1)
  go_wp2_with fail
  refine HN.out.mono ?_
  rintro q w2 ⟨rfl, hb⟩
  clear y2 y3 y4 y5 y6 y7 y8 y9 y10 y11 y12 y13 y14
  have HB2 := hid (HB1.out.trans (hb.mono HB1.out.size))
  have HK2 := hid (HK1.out.below hb)
  clear hb
  clear HN
  have y2 := HK2.out.g2
  have y3 := HK2.out.g3
  have y4 := HK2.out.g4
  have y5 := HK2.out.g5
  have y6 := HK2.out.g6
  have y7 := HK2.out.g7
  have y8 := HK2.out.g8
  have y9 := HK2.out.g9
  have y10 := HK2.out.g10
  have y11 := HK2.out.g11
  have y12 := HK2.out.g12
  have y13 := HK2.out.g13
  have y14 := HK2.out.g14
  cases nc : nameC e.coll
  case false =>
   have HE : Hid (r = false) := hid (by rw [HR.out]; simp [nc])
   go_wp2_with fail
   go_ret
   exact ⟨by rw [HE.out]; rfl, HB2.out⟩
  have Hnc := hid nc
  clear nc
  go_wp2_with fail
  refine (HH2.out _).mono ?_
  rintro q u ⟨rfl, hw⟩
  replace hw := hw.symm
  subst hw
  go_wp2_with fail
  refine (HH3.out _).mono ?_
  rintro q u ⟨rfl, hw⟩
  replace hw := hw.symm
  subst hw
  have HN := hid (check_any S e.id _ w2 (fun b hb => Nat.lt_of_lt_of_le (HS.out b hb) HB2.out.size) ((HA.out.below HS.out HB2.out)).id HD.out.idd)
  go_wp2_with fail
  refine HN.out.mono ?_
  rintro q w3 ⟨rfl, hb⟩
  clear y2 y3 y4 y5 y6 y7 y8 y9 y10 y11 y12 y13 y14
  have HB3 := hid (HB2.out.trans (hb.mono HB2.out.size))
  have HK3 := hid (HK2.out.below hb)
  clear hb
  clear HN
  have y2 := HK3.out.g2
  have y3 := HK3.out.g3
  have y4 := HK3.out.g4
  have y5 := HK3.out.g5
  have y6 := HK3.out.g6
  have y7 := HK3.out.g7
  have y8 := HK3.out.g8
  have y9 := HK3.out.g9
  have y10 := HK3.out.g10
  have y11 := HK3.out.g11
  have y12 := HK3.out.g12
  have y13 := HK3.out.g13
  have y14 := HK3.out.g14
  obtain ⟨x, hx⟩ : ∃ x, x = checkT e.id := ⟨_, rfl⟩
  have HX := hid hx
  rw [← hx] at HR ⊢
  clear hx
  by_cases hx0 : x = 0
  case neg =>
   have e1 : (x == 0) = false := beq_false_of_ne hx0
   have HE : Hid (r = false) := hid (by rw [HR.out]; simp [hx0])
   go_wp2_with fail
   go_ret
   exact ⟨by rw [HE.out]; rfl, HB3.out⟩
  subst hx0
  go_wp2_with fail
  refine (HH4.out _).mono ?_
  rintro q u ⟨rfl, hw⟩
  replace hw := hw.symm
  subst hw
  go_wp2_with fail
  refine (HH5.out _).mono ?_
  rintro q u ⟨rfl, hw⟩
  replace hw := hw.symm
  subst hw
  have HN := hid (emaydo_any S LA lc e.dels w3 (fun b hb => Nat.lt_of_lt_of_le (HS.out b hb) HB3.out.size) ((HA.out.below HS.out HB3.out)).dels HA.out.len HD.out.dels)
  go_wp2_with fail
  refine HN.out.mono ?_
  rintro q w4 ⟨rfl, hb⟩
  clear y2 y3 y4 y5 y6 y7 y8 y9 y10 y11 y12 y13 y14
  have HB4 := hid (HB3.out.trans (hb.mono HB3.out.size))
  have HK4 := hid (HK3.out.below hb)
  clear hb
  clear HN
  have y2 := HK4.out.g2
  have y3 := HK4.out.g3
  have y4 := HK4.out.g4
  have y5 := HK4.out.g5
  have y6 := HK4.out.g6
  have y7 := HK4.out.g7
  have y8 := HK4.out.g8
  have y9 := HK4.out.g9
  have y10 := HK4.out.g10
  have y11 := HK4.out.g11
  have y12 := HK4.out.g12
  have y13 := HK4.out.g13
  have y14 := HK4.out.g14
  cases nm : mayDo e.dels
  case false =>
   have HE : Hid (r = false) := hid (by rw [HR.out]; simp [nm])
   go_wp2_with fail
   go_ret
   exact ⟨by rw [HE.out]; rfl, HB4.out⟩
  have Hnm := hid nm
  clear nm
  have HE : Hid (r = true) := hid (by rw [HR.out]; simp only [Hnc.out, decide_true, Hnm.out, Bool.not_true, Bool.not_false, Bool.true_or, Bool.false_or, decide_true, Bool.and_true, Bool.and_self])
  go_wp2_with fail
  go_ret
  exact ⟨by rw [HE.out]; rfl, HB4.out⟩
 ·go_enter Tryz.func81, Tryz.ntmps81
  go_wp2_with fail
  rw [← hw1]
  clear hw1
  refine (HH1.out _).mono ?_
  rintro q u ⟨rfl, hw⟩
  replace hw := hw.symm
  subst hw
  have y2 := HK1.out.g2
  have y3 := HK1.out.g3
  have y4 := HK1.out.g4
  have y5 := HK1.out.g5
  have y6 := HK1.out.g6
  have y7 := HK1.out.g7
  have y8 := HK1.out.g8
  have y9 := HK1.out.g9
  have y10 := HK1.out.g10
  have y11 := HK1.out.g11
  have y12 := HK1.out.g12
  have y13 := HK1.out.g13
  have y14 := HK1.out.g14
  have HN := hid (ename_any e.coll w1)
  go_wp2_with fail
  refine HN.out.mono ?_
  rintro q w2 ⟨rfl, hb⟩
  clear y2 y3 y4 y5 y6 y7 y8 y9 y10 y11 y12 y13 y14
  have HB2 := hid (HB1.out.trans (hb.mono HB1.out.size))
  have HK2 := hid (HK1.out.below hb)
  clear hb
  clear HN
  have y2 := HK2.out.g2
  have y3 := HK2.out.g3
  have y4 := HK2.out.g4
  have y5 := HK2.out.g5
  have y6 := HK2.out.g6
  have y7 := HK2.out.g7
  have y8 := HK2.out.g8
  have y9 := HK2.out.g9
  have y10 := HK2.out.g10
  have y11 := HK2.out.g11
  have y12 := HK2.out.g12
  have y13 := HK2.out.g13
  have y14 := HK2.out.g14
  cases nc : nameC e.coll
  case false =>
   have HE : Hid (r = false) := hid (by rw [HR.out]; simp [nc])
   go_wp2_with fail
   go_ret
   exact ⟨by rw [HE.out]; rfl, HB2.out⟩
  have Hnc := hid nc
  clear nc
  go_wp2_with fail
  refine (HH2.out _).mono ?_
  rintro q u ⟨rfl, hw⟩
  replace hw := hw.symm
  subst hw
  go_wp2_with fail
  refine (HH3.out _).mono ?_
  rintro q u ⟨rfl, hw⟩
  replace hw := hw.symm
  subst hw
  have HN := hid (check_any S e.id _ w2 (fun b hb => Nat.lt_of_lt_of_le (HS.out b hb) HB2.out.size) ((HA.out.below HS.out HB2.out)).id HD.out.idd)
  go_wp2_with fail
  refine HN.out.mono ?_
  rintro q w3 ⟨rfl, hb⟩
  clear y2 y3 y4 y5 y6 y7 y8 y9 y10 y11 y12 y13 y14
  have HB3 := hid (HB2.out.trans (hb.mono HB2.out.size))
  have HK3 := hid (HK2.out.below hb)
  clear hb
  clear HN
  have y2 := HK3.out.g2
  have y3 := HK3.out.g3
  have y4 := HK3.out.g4
  have y5 := HK3.out.g5
  have y6 := HK3.out.g6
  have y7 := HK3.out.g7
  have y8 := HK3.out.g8
  have y9 := HK3.out.g9
  have y10 := HK3.out.g10
  have y11 := HK3.out.g11
  have y12 := HK3.out.g12
  have y13 := HK3.out.g13
  have y14 := HK3.out.g14
  obtain ⟨x, hx⟩ : ∃ x, x = checkT e.id := ⟨_, rfl⟩
  have HX := hid hx
  rw [← hx] at HR ⊢
  clear hx
  by_cases hx0 : x = 0
  case neg =>
   have e1 : (x == 0) = false := beq_false_of_ne hx0
   have HE : Hid (r = false) := hid (by rw [HR.out]; simp [hx0])
   go_wp2_with fail
   go_ret
   exact ⟨by rw [HE.out]; rfl, HB3.out⟩
  subst hx0
  go_wp2_with fail
  refine (HH4.out _).mono ?_
  rintro q u ⟨rfl, hw⟩
  replace hw := hw.symm
  subst hw
  go_wp2_with fail
  refine (HH5.out _).mono ?_
  rintro q u ⟨rfl, hw⟩
  replace hw := hw.symm
  subst hw
  have HE : Hid (r = true) := hid (by rw [HR.out]; simp only [Hnc.out, decide_true, Bool.not_true, Bool.not_false, Bool.true_or, Bool.false_or, decide_true, Bool.and_true, Bool.and_self])
  go_wp2_with fail
  go_ret
  exact ⟨by rw [HE.out]; rfl, HB3.out⟩
 ·go_enter Tryz.func81, Tryz.ntmps81
  go_wp2_with fail
  rw [← hw1]
  clear hw1
  refine (HH1.out _).mono ?_
  rintro q u ⟨rfl, hw⟩
  replace hw := hw.symm
  subst hw
  have y2 := HK1.out.g2
  have y3 := HK1.out.g3
  have y4 := HK1.out.g4
  have y5 := HK1.out.g5
  have y6 := HK1.out.g6
  have y7 := HK1.out.g7
  have y8 := HK1.out.g8
  have y9 := HK1.out.g9
  have y10 := HK1.out.g10
  have y11 := HK1.out.g11
  have y12 := HK1.out.g12
  have y13 := HK1.out.g13
  have y14 := HK1.out.g14
  have HN := hid (ename_any e.coll w1)
  go_wp2_with fail
  refine HN.out.mono ?_
  rintro q w2 ⟨rfl, hb⟩
  clear y2 y3 y4 y5 y6 y7 y8 y9 y10 y11 y12 y13 y14
  have HB2 := hid (HB1.out.trans (hb.mono HB1.out.size))
  have HK2 := hid (HK1.out.below hb)
  clear hb
  clear HN
  have y2 := HK2.out.g2
  have y3 := HK2.out.g3
  have y4 := HK2.out.g4
  have y5 := HK2.out.g5
  have y6 := HK2.out.g6
  have y7 := HK2.out.g7
  have y8 := HK2.out.g8
  have y9 := HK2.out.g9
  have y10 := HK2.out.g10
  have y11 := HK2.out.g11
  have y12 := HK2.out.g12
  have y13 := HK2.out.g13
  have y14 := HK2.out.g14
  cases nc : nameC e.coll
  case false =>
   have HE : Hid (r = false) := hid (by rw [HR.out]; simp [nc])
   go_wp2_with fail
   go_ret
   exact ⟨by rw [HE.out]; rfl, HB2.out⟩
  have Hnc := hid nc
  clear nc
  go_wp2_with fail
  refine (HH2.out _).mono ?_
  rintro q u ⟨rfl, hw⟩
  replace hw := hw.symm
  subst hw
  go_wp2_with fail
  refine (HH3.out _).mono ?_
  rintro q u ⟨rfl, hw⟩
  replace hw := hw.symm
  subst hw
  go_wp2_with fail
  refine (HH4.out _).mono ?_
  rintro q u ⟨rfl, hw⟩
  replace hw := hw.symm
  subst hw
  go_wp2_with fail
  refine (HH5.out _).mono ?_
  rintro q u ⟨rfl, hw⟩
  replace hw := hw.symm
  subst hw
  have HE : Hid (r = true) := hid (by rw [HR.out]; simp only [Hnc.out, Bool.not_true, Bool.not_false, Bool.true_or, Bool.false_or, decide_true, Bool.and_true, Bool.and_self])
  go_wp2_with fail
  go_ret
  exact ⟨by rw [HE.out]; rfl, HB2.out⟩
 ·go_enter Tryz.func81, Tryz.ntmps81
  go_wp2_with fail
  rw [← hw1]
  clear hw1
  refine (HH1.out _).mono ?_
  rintro q u ⟨rfl, hw⟩
  replace hw := hw.symm
  subst hw
  have y2 := HK1.out.g2
  have y3 := HK1.out.g3
  have y4 := HK1.out.g4
  have y5 := HK1.out.g5
  have y6 := HK1.out.g6
  have y7 := HK1.out.g7
  have y8 := HK1.out.g8
  have y9 := HK1.out.g9
  have y10 := HK1.out.g10
  have y11 := HK1.out.g11
  have y12 := HK1.out.g12
  have y13 := HK1.out.g13
  have y14 := HK1.out.g14
  have HN := hid (ename_any e.coll w1)
  go_wp2_with fail
  refine HN.out.mono ?_
  rintro q w2 ⟨rfl, hb⟩
  clear y2 y3 y4 y5 y6 y7 y8 y9 y10 y11 y12 y13 y14
  have HB2 := hid (HB1.out.trans (hb.mono HB1.out.size))
  have HK2 := hid (HK1.out.below hb)
  clear hb
  clear HN
  have y2 := HK2.out.g2
  have y3 := HK2.out.g3
  have y4 := HK2.out.g4
  have y5 := HK2.out.g5
  have y6 := HK2.out.g6
  have y7 := HK2.out.g7
  have y8 := HK2.out.g8
  have y9 := HK2.out.g9
  have y10 := HK2.out.g10
  have y11 := HK2.out.g11
  have y12 := HK2.out.g12
  have y13 := HK2.out.g13
  have y14 := HK2.out.g14
  cases nc : nameC e.coll
  case false =>
   have HE : Hid (r = false) := hid (by rw [HR.out]; simp [nc])
   go_wp2_with fail
   go_ret
   exact ⟨by rw [HE.out]; rfl, HB2.out⟩
  have Hnc := hid nc
  clear nc
  go_wp2_with fail
  refine (HH2.out _).mono ?_
  rintro q u ⟨rfl, hw⟩
  replace hw := hw.symm
  subst hw
  have HN := hid (ename_any e.to w2)
  go_wp2_with fail
  refine HN.out.mono ?_
  rintro q w3 ⟨rfl, hb⟩
  clear y2 y3 y4 y5 y6 y7 y8 y9 y10 y11 y12 y13 y14
  have HB3 := hid (HB2.out.trans (hb.mono HB2.out.size))
  have HK3 := hid (HK2.out.below hb)
  clear hb
  clear HN
  have y2 := HK3.out.g2
  have y3 := HK3.out.g3
  have y4 := HK3.out.g4
  have y5 := HK3.out.g5
  have y6 := HK3.out.g6
  have y7 := HK3.out.g7
  have y8 := HK3.out.g8
  have y9 := HK3.out.g9
  have y10 := HK3.out.g10
  have y11 := HK3.out.g11
  have y12 := HK3.out.g12
  have y13 := HK3.out.g13
  have y14 := HK3.out.g14
  cases nt : nameC e.to
  case false =>
   have HE : Hid (r = false) := hid (by rw [HR.out]; simp [nt])
   go_wp2_with fail
   go_ret
   exact ⟨by rw [HE.out]; rfl, HB3.out⟩
  have Hnt := hid nt
  clear nt
  by_cases hne : e.to = e.coll
  case pos =>
   have e1 : (e.to.toList == e.coll.toList) = true := by rw [str_beq]; exact decide_eq_true hne
   have e2 : (e.to.toList != e.coll.toList) = false := by rw [bne, e1]; rfl
   have e3 : e.to.toList = e.coll.toList := by rw [hne]
   have HNE := hid hne
   clear hne
   have HE : Hid (r = false) := hid (by rw [HR.out]; simp [HNE.out])
   go_wp2_with fail
   go_ret
   exact ⟨by rw [HE.out]; rfl, HB3.out⟩
  have e1 : (e.to.toList == e.coll.toList) = false := by rw [str_beq]; exact decide_eq_false hne
  have e2 : (e.to.toList != e.coll.toList) = true := by rw [bne, e1]; rfl
  have HNE := hid (decide_eq_true (p := e.to ≠ e.coll) hne)
  clear hne
  go_wp2_with fail
  refine (HH3.out _).mono ?_
  rintro q u ⟨rfl, hw⟩
  replace hw := hw.symm
  subst hw
  go_wp2_with fail
  refine (HH4.out _).mono ?_
  rintro q u ⟨rfl, hw⟩
  replace hw := hw.symm
  subst hw
  go_wp2_with fail
  refine (HH5.out _).mono ?_
  rintro q u ⟨rfl, hw⟩
  replace hw := hw.symm
  subst hw
  have HE : Hid (r = true) := hid (by rw [HR.out]; simp only [Hnc.out, Hnt.out, HNE.out, Bool.not_true, Bool.not_false, Bool.true_or, Bool.false_or, decide_true, Bool.and_true, Bool.and_self])
  go_wp2_with fail
  go_ret
  exact ⟨by rw [HE.out]; rfl, HB3.out⟩
set_option maxHeartbeats 8000000 in
theorem fofcoll_any (c : ByteArray) (e : EntT) (IA : Option Addr) (ic : Nat) (IA' : Option Addr) (ic' : Nat) (DA : Option Addr) (dc : Nat) (DA' : Option Addr) (dc' : Nat) (LA : Option Addr) (lc : Nat) (w : World) :
  Calls Tryz.prog 40 #[.string c, .agg #[.int .i64 e.term, .int .i64 e.kind, .string e.coll, .string e.to, .int .i64 e.id.kind, .int .i64 e.id.num, .string e.id.text, .slice IA e.id.items.length ic, .slice IA' e.id.names.length ic', .int .i64 e.doc.kind, .int .i64 e.doc.num, .string e.doc.text, .slice DA e.doc.items.length dc, .slice DA' e.doc.names.length dc', .slice LA e.dels.length lc, .int .i64 e.session, .int .i64 e.number]] w fun r w' => r = .returned (.bool (ofCollF c e)) ∧ Below w.heap.size w w' := by
 have HB : Hid (Below w.heap.size w (w.alloc (.cells #[.int .i64 e.term, .int .i64 e.kind, .string e.coll, .string e.to, .int .i64 e.id.kind, .int .i64 e.id.num, .string e.id.text, .slice IA e.id.items.length ic, .slice IA' e.id.names.length ic', .int .i64 e.doc.kind, .int .i64 e.doc.num, .string e.doc.text, .slice DA e.doc.items.length dc, .slice DA' e.doc.names.length dc', .slice LA e.dels.length lc, .int .i64 e.session, .int .i64 e.number] 30))) := hid (below_box _)
 have y2 : (w.alloc (.cells #[.int .i64 e.term, .int .i64 e.kind, .string e.coll, .string e.to, .int .i64 e.id.kind, .int .i64 e.id.num, .string e.id.text, .slice IA e.id.items.length ic, .slice IA' e.id.names.length ic', .int .i64 e.doc.kind, .int .i64 e.doc.num, .string e.doc.text, .slice DA e.doc.items.length dc, .slice DA' e.doc.names.length dc', .slice LA e.dels.length lc, .int .i64 e.session, .int .i64 e.number] 30)).cell? ⟨w.heap.size, 2, none⟩ = some (.string e.coll) := Go.Joins.cell_of_block (heap_alloc_new w _) 2
 have y3 : (w.alloc (.cells #[.int .i64 e.term, .int .i64 e.kind, .string e.coll, .string e.to, .int .i64 e.id.kind, .int .i64 e.id.num, .string e.id.text, .slice IA e.id.items.length ic, .slice IA' e.id.names.length ic', .int .i64 e.doc.kind, .int .i64 e.doc.num, .string e.doc.text, .slice DA e.doc.items.length dc, .slice DA' e.doc.names.length dc', .slice LA e.dels.length lc, .int .i64 e.session, .int .i64 e.number] 30)).cell? ⟨w.heap.size, 3, none⟩ = some (.string e.to) := Go.Joins.cell_of_block (heap_alloc_new w _) 3
 obtain ⟨r, hr⟩ : ∃ r, r = ofCollF c e := ⟨_, rfl⟩
 rw [← hr]
 have HR : Hid (r = (decide (c.size = 0) || decide (c = e.coll) || decide (c = e.to))) := hid hr
 clear hr
 go_enter Tryz.func40, Tryz.ntmps40
 by_cases hc : c.size = 0
 ·have e1 : c.toList = [] := toList_nil.2 hc
  have HE : Hid (r = true) := hid (by rw [HR.out, decide_eq_true hc]; rfl)
  clear hc
  go_wp2_with fail
  go_ret
  exact ⟨by rw [HE.out]; rfl, HB.out⟩
 have e1 : c.toList.isEmpty = false := by rw [← Bool.not_eq_true, isEmpty_size]; exact hc
 have e2 : ¬ c.toList = [] := fun h => hc (toList_nil.1 h)
 have HC := hid (decide_eq_false hc)
 clear hc
 by_cases h1 : c = e.coll
 ·have d1 : (c.toList == e.coll.toList) = true := by rw [str_beq]; exact decide_eq_true h1
  have HE : Hid (r = true) := hid (by rw [HR.out, HC.out, decide_eq_true h1]; rfl)
  clear h1
  go_wp2_with fail
  go_ret
  exact ⟨by rw [HE.out]; simp [d1], HB.out⟩
 have d1 : (c.toList == e.coll.toList) = false := by rw [str_beq]; exact decide_eq_false h1
 have HH := hid (decide_eq_false h1)
 clear h1
 by_cases h1 : c = e.to
 ·have d2 : (c.toList == e.to.toList) = true := by rw [str_beq]; exact decide_eq_true h1
  have HE : Hid (r = true) := hid (by rw [HR.out, HC.out, HH.out, decide_eq_true h1]; rfl)
  clear h1
  go_wp2_with fail
  go_ret
  exact ⟨by rw [HE.out]; simp [d2], HB.out⟩
 have d2 : (c.toList == e.to.toList) = false := by rw [str_beq]; exact decide_eq_false h1
 have HE : Hid (r = false) := hid (by rw [HR.out, HC.out, HH.out, decide_eq_false h1]; rfl)
 clear h1
 go_wp2_with fail
 go_ret
 exact ⟨by rw [HE.out]; simp [d1, d2], HB.out⟩
theorem ofkinds_bit {k ek : Int} (h0 : 0 ≤ k) (h1 : k < 256) {n : Nat} (hn : n < 8) (he : ek = n) : (bits .and .i64 k ((2 ^ n : Nat) : Int) == 0) = !(decide (k.toNat / 2 ^ ek.toNat % 2 = 1)) := by
 obtain ⟨m, rfl⟩ : ∃ m : Nat, k = m := ⟨k.toNat, by omega⟩
 subst he
 have := bit_num m (by omega) n hn
 rw [Bool.eq_iff_iff, beq_iff_eq, this]
 simp
set_option maxHeartbeats 8000000 in
theorem fofkinds_any (k : Int) (h0 : 0 ≤ k) (h1 : k < 256) (e : EntT) (IA : Option Addr) (ic : Nat) (IA' : Option Addr) (ic' : Nat) (DA : Option Addr) (dc : Nat) (DA' : Option Addr) (dc' : Nat) (LA : Option Addr) (lc : Nat) (w : World) (hk1 : 1 ≤ e.kind) (hk7 : e.kind ≤ 7) :
  Calls Tryz.prog 39 #[.int .i64 k, .agg #[.int .i64 e.term, .int .i64 e.kind, .string e.coll, .string e.to, .int .i64 e.id.kind, .int .i64 e.id.num, .string e.id.text, .slice IA e.id.items.length ic, .slice IA' e.id.names.length ic', .int .i64 e.doc.kind, .int .i64 e.doc.num, .string e.doc.text, .slice DA e.doc.items.length dc, .slice DA' e.doc.names.length dc', .slice LA e.dels.length lc, .int .i64 e.session, .int .i64 e.number]] w fun r w' => r = .returned (.bool (ofKindsF k e)) ∧ Below w.heap.size w w' := by
 have HB : Hid (Below w.heap.size w (w.alloc (.cells #[.int .i64 e.term, .int .i64 e.kind, .string e.coll, .string e.to, .int .i64 e.id.kind, .int .i64 e.id.num, .string e.id.text, .slice IA e.id.items.length ic, .slice IA' e.id.names.length ic', .int .i64 e.doc.kind, .int .i64 e.doc.num, .string e.doc.text, .slice DA e.doc.items.length dc, .slice DA' e.doc.names.length dc', .slice LA e.dels.length lc, .int .i64 e.session, .int .i64 e.number] 30))) := hid (below_box _)
 obtain ⟨r, hr⟩ : ∃ r, r = ofKindsF k e := ⟨_, rfl⟩
 rw [← hr]
 have HR : Hid (r = (decide (k = 0) || decide (k.toNat / 2 ^ e.kind.toNat % 2 = 1))) := hid hr
 clear hr
 have HK := hid (kinds_of hk1 hk7)
 have HH := hid (And.intro h0 h1)
 clear hk1 hk7
 by_cases hz : k = 0
 ·have HE : Hid (r = true) := hid (by rw [HR.out, decide_eq_true hz]; rfl)
  subst hz
  go_enter Tryz.func39, Tryz.ntmps39
  go_wp2_with fail
  go_ret
  exact ⟨by rw [HE.out]; rfl, HB.out⟩
 have e1 : (k == 0) = false := beq_false_of_ne hz
 have HZ := hid (decide_eq_false hz)
 clear hz
 have hb : ∀ n : Nat, n < 8 → e.kind = n → (bits .and .i64 k ((2 ^ n : Nat) : Int) == 0) = !r := fun n hn he => by
  rw [ofkinds_bit HH.out.1 HH.out.2 hn he, HR.out, HZ.out]; simp
 have HBT := hid hb
 clear hb h0 h1
 rcases HK.out with he | he | he | he | he | he | he
 ·have d : (bits .and .i64 k 2 == 0) = !r := HBT.out 1 (by omega) he
  rw [he] at HB ⊢
  have HD := hid d
  clear d he
  go_enter Tryz.func39, Tryz.ntmps39
  have d := HD.out
  go_wp2_with fail
  go_ret
  exact ⟨by simp [bne, d], HB.out⟩
 ·have d : (bits .and .i64 k 4 == 0) = !r := HBT.out 2 (by omega) he
  rw [he] at HB ⊢
  go_enter Tryz.func39, Tryz.ntmps39
  go_wp2_with fail
  go_ret
  exact ⟨by simp [bne, d], HB.out⟩
 ·have d : (bits .and .i64 k 8 == 0) = !r := HBT.out 3 (by omega) he
  rw [he] at HB ⊢
  go_enter Tryz.func39, Tryz.ntmps39
  go_wp2_with fail
  go_ret
  exact ⟨by simp [bne, d], HB.out⟩
 ·have d : (bits .and .i64 k 16 == 0) = !r := HBT.out 4 (by omega) he
  rw [he] at HB ⊢
  go_enter Tryz.func39, Tryz.ntmps39
  go_wp2_with fail
  go_ret
  exact ⟨by simp [bne, d], HB.out⟩
 ·have d : (bits .and .i64 k 32 == 0) = !r := HBT.out 5 (by omega) he
  rw [he] at HB ⊢
  go_enter Tryz.func39, Tryz.ntmps39
  go_wp2_with fail
  go_ret
  exact ⟨by simp [bne, d], HB.out⟩
 ·have d : (bits .and .i64 k 64 == 0) = !r := HBT.out 6 (by omega) he
  rw [he] at HB ⊢
  go_enter Tryz.func39, Tryz.ntmps39
  go_wp2_with fail
  go_ret
  exact ⟨by simp [bne, d], HB.out⟩
 ·have d : (bits .and .i64 k 128 == 0) = !r := HBT.out 7 (by omega) he
  rw [he] at HB ⊢
  go_enter Tryz.func39, Tryz.ntmps39
  go_wp2_with fail
  go_ret
  exact ⟨by simp [bne, d], HB.out⟩
end Go.Proofs.YtlipkmdjpligeaaGreat
