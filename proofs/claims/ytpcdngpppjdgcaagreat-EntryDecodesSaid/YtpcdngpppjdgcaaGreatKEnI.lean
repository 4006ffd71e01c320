/- Entries, by the program: which fields are bare, and which are right. (Written by mkeni.py.) -/
import Derived.Test.YtpcdngpppjdgcaaGreatKDlV
import Derived.Test.YtpcdngpppjdgcaaGreatKDlU
import Derived.Test.YtpcdngpppjdgcaaGreatKIdx
import Derived.Test.YtpcdngpppjdgcaaGreatKCodX
import Derived.Test.YtpcdngpppjdgcaaGreatKRefD2
namespace Go.Proofs.YtpcdngpppjdgcaaGreat
open Lib (hid)
set_option linter.unusedVariables false
set_option linter.unusedSimpArgs false
open Go.RowKit
set_option maxRecDepth 100000
set_option maxHeartbeats 16000000 in
theorem ebare_bits (b1 b2 b3 b4 b5 : Bool) (F : Int) (H1 : ∀ W, Calls Tryz.prog 81 #[.int .i64 F, .int .i64 1] W fun e w' => e = .returned (.bool b1) ∧ w' = W) (H2 : ∀ W, Calls Tryz.prog 81 #[.int .i64 F, .int .i64 2] W fun e w' => e = .returned (.bool b2) ∧ w' = W) (H3 : ∀ W, Calls Tryz.prog 81 #[.int .i64 F, .int .i64 4] W fun e w' => e = .returned (.bool b3) ∧ w' = W) (H4 : ∀ W, Calls Tryz.prog 81 #[.int .i64 F, .int .i64 8] W fun e w' => e = .returned (.bool b4) ∧ w' = W) (H5 : ∀ W, Calls Tryz.prog 81 #[.int .i64 F, .int .i64 16] W fun e w' => e = .returned (.bool b5) ∧ w' = W) (hb : (b1 = false ∧ b2 = false ∧ b3 = false ∧ b4 = false ∧ b5 = false) ∨ (b1 = true ∧ b2 = false ∧ b3 = true ∧ b4 = true ∧ b5 = false) ∨ (b1 = true ∧ b2 = false ∧ b3 = true ∧ b4 = false ∧ b5 = true) ∨ (b1 = true ∧ b2 = false ∧ b3 = true ∧ b4 = false ∧ b5 = false) ∨ (b1 = true ∧ b2 = false ∧ b3 = false ∧ b4 = false ∧ b5 = false) ∨ (b1 = true ∧ b2 = true ∧ b3 = false ∧ b4 = false ∧ b5 = false)) (S : Nat → Prop) (e : EntT) (IA : Option Addr) (ic : Nat) (IA' : Option Addr) (ic' : Nat) (DA : Option Addr) (dc : Nat) (DA' : Option Addr) (dc' : Nat) (LA : Option Addr) (lc : Nat) (w : World) (hS : ∀ b, S b → b < w.heap.size) (h : EntAt w S e IA ic IA' ic' DA dc DA' dc' LA lc) :
  Calls Tryz.prog 46 #[.int .i64 F, .agg #[.int .i64 e.term, .int .i64 e.kind, .string e.coll, .string e.to, .int .i64 e.id.kind, .int .i64 e.id.num, .string e.id.text, .slice IA e.id.items.length ic, .slice IA' e.id.names.length ic', .int .i64 e.doc.kind, .int .i64 e.doc.num, .string e.doc.text, .slice DA e.doc.items.length dc, .slice DA' e.doc.names.length dc', .slice LA e.dels.length lc, .int .i64 e.session, .int .i64 e.number]] w fun r w' => r = .returned (.bool ((b1 || decide (e.coll.size = 0)) && (b2 || decide (e.to.size = 0)) && (b3 || noneT e.id) && (b4 || noneT e.doc) && (b5 || decide (e.dels.length = 0)))) ∧ Below w.heap.size w w' := by
 obtain ⟨w1, hw1⟩ : ∃ W, W = w.alloc (.cells #[.int .i64 e.term, .int .i64 e.kind, .string e.coll, .string e.to, .int .i64 e.id.kind, .int .i64 e.id.num, .string e.id.text, .slice IA e.id.items.length ic, .slice IA' e.id.names.length ic', .int .i64 e.doc.kind, .int .i64 e.doc.num, .string e.doc.text, .slice DA e.doc.items.length dc, .slice DA' e.doc.names.length dc', .slice LA e.dels.length lc, .int .i64 e.session, .int .i64 e.number] 28) := ⟨_, rfl⟩
 have hbk : EBox w1 w.heap.size e IA ic IA' ic' DA dc DA' dc' LA lc := by rw [hw1]; exact heap_alloc_new w _
 have hb1 : Below w.heap.size w w1 := by rw [hw1]; exact below_box _
 obtain ⟨r, hr⟩ : ∃ r, r = ((b1 || decide (e.coll.size = 0)) && (b2 || decide (e.to.size = 0)) && (b3 || noneT e.id) && (b4 || noneT e.doc) && (b5 || decide (e.dels.length = 0))) := ⟨_, rfl⟩
 have HR := hid hr
 rw [← hr]
 have HB1 := hid hb1
 have HK1 := hid hbk
 have HS := hid hS
 have HA := hid h
 have HH1 := hid H1
 have HH2 := hid H2
 have HH3 := hid H3
 have HH4 := hid H4
 have HH5 := hid H5
 clear hr hb1 hbk hS h H1 H2 H3 H4 H5
 rcases hb with ⟨rfl, rfl, rfl, rfl, rfl⟩ | ⟨rfl, rfl, rfl, rfl, rfl⟩ | ⟨rfl, rfl, rfl, rfl, rfl⟩ | ⟨rfl, rfl, rfl, rfl, rfl⟩ | ⟨rfl, rfl, rfl, rfl, rfl⟩ | ⟨rfl, rfl, rfl, rfl, rfl⟩
 ·go_enter Tryz.func46, Tryz.ntmps46
  go_wp2_with fail
  rw [← hw1]
  clear hw1
  refine (HH1.out _).mono ?_
  rintro q u ⟨rfl, hw⟩
  replace hw := hw.symm
  subst hw
  have y2 := HK1.out.g2
  have y3 := HK1.out.g3
  have y4 := HK1.out.g4
  have y5 := HK1.out.g5
  have y6 := HK1.out.g6
  have y7 := HK1.out.g7
  have y8 := HK1.out.g8
  have y9 := HK1.out.g9
  have y10 := HK1.out.g10
  have y11 := HK1.out.g11
  have y12 := HK1.out.g12
  have y13 := HK1.out.g13
  have y14 := HK1.out.g14
  by_cases hc1 : e.coll.size = 0
  case neg =>
   have e1 : e.coll.toList.isEmpty = false := by rw [← Bool.not_eq_true, isEmpty_size]; exact hc1
   have HE : Hid (r = false) := hid (by rw [HR.out]; simp [hc1])
   go_wp2_with fail
   go_ret
   exact ⟨by rw [HE.out]; rfl, HB1.out⟩
  have e1 : e.coll.toList = [] := toList_nil.2 hc1
  have HC1 := hid hc1
  clear hc1
  go_wp2_with fail
  refine (HH2.out _).mono ?_
  rintro q u ⟨rfl, hw⟩
  replace hw := hw.symm
  subst hw
  by_cases hc2 : e.to.size = 0
  case neg =>
   have e2 : e.to.toList.isEmpty = false := by rw [← Bool.not_eq_true, isEmpty_size]; exact hc2
   have HE : Hid (r = false) := hid (by rw [HR.out]; simp [hc2])
   go_wp2_with fail
   go_ret
   exact ⟨by rw [HE.out]; rfl, HB1.out⟩
  have e2 : e.to.toList = [] := toList_nil.2 hc2
  have HC2 := hid hc2
  clear hc2
  go_wp2_with fail
  refine (HH3.out _).mono ?_
  rintro q u ⟨rfl, hw⟩
  replace hw := hw.symm
  subst hw
  have HN := hid (none_any S e.id _ w1 (fun b hb => Nat.lt_of_lt_of_le (HS.out b hb) HB1.out.size) ((HA.out.below HS.out HB1.out)).id)
  go_wp2_with fail
  refine HN.out.mono ?_
  rintro q w2 ⟨rfl, hb⟩
  clear y2 y3 y4 y5 y6 y7 y8 y9 y10 y11 y12 y13 y14
  have HB2 := hid (HB1.out.trans (hb.mono HB1.out.size))
  have HK2 := hid (HK1.out.below hb)
  clear hb
  clear HN
  have y2 := HK2.out.g2
  have y3 := HK2.out.g3
  have y4 := HK2.out.g4
  have y5 := HK2.out.g5
  have y6 := HK2.out.g6
  have y7 := HK2.out.g7
  have y8 := HK2.out.g8
  have y9 := HK2.out.g9
  have y10 := HK2.out.g10
  have y11 := HK2.out.g11
  have y12 := HK2.out.g12
  have y13 := HK2.out.g13
  have y14 := HK2.out.g14
  cases hn3 : noneT e.id
  case false =>
   have HE : Hid (r = false) := hid (by rw [HR.out]; simp [hn3])
   go_wp2_with fail
   go_ret
   exact ⟨by rw [HE.out]; rfl, HB2.out⟩
  have HN3 := hid hn3
  clear hn3
  go_wp2_with fail
  refine (HH4.out _).mono ?_
  rintro q u ⟨rfl, hw⟩
  replace hw := hw.symm
  subst hw
  have HN := hid (none_any S e.doc _ w2 (fun b hb => Nat.lt_of_lt_of_le (HS.out b hb) HB2.out.size) ((HA.out.below HS.out HB2.out)).doc)
  go_wp2_with fail
  refine HN.out.mono ?_
  rintro q w3 ⟨rfl, hb⟩
  clear y2 y3 y4 y5 y6 y7 y8 y9 y10 y11 y12 y13 y14
  have HB3 := hid (HB2.out.trans (hb.mono HB2.out.size))
  have HK3 := hid (HK2.out.below hb)
  clear hb
  clear HN
  have y2 := HK3.out.g2
  have y3 := HK3.out.g3
  have y4 := HK3.out.g4
  have y5 := HK3.out.g5
  have y6 := HK3.out.g6
  have y7 := HK3.out.g7
  have y8 := HK3.out.g8
  have y9 := HK3.out.g9
  have y10 := HK3.out.g10
  have y11 := HK3.out.g11
  have y12 := HK3.out.g12
  have y13 := HK3.out.g13
  have y14 := HK3.out.g14
  cases hn4 : noneT e.doc
  case false =>
   have HE : Hid (r = false) := hid (by rw [HR.out]; simp [hn4])
   go_wp2_with fail
   go_ret
   exact ⟨by rw [HE.out]; rfl, HB3.out⟩
  have HN4 := hid hn4
  clear hn4
  go_wp2_with fail
  refine (HH5.out _).mono ?_
  rintro q u ⟨rfl, hw⟩
  replace hw := hw.symm
  subst hw
  by_cases hc5 : e.dels.length = 0
  case neg =>
   have e5 : ((e.dels.length : Int) == 0) = false := beq_eq_false_iff_ne.2 (by omega)
   have e6 : ¬ e.dels = [] := fun h => hc5 (by rw [h]; rfl)
   have HE : Hid (r = false) := hid (by rw [HR.out]; simp [e6])
   go_wp2_with fail
   go_ret
   exact ⟨by rw [HE.out]; rfl, HB3.out⟩
  have e5 : ((e.dels.length : Int) == 0) = true := beq_iff_eq.2 (by omega)
  have e6 : (e.dels.length : Int) = 0 := by omega
  have HC5 := hid hc5
  clear hc5
  have HE : Hid (r = true) := hid (by rw [HR.out]; simp only [HC1.out, HC2.out, HN3.out, HN4.out, HC5.out, Bool.true_or, Bool.false_or, decide_true, Bool.and_true, Bool.and_self])
  go_wp2_with fail
  go_ret
  exact ⟨by rw [HE.out]; rfl, HB3.out⟩
 ·go_enter Tryz.func46, Tryz.ntmps46
  go_wp2_with fail
  rw [← hw1]
  clear hw1
  refine (HH1.out _).mono ?_
  rintro q u ⟨rfl, hw⟩
  replace hw := hw.symm
  subst hw
  have y2 := HK1.out.g2
  have y3 := HK1.out.g3
  have y4 := HK1.out.g4
  have y5 := HK1.out.g5
  have y6 := HK1.out.g6
  have y7 := HK1.out.g7
  have y8 := HK1.out.g8
  have y9 := HK1.out.g9
  have y10 := HK1.out.g10
  have y11 := HK1.out.g11
  have y12 := HK1.out.g12
  have y13 := HK1.out.g13
  have y14 := HK1.out.g14
  go_wp2_with fail
  refine (HH2.out _).mono ?_
  rintro q u ⟨rfl, hw⟩
  replace hw := hw.symm
  subst hw
  by_cases hc2 : e.to.size = 0
  case neg =>
   have e2 : e.to.toList.isEmpty = false := by rw [← Bool.not_eq_true, isEmpty_size]; exact hc2
   have HE : Hid (r = false) := hid (by rw [HR.out]; simp [hc2])
   go_wp2_with fail
   go_ret
   exact ⟨by rw [HE.out]; rfl, HB1.out⟩
  have e2 : e.to.toList = [] := toList_nil.2 hc2
  have HC2 := hid hc2
  clear hc2
  go_wp2_with fail
  refine (HH3.out _).mono ?_
  rintro q u ⟨rfl, hw⟩
  replace hw := hw.symm
  subst hw
  go_wp2_with fail
  refine (HH4.out _).mono ?_
  rintro q u ⟨rfl, hw⟩
  replace hw := hw.symm
  subst hw
  go_wp2_with fail
  refine (HH5.out _).mono ?_
  rintro q u ⟨rfl, hw⟩
  replace hw := hw.symm
  subst hw
  by_cases hc5 : e.dels.length = 0
  case neg =>
   have e5 : ((e.dels.length : Int) == 0) = false := beq_eq_false_iff_ne.2 (by omega)
   have e6 : ¬ e.dels = [] := fun h => hc5 (by rw [h]; rfl)
   have HE : Hid (r = false) := hid (by rw [HR.out]; simp [e6])
   go_wp2_with fail
   go_ret
   exact ⟨by rw [HE.out]; rfl, HB1.out⟩
  have e5 : ((e.dels.length : Int) == 0) = true := beq_iff_eq.2 (by omega)
  have e6 : (e.dels.length : Int) = 0 := by omega
  have HC5 := hid hc5
  clear hc5
  have HE : Hid (r = true) := hid (by rw [HR.out]; simp only [HC2.out, HC5.out, Bool.true_or, Bool.false_or, decide_true, Bool.and_true, Bool.and_self])
  go_wp2_with fail
  go_ret
  exact ⟨by rw [HE.out]; rfl, HB1.out⟩
 ·go_enter Tryz.func46, Tryz.ntmps46
  go_wp2_with fail
  rw [← hw1]
  clear hw1
  refine (HH1.out _).mono ?_
  rintro q u ⟨rfl, hw⟩
  replace hw := hw.symm
  subst hw
  have y2 := HK1.out.g2
  have y3 := HK1.out.g3
  have y4 := HK1.out.g4
  have y5 := HK1.out.g5
  have y6 := HK1.out.g6
  have y7 := HK1.out.g7
  have y8 := HK1.out.g8
  have y9 := HK1.out.g9
  have y10 := HK1.out.g10
  have y11 := HK1.out.g11
  have y12 := HK1.out.g12
  have y13 := HK1.out.g13
  have y14 := HK1.out.g14
  go_wp2_with fail
  refine (HH2.out _).mono ?_
  rintro q u ⟨rfl, hw⟩
  replace hw := hw.symm
  subst hw
  by_cases hc2 : e.to.size = 0
  case neg =>
   have e2 : e.to.toList.isEmpty = false := by rw [← Bool.not_eq_true, isEmpty_size]; exact hc2
   have HE : Hid (r = false) := hid (by rw [HR.out]; simp [hc2])
   go_wp2_with fail
   go_ret
   exact ⟨by rw [HE.out]; rfl, HB1.out⟩
  have e2 : e.to.toList = [] := toList_nil.2 hc2
  have HC2 := hid hc2
  clear hc2
  go_wp2_with fail
  refine (HH3.out _).mono ?_
  rintro q u ⟨rfl, hw⟩
  replace hw := hw.symm
  subst hw
  go_wp2_with fail
  refine (HH4.out _).mono ?_
  rintro q u ⟨rfl, hw⟩
  replace hw := hw.symm
  subst hw
  have HN := hid (none_any S e.doc _ w1 (fun b hb => Nat.lt_of_lt_of_le (HS.out b hb) HB1.out.size) ((HA.out.below HS.out HB1.out)).doc)
  go_wp2_with fail
  refine HN.out.mono ?_
  rintro q w2 ⟨rfl, hb⟩
  clear y2 y3 y4 y5 y6 y7 y8 y9 y10 y11 y12 y13 y14
  have HB2 := hid (HB1.out.trans (hb.mono HB1.out.size))
  have HK2 := hid (HK1.out.below hb)
  clear hb
  clear HN
  have y2 := HK2.out.g2
  have y3 := HK2.out.g3
  have y4 := HK2.out.g4
  have y5 := HK2.out.g5
  have y6 := HK2.out.g6
  have y7 := HK2.out.g7
  have y8 := HK2.out.g8
  have y9 := HK2.out.g9
  have y10 := HK2.out.g10
  have y11 := HK2.out.g11
  have y12 := HK2.out.g12
  have y13 := HK2.out.g13
  have y14 := HK2.out.g14
  cases hn4 : noneT e.doc
  case false =>
   have HE : Hid (r = false) := hid (by rw [HR.out]; simp [hn4])
   go_wp2_with fail
   go_ret
   exact ⟨by rw [HE.out]; rfl, HB2.out⟩
  have HN4 := hid hn4
  clear hn4
  go_wp2_with fail
  refine (HH5.out _).mono ?_
  rintro q u ⟨rfl, hw⟩
  replace hw := hw.symm
  subst hw
  have HE : Hid (r = true) := hid (by rw [HR.out]; simp only [HC2.out, HN4.out, Bool.true_or, Bool.false_or, decide_true, Bool.and_true, Bool.and_self])
  go_wp2_with fail
  go_ret
  exact ⟨by rw [HE.out]; rfl, HB2.out⟩
 ·go_enter Tryz.func46, Tryz.ntmps46
  go_wp2_with fail
  rw [← hw1]
  clear hw1
  refine (HH1.out _).mono ?_
  rintro q u ⟨rfl, hw⟩
  replace hw := hw.symm
  subst hw
  have y2 := HK1.out.g2
  have y3 := HK1.out.g3
  have y4 := HK1.out.g4
  have y5 := HK1.out.g5
  have y6 := HK1.out.g6
  have y7 := HK1.out.g7
  have y8 := HK1.out.g8
  have y9 := HK1.out.g9
  have y10 := HK1.out.g10
  have y11 := HK1.out.g11
  have y12 := HK1.out.g12
  have y13 := HK1.out.g13
  have y14 := HK1.out.g14
  go_wp2_with fail
  refine (HH2.out _).mono ?_
  rintro q u ⟨rfl, hw⟩
  replace hw := hw.symm
  subst hw
  by_cases hc2 : e.to.size = 0
  case neg =>
   have e2 : e.to.toList.isEmpty = false := by rw [← Bool.not_eq_true, isEmpty_size]; exact hc2
   have HE : Hid (r = false) := hid (by rw [HR.out]; simp [hc2])
   go_wp2_with fail
   go_ret
   exact ⟨by rw [HE.out]; rfl, HB1.out⟩
  have e2 : e.to.toList = [] := toList_nil.2 hc2
  have HC2 := hid hc2
  clear hc2
  go_wp2_with fail
  refine (HH3.out _).mono ?_
  rintro q u ⟨rfl, hw⟩
  replace hw := hw.symm
  subst hw
  go_wp2_with fail
  refine (HH4.out _).mono ?_
  rintro q u ⟨rfl, hw⟩
  replace hw := hw.symm
  subst hw
  have HN := hid (none_any S e.doc _ w1 (fun b hb => Nat.lt_of_lt_of_le (HS.out b hb) HB1.out.size) ((HA.out.below HS.out HB1.out)).doc)
  go_wp2_with fail
  refine HN.out.mono ?_
  rintro q w2 ⟨rfl, hb⟩
  clear y2 y3 y4 y5 y6 y7 y8 y9 y10 y11 y12 y13 y14
  have HB2 := hid (HB1.out.trans (hb.mono HB1.out.size))
  have HK2 := hid (HK1.out.below hb)
  clear hb
  clear HN
  have y2 := HK2.out.g2
  have y3 := HK2.out.g3
  have y4 := HK2.out.g4
  have y5 := HK2.out.g5
  have y6 := HK2.out.g6
  have y7 := HK2.out.g7
  have y8 := HK2.out.g8
  have y9 := HK2.out.g9
  have y10 := HK2.out.g10
  have y11 := HK2.out.g11
  have y12 := HK2.out.g12
  have y13 := HK2.out.g13
  have y14 := HK2.out.g14
  cases hn4 : noneT e.doc
  case false =>
   have HE : Hid (r = false) := hid (by rw [HR.out]; simp [hn4])
   go_wp2_with fail
   go_ret
   exact ⟨by rw [HE.out]; rfl, HB2.out⟩
  have HN4 := hid hn4
  clear hn4
  go_wp2_with fail
  refine (HH5.out _).mono ?_
  rintro q u ⟨rfl, hw⟩
  replace hw := hw.symm
  subst hw
  by_cases hc5 : e.dels.length = 0
  case neg =>
   have e5 : ((e.dels.length : Int) == 0) = false := beq_eq_false_iff_ne.2 (by omega)
   have e6 : ¬ e.dels = [] := fun h => hc5 (by rw [h]; rfl)
   have HE : Hid (r = false) := hid (by rw [HR.out]; simp [e6])
   go_wp2_with fail
   go_ret
   exact ⟨by rw [HE.out]; rfl, HB2.out⟩
  have e5 : ((e.dels.length : Int) == 0) = true := beq_iff_eq.2 (by omega)
  have e6 : (e.dels.length : Int) = 0 := by omega
  have HC5 := hid hc5
  clear hc5
  have HE : Hid (r = true) := hid (by rw [HR.out]; simp only [HC2.out, HN4.out, HC5.out, Bool.true_or, Bool.false_or, decide_true, Bool.and_true, Bool.and_self])
  go_wp2_with fail
  go_ret
  exact ⟨by rw [HE.out]; rfl, HB2.out⟩
 ·go_enter Tryz.func46, Tryz.ntmps46
  go_wp2_with fail
  rw [← hw1]
  clear hw1
  refine (HH1.out _).mono ?_
  rintro q u ⟨rfl, hw⟩
  replace hw := hw.symm
  subst hw
  have y2 := HK1.out.g2
  have y3 := HK1.out.g3
  have y4 := HK1.out.g4
  have y5 := HK1.out.g5
  have y6 := HK1.out.g6
  have y7 := HK1.out.g7
  have y8 := HK1.out.g8
  have y9 := HK1.out.g9
  have y10 := HK1.out.g10
  have y11 := HK1.out.g11
  have y12 := HK1.out.g12
  have y13 := HK1.out.g13
  have y14 := HK1.out.g14
  go_wp2_with fail
  refine (HH2.out _).mono ?_
  rintro q u ⟨rfl, hw⟩
  replace hw := hw.symm
  subst hw
  by_cases hc2 : e.to.size = 0
  case neg =>
   have e2 : e.to.toList.isEmpty = false := by rw [← Bool.not_eq_true, isEmpty_size]; exact hc2
   have HE : Hid (r = false) := hid (by rw [HR.out]; simp [hc2])
   go_wp2_with fail
   go_ret
   exact ⟨by rw [HE.out]; rfl, HB1.out⟩
  have e2 : e.to.toList = [] := toList_nil.2 hc2
  have HC2 := hid hc2
  clear hc2
  go_wp2_with fail
  refine (HH3.out _).mono ?_
  rintro q u ⟨rfl, hw⟩
  replace hw := hw.symm
  subst hw
  have HN := hid (none_any S e.id _ w1 (fun b hb => Nat.lt_of_lt_of_le (HS.out b hb) HB1.out.size) ((HA.out.below HS.out HB1.out)).id)
  go_wp2_with fail
  refine HN.out.mono ?_
  rintro q w2 ⟨rfl, hb⟩
  clear y2 y3 y4 y5 y6 y7 y8 y9 y10 y11 y12 y13 y14
  have HB2 := hid (HB1.out.trans (hb.mono HB1.out.size))
  have HK2 := hid (HK1.out.below hb)
  clear hb
  clear HN
  have y2 := HK2.out.g2
  have y3 := HK2.out.g3
  have y4 := HK2.out.g4
  have y5 := HK2.out.g5
  have y6 := HK2.out.g6
  have y7 := HK2.out.g7
  have y8 := HK2.out.g8
  have y9 := HK2.out.g9
  have y10 := HK2.out.g10
  have y11 := HK2.out.g11
  have y12 := HK2.out.g12
  have y13 := HK2.out.g13
  have y14 := HK2.out.g14
  cases hn3 : noneT e.id
  case false =>
   have HE : Hid (r = false) := hid (by rw [HR.out]; simp [hn3])
   go_wp2_with fail
   go_ret
   exact ⟨by rw [HE.out]; rfl, HB2.out⟩
  have HN3 := hid hn3
  clear hn3
  go_wp2_with fail
  refine (HH4.out _).mono ?_
  rintro q u ⟨rfl, hw⟩
  replace hw := hw.symm
  subst hw
  have HN := hid (none_any S e.doc _ w2 (fun b hb => Nat.lt_of_lt_of_le (HS.out b hb) HB2.out.size) ((HA.out.below HS.out HB2.out)).doc)
  go_wp2_with fail
  refine HN.out.mono ?_
  rintro q w3 ⟨rfl, hb⟩
  clear y2 y3 y4 y5 y6 y7 y8 y9 y10 y11 y12 y13 y14
  have HB3 := hid (HB2.out.trans (hb.mono HB2.out.size))
  have HK3 := hid (HK2.out.below hb)
  clear hb
  clear HN
  have y2 := HK3.out.g2
  have y3 := HK3.out.g3
  have y4 := HK3.out.g4
  have y5 := HK3.out.g5
  have y6 := HK3.out.g6
  have y7 := HK3.out.g7
  have y8 := HK3.out.g8
  have y9 := HK3.out.g9
  have y10 := HK3.out.g10
  have y11 := HK3.out.g11
  have y12 := HK3.out.g12
  have y13 := HK3.out.g13
  have y14 := HK3.out.g14
  cases hn4 : noneT e.doc
  case false =>
   have HE : Hid (r = false) := hid (by rw [HR.out]; simp [hn4])
   go_wp2_with fail
   go_ret
   exact ⟨by rw [HE.out]; rfl, HB3.out⟩
  have HN4 := hid hn4
  clear hn4
  go_wp2_with fail
  refine (HH5.out _).mono ?_
  rintro q u ⟨rfl, hw⟩
  replace hw := hw.symm
  subst hw
  by_cases hc5 : e.dels.length = 0
  case neg =>
   have e5 : ((e.dels.length : Int) == 0) = false := beq_eq_false_iff_ne.2 (by omega)
   have e6 : ¬ e.dels = [] := fun h => hc5 (by rw [h]; rfl)
   have HE : Hid (r = false) := hid (by rw [HR.out]; simp [e6])
   go_wp2_with fail
   go_ret
   exact ⟨by rw [HE.out]; rfl, HB3.out⟩
  have e5 : ((e.dels.length : Int) == 0) = true := beq_iff_eq.2 (by omega)
  have e6 : (e.dels.length : Int) = 0 := by omega
  have HC5 := hid hc5
  clear hc5
  have HE : Hid (r = true) := hid (by rw [HR.out]; simp only [HC2.out, HN3.out, HN4.out, HC5.out, Bool.true_or, Bool.false_or, decide_true, Bool.and_true, Bool.and_self])
  go_wp2_with fail
  go_ret
  exact ⟨by rw [HE.out]; rfl, HB3.out⟩
 ·go_enter Tryz.func46, Tryz.ntmps46
  go_wp2_with fail
  rw [← hw1]
  clear hw1
  refine (HH1.out _).mono ?_
  rintro q u ⟨rfl, hw⟩
  replace hw := hw.symm
  subst hw
  have y2 := HK1.out.g2
  have y3 := HK1.out.g3
  have y4 := HK1.out.g4
  have y5 := HK1.out.g5
  have y6 := HK1.out.g6
  have y7 := HK1.out.g7
  have y8 := HK1.out.g8
  have y9 := HK1.out.g9
  have y10 := HK1.out.g10
  have y11 := HK1.out.g11
  have y12 := HK1.out.g12
  have y13 := HK1.out.g13
  have y14 := HK1.out.g14
  go_wp2_with fail
  refine (HH2.out _).mono ?_
  rintro q u ⟨rfl, hw⟩
  replace hw := hw.symm
  subst hw
  go_wp2_with fail
  refine (HH3.out _).mono ?_
  rintro q u ⟨rfl, hw⟩
  replace hw := hw.symm
  subst hw
  have HN := hid (none_any S e.id _ w1 (fun b hb => Nat.lt_of_lt_of_le (HS.out b hb) HB1.out.size) ((HA.out.below HS.out HB1.out)).id)
  go_wp2_with fail
  refine HN.out.mono ?_
  rintro q w2 ⟨rfl, hb⟩
  clear y2 y3 y4 y5 y6 y7 y8 y9 y10 y11 y12 y13 y14
  have HB2 := hid (HB1.out.trans (hb.mono HB1.out.size))
  have HK2 := hid (HK1.out.below hb)
  clear hb
  clear HN
  have y2 := HK2.out.g2
  have y3 := HK2.out.g3
  have y4 := HK2.out.g4
  have y5 := HK2.out.g5
  have y6 := HK2.out.g6
  have y7 := HK2.out.g7
  have y8 := HK2.out.g8
  have y9 := HK2.out.g9
  have y10 := HK2.out.g10
  have y11 := HK2.out.g11
  have y12 := HK2.out.g12
  have y13 := HK2.out.g13
  have y14 := HK2.out.g14
  cases hn3 : noneT e.id
  case false =>
   have HE : Hid (r = false) := hid (by rw [HR.out]; simp [hn3])
   go_wp2_with fail
   go_ret
   exact ⟨by rw [HE.out]; rfl, HB2.out⟩
  have HN3 := hid hn3
  clear hn3
  go_wp2_with fail
  refine (HH4.out _).mono ?_
  rintro q u ⟨rfl, hw⟩
  replace hw := hw.symm
  subst hw
  have HN := hid (none_any S e.doc _ w2 (fun b hb => Nat.lt_of_lt_of_le (HS.out b hb) HB2.out.size) ((HA.out.below HS.out HB2.out)).doc)
  go_wp2_with fail
  refine HN.out.mono ?_
  rintro q w3 ⟨rfl, hb⟩
  clear y2 y3 y4 y5 y6 y7 y8 y9 y10 y11 y12 y13 y14
  have HB3 := hid (HB2.out.trans (hb.mono HB2.out.size))
  have HK3 := hid (HK2.out.below hb)
  clear hb
  clear HN
  have y2 := HK3.out.g2
  have y3 := HK3.out.g3
  have y4 := HK3.out.g4
  have y5 := HK3.out.g5
  have y6 := HK3.out.g6
  have y7 := HK3.out.g7
  have y8 := HK3.out.g8
  have y9 := HK3.out.g9
  have y10 := HK3.out.g10
  have y11 := HK3.out.g11
  have y12 := HK3.out.g12
  have y13 := HK3.out.g13
  have y14 := HK3.out.g14
  cases hn4 : noneT e.doc
  case false =>
   have HE : Hid (r = false) := hid (by rw [HR.out]; simp [hn4])
   go_wp2_with fail
   go_ret
   exact ⟨by rw [HE.out]; rfl, HB3.out⟩
  have HN4 := hid hn4
  clear hn4
  go_wp2_with fail
  refine (HH5.out _).mono ?_
  rintro q u ⟨rfl, hw⟩
  replace hw := hw.symm
  subst hw
  by_cases hc5 : e.dels.length = 0
  case neg =>
   have e5 : ((e.dels.length : Int) == 0) = false := beq_eq_false_iff_ne.2 (by omega)
   have e6 : ¬ e.dels = [] := fun h => hc5 (by rw [h]; rfl)
   have HE : Hid (r = false) := hid (by rw [HR.out]; simp [e6])
   go_wp2_with fail
   go_ret
   exact ⟨by rw [HE.out]; rfl, HB3.out⟩
  have e5 : ((e.dels.length : Int) == 0) = true := beq_iff_eq.2 (by omega)
  have e6 : (e.dels.length : Int) = 0 := by omega
  have HC5 := hid hc5
  clear hc5
  have HE : Hid (r = true) := hid (by rw [HR.out]; simp only [HN3.out, HN4.out, HC5.out, Bool.true_or, Bool.false_or, decide_true, Bool.and_true, Bool.and_self])
  go_wp2_with fail
  go_ret
  exact ⟨by rw [HE.out]; rfl, HB3.out⟩
set_option maxHeartbeats 16000000 in
theorem eright_bits (b1 b2 b3 b4 b5 : Bool) (F : Int) (H1 : ∀ W, Calls Tryz.prog 81 #[.int .i64 F, .int .i64 1] W fun e w' => e = .returned (.bool b1) ∧ w' = W) (H2 : ∀ W, Calls Tryz.prog 81 #[.int .i64 F, .int .i64 2] W fun e w' => e = .returned (.bool b2) ∧ w' = W) (H3 : ∀ W, Calls Tryz.prog 81 #[.int .i64 F, .int .i64 4] W fun e w' => e = .returned (.bool b3) ∧ w' = W) (H4 : ∀ W, Calls Tryz.prog 81 #[.int .i64 F, .int .i64 8] W fun e w' => e = .returned (.bool b4) ∧ w' = W) (H5 : ∀ W, Calls Tryz.prog 81 #[.int .i64 F, .int .i64 16] W fun e w' => e = .returned (.bool b5) ∧ w' = W) (hb : (b1 = false ∧ b2 = false ∧ b3 = false ∧ b4 = false ∧ b5 = false) ∨ (b1 = true ∧ b2 = false ∧ b3 = true ∧ b4 = true ∧ b5 = false) ∨ (b1 = true ∧ b2 = false ∧ b3 = true ∧ b4 = false ∧ b5 = true) ∨ (b1 = true ∧ b2 = false ∧ b3 = true ∧ b4 = false ∧ b5 = false) ∨ (b1 = true ∧ b2 = false ∧ b3 = false ∧ b4 = false ∧ b5 = false) ∨ (b1 = true ∧ b2 = true ∧ b3 = false ∧ b4 = false ∧ b5 = false)) (S : Nat → Prop) (e : EntT) (IA : Option Addr) (ic : Nat) (IA' : Option Addr) (ic' : Nat) (DA : Option Addr) (dc : Nat) (DA' : Option Addr) (dc' : Nat) (LA : Option Addr) (lc : Nat) (w : World) (hS : ∀ b, S b → b < w.heap.size) (h : EntAt w S e IA ic IA' ic' DA dc DA' dc' LA lc) (hd : SmE e) :
  Calls Tryz.prog 47 #[.int .i64 F, .agg #[.int .i64 e.term, .int .i64 e.kind, .string e.coll, .string e.to, .int .i64 e.id.kind, .int .i64 e.id.num, .string e.id.text, .slice IA e.id.items.length ic, .slice IA' e.id.names.length ic', .int .i64 e.doc.kind, .int .i64 e.doc.num, .string e.doc.text, .slice DA e.doc.items.length dc, .slice DA' e.doc.names.length dc', .slice LA e.dels.length lc, .int .i64 e.session, .int .i64 e.number]] w fun r w' => r = .returned (.bool ((!b1 || nameC e.coll) && (!b2 || (nameC e.to && decide (e.to ≠ e.coll))) && (!b3 || decide (checkT e.id = 0)) && (!b4 || holdE e.doc e.id) && (!b5 || mayDo e.dels))) ∧ Below w.heap.size w w' := by
 obtain ⟨w1, hw1⟩ : ∃ W, W = w.alloc (.cells #[.int .i64 e.term, .int .i64 e.kind, .string e.coll, .string e.to, .int .i64 e.id.kind, .int .i64 e.id.num, .string e.id.text, .slice IA e.id.items.length ic, .slice IA' e.id.names.length ic', .int .i64 e.doc.kind, .int .i64 e.doc.num, .string e.doc.text, .slice DA e.doc.items.length dc, .slice DA' e.doc.names.length dc', .slice LA e.dels.length lc, .int .i64 e.session, .int .i64 e.number] 28) := ⟨_, rfl⟩
 have hbk : EBox w1 w.heap.size e IA ic IA' ic' DA dc DA' dc' LA lc := by rw [hw1]; exact heap_alloc_new w _
 have hb1 : Below w.heap.size w w1 := by rw [hw1]; exact below_box _
 obtain ⟨r, hr⟩ : ∃ r, r = ((!b1 || nameC e.coll) && (!b2 || (nameC e.to && decide (e.to ≠ e.coll))) && (!b3 || decide (checkT e.id = 0)) && (!b4 || holdE e.doc e.id) && (!b5 || mayDo e.dels)) := ⟨_, rfl⟩
 have HR := hid hr
 rw [← hr]
 have HB1 := hid hb1
 have HK1 := hid hbk
 have HS := hid hS
 have HA := hid h
 have HD := hid hd
 have HH1 := hid H1
 have HH2 := hid H2
 have HH3 := hid H3
 have HH4 := hid H4
 have HH5 := hid H5
 clear hr hb1 hbk hS h hd H1 H2 H3 H4 H5
 rcases hb with ⟨rfl, rfl, rfl, rfl, rfl⟩ | ⟨rfl, rfl, rfl, rfl, rfl⟩ | ⟨rfl, rfl, rfl, rfl, rfl⟩ | ⟨rfl, rfl, rfl, rfl, rfl⟩ | ⟨rfl, rfl, rfl, rfl, rfl⟩ | ⟨rfl, rfl, rfl, rfl, rfl⟩
 ·go_enter Tryz.func47, Tryz.ntmps47
  go_wp2_with fail
  rw [← hw1]
  clear hw1
  refine (HH1.out _).mono ?_
  rintro q u ⟨rfl, hw⟩
  replace hw := hw.symm
  subst hw
  have y2 := HK1.out.g2
  have y3 := HK1.out.g3
  have y4 := HK1.out.g4
  have y5 := HK1.out.g5
  have y6 := HK1.out.g6
  have y7 := HK1.out.g7
  have y8 := HK1.out.g8
  have y9 := HK1.out.g9
  have y10 := HK1.out.g10
  have y11 := HK1.out.g11
  have y12 := HK1.out.g12
  have y13 := HK1.out.g13
  have y14 := HK1.out.g14
  go_wp2_with fail
  refine (HH2.out _).mono ?_
  rintro q u ⟨rfl, hw⟩
  replace hw := hw.symm
  subst hw
  go_wp2_with fail
  refine (HH3.out _).mono ?_
  rintro q u ⟨rfl, hw⟩
  replace hw := hw.symm
  subst hw
  go_wp2_with fail
  refine (HH4.out _).mono ?_
  rintro q u ⟨rfl, hw⟩
  replace hw := hw.symm
  subst hw
  go_wp2_with fail
  refine (HH5.out _).mono ?_
  rintro q u ⟨rfl, hw⟩
  replace hw := hw.symm
  subst hw
  have HE : Hid (r = true) := hid (by rw [HR.out]; simp only [Bool.not_true, Bool.not_false, Bool.true_or, Bool.false_or, decide_true, Bool.and_true, Bool.and_self])
  go_wp2_with fail
  go_ret
  exact ⟨by rw [HE.out]; rfl, HB1.out⟩
 ·go_enter Tryz.func47, Tryz.ntmps47
  go_wp2_with fail
  rw [← hw1]
  clear hw1
  refine (HH1.out _).mono ?_
  rintro q u ⟨rfl, hw⟩
  replace hw := hw.symm
  subst hw
  have y2 := HK1.out.g2
  have y3 := HK1.out.g3
  have y4 := HK1.out.g4
  have y5 := HK1.out.g5
  have y6 := HK1.out.g6
  have y7 := HK1.out.g7
  have y8 := HK1.out.g8
  have y9 := HK1.out.g9
  have y10 := HK1.out.g10
  have y11 := HK1.out.g11
  have y12 := HK1.out.g12
  have y13 := HK1.out.g13
  have y14 := HK1.out.g14
  have HN := hid (ename_any e.coll w1)
  go_wp2_with fail
  refine HN.out.mono ?_
  rintro q w2 ⟨rfl, hb⟩
  clear y2 y3 y4 y5 y6 y7 y8 y9 y10 y11 y12 y13 y14
  have HB2 := hid (HB1.out.trans (hb.mono HB1.out.size))
  have HK2 := hid (HK1.out.below hb)
  clear hb
  clear HN
  have y2 := HK2.out.g2
  have y3 := HK2.out.g3
  have y4 := HK2.out.g4
  have y5 := HK2.out.g5
  have y6 := HK2.out.g6
  have y7 := HK2.out.g7
  have y8 := HK2.out.g8
  have y9 := HK2.out.g9
  have y10 := HK2.out.g10
  have y11 := HK2.out.g11
  have y12 := HK2.out.g12
  have y13 := HK2.out.g13
  have y14 := HK2.out.g14
  cases nc : nameC e.coll
  case false =>
   have HE : Hid (r = false) := hid (by rw [HR.out]; simp [nc])
   go_wp2_with fail
   go_ret
   exact ⟨by rw [HE.out]; rfl, HB2.out⟩
  have Hnc := hid nc
  clear nc
  go_wp2_with fail
  refine (HH2.out _).mono ?_
  rintro q u ⟨rfl, hw⟩
  replace hw := hw.symm
  subst hw
  go_wp2_with fail
  refine (HH3.out _).mono ?_
  rintro q u ⟨rfl, hw⟩
  replace hw := hw.symm
  subst hw
  have HN := hid (check_any S e.id _ w2 (fun b hb => Nat.lt_of_lt_of_le (HS.out b hb) HB2.out.size) ((HA.out.below HS.out HB2.out)).id HD.out.idd)
  go_wp2_with fail
  refine HN.out.mono ?_
  rintro q w3 ⟨rfl, hb⟩
  clear y2 y3 y4 y5 y6 y7 y8 y9 y10 y11 y12 y13 y14
  have HB3 := hid (HB2.out.trans (hb.mono HB2.out.size))
  have HK3 := hid (HK2.out.below hb)
  clear hb
  clear HN
  have y2 := HK3.out.g2
  have y3 := HK3.out.g3
  have y4 := HK3.out.g4
  have y5 := HK3.out.g5
  have y6 := HK3.out.g6
  have y7 := HK3.out.g7
  have y8 := HK3.out.g8
  have y9 := HK3.out.g9
  have y10 := HK3.out.g10
  have y11 := HK3.out.g11
  have y12 := HK3.out.g12
  have y13 := HK3.out.g13
  have y14 := HK3.out.g14
  obtain ⟨x, hx⟩ : ∃ x, x = checkT e.id := ⟨_, rfl⟩
  have HX := hid hx
  rw [← hx] at HR ⊢
  clear hx
  by_cases hx0 : x = 0
  case neg =>
   have e1 : (x == 0) = false := beq_false_of_ne hx0
   have HE : Hid (r = false) := hid (by rw [HR.out]; simp [hx0])
   go_wp2_with fail
   go_ret
   exact ⟨by rw [HE.out]; rfl, HB3.out⟩
  subst hx0
  go_wp2_with fail
  refine (HH4.out _).mono ?_
  rintro q u ⟨rfl, hw⟩
  replace hw := hw.symm
  subst hw
  have HN := hid (eholds_any S e.doc e.id _ _ w3 (fun b hb => Nat.lt_of_lt_of_le (HS.out b hb) HB3.out.size) ((HA.out.below HS.out HB3.out)).doc ((HA.out.below HS.out HB3.out)).id HD.out.docd HD.out.idd (check_may HX.out.symm))
  go_wp2_with fail
  refine HN.out.mono ?_
  rintro q w4 ⟨rfl, hb⟩
  clear y2 y3 y4 y5 y6 y7 y8 y9 y10 y11 y12 y13 y14
  have HB4 := hid (HB3.out.trans (hb.mono HB3.out.size))
  have HK4 := hid (HK3.out.below hb)
  clear hb
  clear HN
  have y2 := HK4.out.g2
  have y3 := HK4.out.g3
  have y4 := HK4.out.g4
  have y5 := HK4.out.g5
  have y6 := HK4.out.g6
  have y7 := HK4.out.g7
  have y8 := HK4.out.g8
  have y9 := HK4.out.g9
  have y10 := HK4.out.g10
  have y11 := HK4.out.g11
  have y12 := HK4.out.g12
  have y13 := HK4.out.g13
  have y14 := HK4.out.g14
  cases nh : holdE e.doc e.id
  case false =>
   have HE : Hid (r = false) := hid (by rw [HR.out]; simp [nh])
   go_wp2_with fail
   go_ret
   exact ⟨by rw [HE.out]; rfl, HB4.out⟩
  have Hnh := hid nh
  clear nh
  go_wp2_with fail
  refine (HH5.out _).mono ?_
  rintro q u ⟨rfl, hw⟩
  replace hw := hw.symm
  subst hw
  have HE : Hid (r = true) := hid (by rw [HR.out]; simp only [Hnc.out, decide_true, Hnh.out, Bool.not_true, Bool.not_false, Bool.true_or, Bool.false_or, decide_true, Bool.and_true, Bool.and_self])
  go_wp2_with fail
  go_ret
  exact ⟨by rw [HE.out]; rfl, HB4.out⟩
 ·go_enter Tryz.func47, Tryz.ntmps47
  go_wp2_with fail
  rw [← hw1]
  clear hw1
  refine (HH1.out _).mono ?_
  rintro q u ⟨rfl, hw⟩
  replace hw := hw.symm
  subst hw
  have y2 := HK1.out.g2
  have y3 := HK1.out.g3
  have y4 := HK1.out.g4
  have y5 := HK1.out.g5
  have y6 := HK1.out.g6
  have y7 := HK1.out.g7
  have y8 := HK1.out.g8
  have y9 := HK1.out.g9
  have y10 := HK1.out.g10
  have y11 := HK1.out.g11
  have y12 := HK1.out.g12
  have y13 := HK1.out.g13
  have y14 := HK1.out.g14
  have HN := hid (ename_any e.coll w1)
  go_wp2_with fail
  refine HN.out.mono ?_
  rintro q w2 ⟨rfl, hb⟩
  clear y2 y3 y4 y5 y6 y7 y8 y9 y10 y11 y12 y13 y14
  have HB2 := hid (HB1.out.trans (hb.mono HB1.out.size))
  have HK2 := hid (HK1.out.below hb)
  clear hb
  clear HN
  have y2 := HK2.out.g2
  have y3 := HK2.out.g3
  have y4 := HK2.out.g4
  have y5 := HK2.out.g5
  have y6 := HK2.out.g6
  have y7 := HK2.out.g7
  have y8 := HK2.out.g8
  have y9 := HK2.out.g9
  have y10 := HK2.out.g10
  have y11 := HK2.out.g11
  have y12 := HK2.out.g12
  have y13 := HK2.out.g13
  have y14 := HK2.out.g14
  cases nc : nameC e.coll
  case false =>
   have HE : Hid (r = false) := hid (by rw [HR.out]; simp [nc])
   go_wp2_with fail
   go_ret
   exact ⟨by rw [HE.out]; rfl, HB2.out⟩
  have Hnc := hid nc
  clear nc
  go_wp2_with fail
  refine (HH2.out _).mono ?_
  rintro q u ⟨rfl, hw⟩
  replace hw := hw.symm
  subst hw
  go_wp2_with fail
  refine (HH3.out _).mono ?_
  rintro q u ⟨rfl, hw⟩
  replace hw := hw.symm
  subst hw
  have HN := hid (check_any S e.id _ w2 (fun b hb => Nat.lt_of_lt_of_le (HS.out b hb) HB2.out.size) ((HA.out.below HS.out HB2.out)).id HD.out.idd)
  go_wp2_with fail
  refine HN.out.mono ?_
  rintro q w3 ⟨rfl, hb⟩
  clear y2 y3 y4 y5 y6 y7 y8 y9 y10 y11 y12 y13 y14
  have HB3 := hid (HB2.out.trans (hb.mono HB2.out.size))
  have HK3 := hid (HK2.out.below hb)
  clear hb
  clear HN
  have y2 := HK3.out.g2
  have y3 := HK3.out.g3
  have y4 := HK3.out.g4
  have y5 := HK3.out.g5
  have y6 := HK3.out.g6
  have y7 := HK3.out.g7
  have y8 := HK3.out.g8
  have y9 := HK3.out.g9
  have y10 := HK3.out.g10
  have y11 := HK3.out.g11
  have y12 := HK3.out.g12
  have y13 := HK3.out.g13
  have y14 := HK3.out.g14
  obtain ⟨x, hx⟩ : ∃ x, x = checkT e.id := ⟨_, rfl⟩
  have HX := hid hx
  rw [← hx] at HR ⊢
  clear hx
  by_cases hx0 : x = 0
  case neg =>
   have e1 : (x == 0) = false := beq_false_of_ne hx0
   have HE : Hid (r = false) := hid (by rw [HR.out]; simp [hx0])
   go_wp2_with fail
   go_ret
   exact ⟨by rw [HE.out]; rfl, HB3.out⟩
  subst hx0
  go_wp2_with fail
  refine (HH4.out _).mono ?_
  rintro q u ⟨rfl, hw⟩
  replace hw := hw.symm
  subst hw
  go_wp2_with fail
  refine (HH5.out _).mono ?_
  rintro q u ⟨rfl, hw⟩
  replace hw := hw.symm
  subst hw
  have HN := hid (emaydo_any S LA lc e.dels w3 (fun b hb => Nat.lt_of_lt_of_le (HS.out b hb) HB3.out.size) ((HA.out.below HS.out HB3.out)).dels HA.out.len HD.out.dels)
  go_wp2_with fail
  refine HN.out.mono ?_
  rintro q w4 ⟨rfl, hb⟩
  clear y2 y3 y4 y5 y6 y7 y8 y9 y10 y11 y12 y13 y14
  have HB4 := hid (HB3.out.trans (hb.mono HB3.out.size))
  have HK4 := hid (HK3.out.below hb)
  clear hb
  clear HN
  have y2 := HK4.out.g2
  have y3 := HK4.out.g3
  have y4 := HK4.out.g4
  have y5 := HK4.out.g5
  have y6 := HK4.out.g6
  have y7 := HK4.out.g7
  have y8 := HK4.out.g8
  have y9 := HK4.out.g9
  have y10 := HK4.out.g10
  have y11 := HK4.out.g11
  have y12 := HK4.out.g12
  have y13 := HK4.out.g13
  have y14 := HK4.out.g14
  cases nm : mayDo e.dels
  case false =>
   have HE : Hid (r = false) := hid (by rw [HR.out]; simp [nm])
   go_wp2_with fail
   go_ret
   exact ⟨by rw [HE.out]; rfl, HB4.out⟩
  have Hnm := hid nm
  clear nm
  have HE : Hid (r = true) := hid (by rw [HR.out]; simp only [Hnc.out, decide_true, Hnm.out, Bool.not_true, Bool.not_false, Bool.true_or, Bool.false_or, decide_true, Bool.and_true, Bool.and_self])
  go_wp2_with fail
  go_ret
  exact ⟨by rw [HE.out]; rfl, HB4.out⟩
 ·go_enter Tryz.func47, Tryz.ntmps47
  go_wp2_with fail
  rw [← hw1]
  clear hw1
  refine (HH1.out _).mono ?_
  rintro q u ⟨rfl, hw⟩
  replace hw := hw.symm
  subst hw
  have y2 := HK1.out.g2
  have y3 := HK1.out.g3
  have y4 := HK1.out.g4
  have y5 := HK1.out.g5
  have y6 := HK1.out.g6
  have y7 := HK1.out.g7
  have y8 := HK1.out.g8
  have y9 := HK1.out.g9
  have y10 := HK1.out.g10
  have y11 := HK1.out.g11
  have y12 := HK1.out.g12
  have y13 := HK1.out.g13
  have y14 := HK1.out.g14
  have HN := hid (ename_any e.coll w1)
  go_wp2_with fail
  refine HN.out.mono ?_
  rintro q w2 ⟨rfl, hb⟩
  clear y2 y3 y4 y5 y6 y7 y8 y9 y10 y11 y12 y13 y14
  have HB2 := hid (HB1.out.trans (hb.mono HB1.out.size))
  have HK2 := hid (HK1.out.below hb)
  clear hb
  clear HN
  have y2 := HK2.out.g2
  have y3 := HK2.out.g3
  have y4 := HK2.out.g4
  have y5 := HK2.out.g5
  have y6 := HK2.out.g6
  have y7 := HK2.out.g7
  have y8 := HK2.out.g8
  have y9 := HK2.out.g9
  have y10 := HK2.out.g10
  have y11 := HK2.out.g11
  have y12 := HK2.out.g12
  have y13 := HK2.out.g13
  have y14 := HK2.out.g14
  cases nc : nameC e.coll
  case false =>
   have HE : Hid (r = false) := hid (by rw [HR.out]; simp [nc])
   go_wp2_with fail
   go_ret
   exact ⟨by rw [HE.out]; rfl, HB2.out⟩
  have Hnc := hid nc
  clear nc
  go_wp2_with fail
  refine (HH2.out _).mono ?_
  rintro q u ⟨rfl, hw⟩
  replace hw := hw.symm
  subst hw
  go_wp2_with fail
  refine (HH3.out _).mono ?_
  rintro q u ⟨rfl, hw⟩
  replace hw := hw.symm
  subst hw
  have HN := hid (check_any S e.id _ w2 (fun b hb => Nat.lt_of_lt_of_le (HS.out b hb) HB2.out.size) ((HA.out.below HS.out HB2.out)).id HD.out.idd)
  go_wp2_with fail
  refine HN.out.mono ?_
  rintro q w3 ⟨rfl, hb⟩
  clear y2 y3 y4 y5 y6 y7 y8 y9 y10 y11 y12 y13 y14
  have HB3 := hid (HB2.out.trans (hb.mono HB2.out.size))
  have HK3 := hid (HK2.out.below hb)
  clear hb
  clear HN
  have y2 := HK3.out.g2
  have y3 := HK3.out.g3
  have y4 := HK3.out.g4
  have y5 := HK3.out.g5
  have y6 := HK3.out.g6
  have y7 := HK3.out.g7
  have y8 := HK3.out.g8
  have y9 := HK3.out.g9
  have y10 := HK3.out.g10
  have y11 := HK3.out.g11
  have y12 := HK3.out.g12
  have y13 := HK3.out.g13
  have y14 := HK3.out.g14
  obtain ⟨x, hx⟩ : ∃ x, x = checkT e.id := ⟨_, rfl⟩
  have HX := hid hx
  rw [← hx] at HR ⊢
  clear hx
  by_cases hx0 : x = 0
  case neg =>
   have e1 : (x == 0) = false := beq_false_of_ne hx0
   have HE : Hid (r = false) := hid (by rw [HR.out]; simp [hx0])
   go_wp2_with fail
   go_ret
   exact ⟨by rw [HE.out]; rfl, HB3.out⟩
  subst hx0
  go_wp2_with fail
  refine (HH4.out _).mono ?_
  rintro q u ⟨rfl, hw⟩
  replace hw := hw.symm
  subst hw
  go_wp2_with fail
  refine (HH5.out _).mono ?_
  rintro q u ⟨rfl, hw⟩
  replace hw := hw.symm
  subst hw
  have HE : Hid (r = true) := hid (by rw [HR.out]; simp only [Hnc.out, decide_true, Bool.not_true, Bool.not_false, Bool.true_or, Bool.false_or, decide_true, Bool.and_true, Bool.and_self])
  go_wp2_with fail
  go_ret
  exact ⟨by rw [HE.out]; rfl, HB3.out⟩
 ·go_enter Tryz.func47, Tryz.ntmps47
  go_wp2_with fail
  rw [← hw1]
  clear hw1
  refine (HH1.out _).mono ?_
  rintro q u ⟨rfl, hw⟩
  replace hw := hw.symm
  subst hw
  have y2 := HK1.out.g2
  have y3 := HK1.out.g3
  have y4 := HK1.out.g4
  have y5 := HK1.out.g5
  have y6 := HK1.out.g6
  have y7 := HK1.out.g7
  have y8 := HK1.out.g8
  have y9 := HK1.out.g9
  have y10 := HK1.out.g10
  have y11 := HK1.out.g11
  have y12 := HK1.out.g12
  have y13 := HK1.out.g13
  have y14 := HK1.out.g14
  have HN := hid (ename_any e.coll w1)
  go_wp2_with fail
  refine HN.out.mono ?_
  rintro q w2 ⟨rfl, hb⟩
  clear y2 y3 y4 y5 y6 y7 y8 y9 y10 y11 y12 y13 y14
  have HB2 := hid (HB1.out.trans (hb.mono HB1.out.size))
  have HK2 := hid (HK1.out.below hb)
  clear hb
  clear HN
  have y2 := HK2.out.g2
  have y3 := HK2.out.g3
  have y4 := HK2.out.g4
  have y5 := HK2.out.g5
  have y6 := HK2.out.g6
  have y7 := HK2.out.g7
  have y8 := HK2.out.g8
  have y9 := HK2.out.g9
  have y10 := HK2.out.g10
  have y11 := HK2.out.g11
  have y12 := HK2.out.g12
  have y13 := HK2.out.g13
  have y14 := HK2.out.g14
  cases nc : nameC e.coll
  case false =>
   have HE : Hid (r = false) := hid (by rw [HR.out]; simp [nc])
   go_wp2_with fail
   go_ret
   exact ⟨by rw [HE.out]; rfl, HB2.out⟩
  have Hnc := hid nc
  clear nc
  go_wp2_with fail
  refine (HH2.out _).mono ?_
  rintro q u ⟨rfl, hw⟩
  replace hw := hw.symm
  subst hw
  go_wp2_with fail
  refine (HH3.out _).mono ?_
  rintro q u ⟨rfl, hw⟩
  replace hw := hw.symm
  subst hw
  go_wp2_with fail
  refine (HH4.out _).mono ?_
  rintro q u ⟨rfl, hw⟩
  replace hw := hw.symm
  subst hw
  go_wp2_with fail
  refine (HH5.out _).mono ?_
  rintro q u ⟨rfl, hw⟩
  replace hw := hw.symm
  subst hw
  have HE : Hid (r = true) := hid (by rw [HR.out]; simp only [Hnc.out, Bool.not_true, Bool.not_false, Bool.true_or, Bool.false_or, decide_true, Bool.and_true, Bool.and_self])
  go_wp2_with fail
  go_ret
  exact ⟨by rw [HE.out]; rfl, HB2.out⟩
 ·go_enter Tryz.func47, Tryz.ntmps47
  go_wp2_with fail
  rw [← hw1]
  clear hw1
  refine (HH1.out _).mono ?_
  rintro q u ⟨rfl, hw⟩
  replace hw := hw.symm
  subst hw
  have y2 := HK1.out.g2
  have y3 := HK1.out.g3
  have y4 := HK1.out.g4
  have y5 := HK1.out.g5
  have y6 := HK1.out.g6
  have y7 := HK1.out.g7
  have y8 := HK1.out.g8
  have y9 := HK1.out.g9
  have y10 := HK1.out.g10
  have y11 := HK1.out.g11
  have y12 := HK1.out.g12
  have y13 := HK1.out.g13
  have y14 := HK1.out.g14
  have HN := hid (ename_any e.coll w1)
  go_wp2_with fail
  refine HN.out.mono ?_
  rintro q w2 ⟨rfl, hb⟩
  clear y2 y3 y4 y5 y6 y7 y8 y9 y10 y11 y12 y13 y14
  have HB2 := hid (HB1.out.trans (hb.mono HB1.out.size))
  have HK2 := hid (HK1.out.below hb)
  clear hb
  clear HN
  have y2 := HK2.out.g2
  have y3 := HK2.out.g3
  have y4 := HK2.out.g4
  have y5 := HK2.out.g5
  have y6 := HK2.out.g6
  have y7 := HK2.out.g7
  have y8 := HK2.out.g8
  have y9 := HK2.out.g9
  have y10 := HK2.out.g10
  have y11 := HK2.out.g11
  have y12 := HK2.out.g12
  have y13 := HK2.out.g13
  have y14 := HK2.out.g14
  cases nc : nameC e.coll
  case false =>
   have HE : Hid (r = false) := hid (by rw [HR.out]; simp [nc])
   go_wp2_with fail
   go_ret
   exact ⟨by rw [HE.out]; rfl, HB2.out⟩
  have Hnc := hid nc
  clear nc
  go_wp2_with fail
  refine (HH2.out _).mono ?_
  rintro q u ⟨rfl, hw⟩
  replace hw := hw.symm
  subst hw
  have HN := hid (ename_any e.to w2)
  go_wp2_with fail
  refine HN.out.mono ?_
  rintro q w3 ⟨rfl, hb⟩
  clear y2 y3 y4 y5 y6 y7 y8 y9 y10 y11 y12 y13 y14
  have HB3 := hid (HB2.out.trans (hb.mono HB2.out.size))
  have HK3 := hid (HK2.out.below hb)
  clear hb
  clear HN
  have y2 := HK3.out.g2
  have y3 := HK3.out.g3
  have y4 := HK3.out.g4
  have y5 := HK3.out.g5
  have y6 := HK3.out.g6
  have y7 := HK3.out.g7
  have y8 := HK3.out.g8
  have y9 := HK3.out.g9
  have y10 := HK3.out.g10
  have y11 := HK3.out.g11
  have y12 := HK3.out.g12
  have y13 := HK3.out.g13
  have y14 := HK3.out.g14
  cases nt : nameC e.to
  case false =>
   have HE : Hid (r = false) := hid (by rw [HR.out]; simp [nt])
   go_wp2_with fail
   go_ret
   exact ⟨by rw [HE.out]; rfl, HB3.out⟩
  have Hnt := hid nt
  clear nt
  by_cases hne : e.to = e.coll
  case pos =>
   have e1 : (e.to.toList == e.coll.toList) = true := by rw [str_beq]; exact decide_eq_true hne
   have e2 : (e.to.toList != e.coll.toList) = false := by rw [bne, e1]; rfl
   have e3 : e.to.toList = e.coll.toList := by rw [hne]
   have HNE := hid hne
   clear hne
   have HE : Hid (r = false) := hid (by rw [HR.out]; simp [HNE.out])
   go_wp2_with fail
   go_ret
   exact ⟨by rw [HE.out]; rfl, HB3.out⟩
  have e1 : (e.to.toList == e.coll.toList) = false := by rw [str_beq]; exact decide_eq_false hne
  have e2 : (e.to.toList != e.coll.toList) = true := by rw [bne, e1]; rfl
  have HNE := hid (decide_eq_true (p := e.to ≠ e.coll) hne)
  clear hne
  go_wp2_with fail
  refine (HH3.out _).mono ?_
  rintro q u ⟨rfl, hw⟩
  replace hw := hw.symm
  subst hw
  go_wp2_with fail
  refine (HH4.out _).mono ?_
  rintro q u ⟨rfl, hw⟩
  replace hw := hw.symm
  subst hw
  go_wp2_with fail
  refine (HH5.out _).mono ?_
  rintro q u ⟨rfl, hw⟩
  replace hw := hw.symm
  subst hw
  have HE : Hid (r = true) := hid (by rw [HR.out]; simp only [Hnc.out, Hnt.out, HNE.out, Bool.not_true, Bool.not_false, Bool.true_or, Bool.false_or, decide_true, Bool.and_true, Bool.and_self])
  go_wp2_with fail
  go_ret
  exact ⟨by rw [HE.out]; rfl, HB3.out⟩
def bareE (e : EntT) : Bool := ((hasColl e.kind || decide (e.coll.size = 0)) && (hasTo e.kind || decide (e.to.size = 0)) && (hasId e.kind || noneT e.id) && (hasDoc e.kind || noneT e.doc) && (hasDels e.kind || decide (e.dels.length = 0)))
def rightE (e : EntT) : Bool := ((!hasColl e.kind || nameC e.coll) && (!hasTo e.kind || (nameC e.to && decide (e.to ≠ e.coll))) && (!hasId e.kind || decide (checkT e.id = 0)) && (!hasDoc e.kind || holdE e.doc e.id) && (!hasDels e.kind || mayDo e.dels))
theorem has_combo (k : Int) : (hasColl k = false ∧ hasTo k = false ∧ hasId k = false ∧ hasDoc k = false ∧ hasDels k = false) ∨ (hasColl k = true ∧ hasTo k = false ∧ hasId k = true ∧ hasDoc k = true ∧ hasDels k = false) ∨ (hasColl k = true ∧ hasTo k = false ∧ hasId k = true ∧ hasDoc k = false ∧ hasDels k = true) ∨ (hasColl k = true ∧ hasTo k = false ∧ hasId k = true ∧ hasDoc k = false ∧ hasDels k = false) ∨ (hasColl k = true ∧ hasTo k = false ∧ hasId k = false ∧ hasDoc k = false ∧ hasDels k = false) ∨ (hasColl k = true ∧ hasTo k = true ∧ hasId k = false ∧ hasDoc k = false ∧ hasDels k = false) := by
 by_cases hk : 2 ≤ k ∧ k ≤ 7
 ·rcases kinds_of (by omega) hk.2 with rfl | rfl | rfl | rfl | rfl | rfl | rfl
  ·omega
  all_goals decide
 ·left
  refine ⟨?_, ?_, ?_, ?_, ?_⟩
  ·unfold hasColl
   by_cases h2 : 2 ≤ k
   ·rw [decide_eq_true h2, decide_eq_false (by omega)]; rfl
   ·rw [decide_eq_false h2]; rfl
  ·unfold hasTo; exact decide_eq_false (by omega)
  ·unfold hasId
   by_cases h2 : 2 ≤ k
   ·rw [decide_eq_true h2, decide_eq_false (by omega)]; rfl
   ·rw [decide_eq_false h2]; rfl
  ·unfold hasDoc; exact decide_eq_false (by omega)
  ·unfold hasDels; exact decide_eq_false (by omega)
theorem nameC_pos {s : ByteArray} (h : nameC s = true) : ¬ s.size = 0 := by have := (nameC_len h).1; omega
theorem mayE_parts (e : EntT) : mayE e = (knownE e.kind && numE e && bareE e && rightE e) := by
 rw [Bool.eq_iff_iff, mayE_iff]
 unfold knownE numE bareE rightE
 constructor
 ·intro h
  have hn : (if e.kind = 1 then decide (e.session = 0) && decide (e.number = 0) else true) = true := by
   split
   ·next hk => simp [h.noop hk]
   ·rfl
  obtain ⟨h1, h2, h3, h4, h5, h6, h7, h8, hc, ht, hi, hd, hl, -⟩ := h
  rw [hn]
  rcases has_combo e.kind with ⟨c1, c2, c3, c4, c5⟩ | ⟨c1, c2, c3, c4, c5⟩ | ⟨c1, c2, c3, c4, c5⟩ | ⟨c1, c2, c3, c4, c5⟩ | ⟨c1, c2, c3, c4, c5⟩ | ⟨c1, c2, c3, c4, c5⟩ <;>
   (rw [c1] at hc; rw [c2] at ht; rw [c3] at hi; rw [c4] at hd; rw [c5] at hl; simp [c1, c2, c3, c4, c5] at *; simp [*])
 ·intro h
  simp only [Bool.and_eq_true, decide_eq_true_eq] at h
  obtain ⟨⟨⟨⟨k1, k7⟩, hn, ⟨⟨t0, t1⟩, s0, s1⟩, n0, n1⟩, ⟨⟨⟨b1, b2⟩, b3⟩, b4⟩, b5⟩, ⟨⟨⟨r1, r2⟩, r3⟩, r4⟩, r5⟩ := h
  refine ⟨k1, k7, t0, t1, s0, s1, n0, n1, ?_, ?_, ?_, ?_, ?_, fun hk => ?_⟩
  ·cases hc : hasColl e.kind <;> simp [hc] at b1 r1 ⊢ <;> assumption
  ·cases hc : hasTo e.kind <;> simp [hc] at b2 r2 ⊢ <;> assumption
  ·cases hc : hasId e.kind <;> simp [hc] at b3 r3 ⊢ <;> assumption
  ·cases hc : hasDoc e.kind <;> simp [hc] at b4 r4 ⊢ <;> assumption
  ·cases hc : hasDels e.kind <;> simp [hc] at b5 r5 ⊢ <;> assumption
  ·rw [if_pos hk] at hn
   simpa using hn
theorem ebare_any (S : Nat → Prop) (e : EntT) (IA : Option Addr) (ic : Nat) (IA' : Option Addr) (ic' : Nat) (DA : Option Addr) (dc : Nat) (DA' : Option Addr) (dc' : Nat) (LA : Option Addr) (lc : Nat) (w : World) (hS : ∀ b, S b → b < w.heap.size) (h : EntAt w S e IA ic IA' ic' DA dc DA' dc' LA lc) :
  Calls Tryz.prog 46 #[.int .i64 (flagsE e.kind), .agg #[.int .i64 e.term, .int .i64 e.kind, .string e.coll, .string e.to, .int .i64 e.id.kind, .int .i64 e.id.num, .string e.id.text, .slice IA e.id.items.length ic, .slice IA' e.id.names.length ic', .int .i64 e.doc.kind, .int .i64 e.doc.num, .string e.doc.text, .slice DA e.doc.items.length dc, .slice DA' e.doc.names.length dc', .slice LA e.dels.length lc, .int .i64 e.session, .int .i64 e.number]] w fun r w' => r = .returned (.bool (bareE e)) ∧ Below w.heap.size w w' :=
 ebare_bits _ _ _ _ _ (flagsE e.kind) (ehas_coll e.kind) (ehas_to e.kind) (ehas_id e.kind) (ehas_doc e.kind) (ehas_dels e.kind) (has_combo e.kind) S e IA ic IA' ic' DA dc DA' dc' LA lc w hS h
theorem eright_any (S : Nat → Prop) (e : EntT) (IA : Option Addr) (ic : Nat) (IA' : Option Addr) (ic' : Nat) (DA : Option Addr) (dc : Nat) (DA' : Option Addr) (dc' : Nat) (LA : Option Addr) (lc : Nat) (w : World) (hS : ∀ b, S b → b < w.heap.size) (h : EntAt w S e IA ic IA' ic' DA dc DA' dc' LA lc) (hd : SmE e) :
  Calls Tryz.prog 47 #[.int .i64 (flagsE e.kind), .agg #[.int .i64 e.term, .int .i64 e.kind, .string e.coll, .string e.to, .int .i64 e.id.kind, .int .i64 e.id.num, .string e.id.text, .slice IA e.id.items.length ic, .slice IA' e.id.names.length ic', .int .i64 e.doc.kind, .int .i64 e.doc.num, .string e.doc.text, .slice DA e.doc.items.length dc, .slice DA' e.doc.names.length dc', .slice LA e.dels.length lc, .int .i64 e.session, .int .i64 e.number]] w fun r w' => r = .returned (.bool (rightE e)) ∧ Below w.heap.size w w' :=
 eright_bits _ _ _ _ _ (flagsE e.kind) (ehas_coll e.kind) (ehas_to e.kind) (ehas_id e.kind) (ehas_doc e.kind) (ehas_dels e.kind) (has_combo e.kind) S e IA ic IA' ic' DA dc DA' dc' LA lc w hS h hd
set_option maxHeartbeats 8000000 in
theorem emay_any (S : Nat → Prop) (e : EntT) (cs : Array Value) (w : World) (hS : ∀ b, S b → b < w.heap.size) (h : EntL w S e cs) (hd : SmE e) :
  Calls Tryz.prog 14 #[.agg cs] w fun r w' => r = .returned (.bool (mayE e)) ∧ Below w.heap.size w w' := by
 obtain ⟨IA, ic, IA', ic', DA, dc, DA', dc', LA, lc, rfl, hat⟩ := h.at
 obtain ⟨w1, hw1⟩ : ∃ W, W = w.alloc (.cells #[.int .i64 e.term, .int .i64 e.kind, .string e.coll, .string e.to, .int .i64 e.id.kind, .int .i64 e.id.num, .string e.id.text, .slice IA e.id.items.length ic, .slice IA' e.id.names.length ic', .int .i64 e.doc.kind, .int .i64 e.doc.num, .string e.doc.text, .slice DA e.doc.items.length dc, .slice DA' e.doc.names.length dc', .slice LA e.dels.length lc, .int .i64 e.session, .int .i64 e.number] 28) := ⟨_, rfl⟩
 have hbk : EBox w1 w.heap.size e IA ic IA' ic' DA dc DA' dc' LA lc := by rw [hw1]; exact heap_alloc_new w _
 have hb1 : Below w.heap.size w w1 := by rw [hw1]; exact below_box _
 obtain ⟨r, hr⟩ : ∃ r, r = mayE e := ⟨_, rfl⟩
 have HR := hid (hr.trans (mayE_parts e))
 rw [← hr]
 have HB1 := hid hb1
 have HK1 := hid hbk
 have HS := hid hS
 have HA := hid hat
 have HD := hid hd
 clear hr hb1 hbk hS h hat hd
 go_enter Tryz.func14, Tryz.ntmps14
 go_wp2_with fail
 rw [← hw1]
 clear hw1
 have y1 := HK1.out.g1
 refine (efields_any e.kind w1).mono ?_
 rintro q u ⟨rfl, hw⟩
 replace hw := hw.symm
 subst hw
 have y1 := HK1.out.g1
 cases hkn : knownE e.kind
 case false =>
  have HE : Hid (r = false) := hid (by rw [HR.out, hkn]; rfl)
  go_wp2_with fail
  go_ret
  exact ⟨by rw [HE.out]; rfl, HB1.out⟩
 have HKN := hid hkn
 clear hkn
 have HN := hid (enumbered_any e IA ic IA' ic' DA dc DA' dc' LA lc w1)
 go_wp2_with (refine wpList_load_ent (by rfl) _ rfl w.heap.size rfl _ _ HK1.out rfl ?_; simp only [acR, Act.put])
 refine HN.out.mono ?_
 rintro q w2 ⟨rfl, hb⟩
 have HB2 := hid (HB1.out.trans (hb.mono HB1.out.size))
 have HK2 := hid (HK1.out.below hb)
 clear HN hb
 cases hnn : numE e
 case false =>
  have HE : Hid (r = false) := hid (by rw [HR.out, hnn]; simp)
  go_wp2_with fail
  go_ret
  exact ⟨by rw [HE.out]; rfl, HB2.out⟩
 have HNN := hid hnn
 clear hnn
 have HN := hid (ebare_any S e IA ic IA' ic' DA dc DA' dc' LA lc w2 (fun b hb => Nat.lt_of_lt_of_le (HS.out b hb) HB2.out.size) (HA.out.below HS.out HB2.out))
 go_wp2_with (refine wpList_load_ent (by rfl) _ rfl w.heap.size rfl _ _ HK2.out rfl ?_; simp only [acR, Act.put])
 refine HN.out.mono ?_
 rintro q w3 ⟨rfl, hb⟩
 have HB3 := hid (HB2.out.trans (hb.mono HB2.out.size))
 have HK3 := hid (HK2.out.below hb)
 clear HN hb
 obtain ⟨x, hx⟩ : ∃ x, x = bareE e := ⟨_, rfl⟩
 rw [← hx]
 cases x
 case false =>
  have HE : Hid (r = false) := hid (by rw [HR.out, ← hx]; simp)
  clear hx
  go_wp2_with fail
  go_ret
  exact ⟨by rw [HE.out]; rfl, HB3.out⟩
 have HX := hid hx
 clear hx
 have HN := hid (eright_any S e IA ic IA' ic' DA dc DA' dc' LA lc w3 (fun b hb => Nat.lt_of_lt_of_le (HS.out b hb) HB3.out.size) (HA.out.below HS.out HB3.out) HD.out)
 go_wp2_with (refine wpList_load_ent (by rfl) _ rfl w.heap.size rfl _ _ HK3.out rfl ?_; simp only [acR, Act.put])
 refine HN.out.mono ?_
 rintro q w4 ⟨rfl, hb⟩
 have HB4 := hid (HB3.out.trans (hb.mono HB3.out.size))
 clear HN hb
 obtain ⟨z, hz⟩ : ∃ z, z = rightE e := ⟨_, rfl⟩
 rw [← hz]
 have HE : Hid (r = z) := hid (by rw [HR.out, HKN.out, HNN.out, ← HX.out, ← hz]; rfl)
 clear hz
 go_wp2_with fail
 go_ret
 exact ⟨by rw [HE.out]; rfl, HB4.out⟩
set_option maxHeartbeats 4000000 in
theorem r6check_we (S : Nat → Prop) (A : Option Addr) (c : Nat) (l : List DelT) (w : World) (hS : ∀ b, S b → b < w.heap.size) (h : DelsL w S A l) (hn : l.length ≤ 140737488351232) (hd : l.length ≤ 64 → SmallD l) :
  Calls Tryz.prog 89 #[.slice A l.length c] w fun e w' => e = .returned (.int .i64 (checkD l)) ∧ Below w.heap.size w w' := by
 by_cases h64 : 64 < l.length
 ·have hr : checkD l = 3 := by unfold checkD; rw [if_pos h64]
  rw [hr]
  have d1 : decide ((l.length : Int) > 64) = true := decide_eq_true (by omega)
  clear h hS hd hr
  go_enter Tryz.func89, Tryz.ntmps89
  go_wp2_with fail
  go_ret
  exact ⟨rfl, Below.refl _ _⟩
 ·exact r6check_any S A c l w hS h hn (hd (by omega))
set_option maxHeartbeats 8000000 in
theorem r13deltas_any (S : Nat → Prop) (A : Option Addr) (c : Nat) (l : List DelT) (w : World) (hS : ∀ b, S b → b < w.heap.size) (h : DelsL w S A l) (hn : l.length ≤ 1172812402961) (hd : l.length ≤ 64 → SmallD l ∧ SmallZD l) :
  Calls Tryz.prog 52 #[.slice A l.length c] w fun e w' => e = .returned (.bool (mayDo l)) ∧ Below w.heap.size w w' := by
 have HL := hid h
 have HS := hid hS
 have HN := hid hn
 have HC := hid (r6check_we S A c l w hS h (by omega) (fun h => (hd h).1))
 obtain ⟨r, hr⟩ : ∃ r, r = mayDo l := ⟨_, rfl⟩
 have HR : Hid (r = (decide (checkD l = 0) && freeD l && !touchD l [idN])) := hid hr
 rw [← hr]
 obtain ⟨x, hx⟩ : ∃ x, x = checkD l := ⟨_, rfl⟩
 have HX := hid hx
 rw [← hx] at HC HR
 clear hr hx h hS hn hd
 go_enter Tryz.func52, Tryz.ntmps52
 go_wp2_with fail
 refine HC.out.mono ?_
 rintro e w1 ⟨rfl, hb⟩
 have HB := hid hb
 clear hb HC
 by_cases h0 : x = 0
 case neg =>
  have HE : Hid (r = false) := hid (by rw [HR.out, decide_eq_false h0]; rfl)
  have h1 : (x == 0) = false := beq_false_of_ne h0
  have h2 : (x != 0) = true := by simp [h0]
  go_wp2_with fail
  go_ret
  exact ⟨by rw [HE.out]; rfl, HB.out⟩
 subst h0
 obtain ⟨h64, hm⟩ := checkD_zero HX.out.symm
 have HF := hid (r6free_any S A c l w1 (fun b hb => Nat.lt_of_lt_of_le (HS.out b hb) HB.out.size) (HL.out.below HS.out HB.out) (by omega))
 have HT := hid (touch_head (l := l) fun d hd => mayD_path (hm d hd))
 have HM := hid hm
 clear hm
 cases hf : freeD l
 case false =>
  have HE : Hid (r = false) := hid (by rw [HR.out, hf, Bool.and_false]; rfl)
  rw [hf] at HF
  go_wp2_with fail
  refine HF.out.mono ?_
  rintro e w2 ⟨rfl, hb⟩
  have HB2 := hid (HB.out.trans (hb.mono HB.out.size))
  clear hb HF
  go_wp2_with fail
  go_ret
  exact ⟨by rw [HE.out]; rfl, HB2.out⟩
 rw [hf] at HF HR
 go_wp2_with fail
 refine HF.out.mono ?_
 rintro e w2 ⟨rfl, hb⟩
 have HB2 := hid (HB.out.trans (hb.mono HB.out.size))
 clear hb HF hf
 have HL2 := hid (HL.out.below HS.out HB2.out)
 have HR2 : Hid (r = !(l.any fun d => decide (d.path.head? = some idN))) := hid (by rw [HR.out, HT.out]; simp)
 go_wp2_with fail
 go_loopw [3] (fun i wr => ∃ k : Nat, i = .int .i64 k ∧ k ≤ l.length ∧ wr = w2 ∧ Hid (∀ j (h : j < l.length), j < k → l[j].path.head? ≠ some idN)) (fun i _ => l.length - (intOf i).toNat)
 case atStart => exact ⟨0, rfl, by omega, rfl, hid fun j _ h => absurd h (by omega)⟩
 case round =>
  obtain ⟨k, rfl, hk, hwr, HJ⟩ := hrel
  replace hwr := hwr.symm
  subst hwr
  by_cases hlt : k < l.length
  ·have d1 : decide ((k : Int) < (l.length : Int)) = true := decide_eq_true (by omega)
   obtain ⟨rb, roff, PA, pc, VA, vc, VA', vc', rfl, hrb, hdl, -, hc1, -⟩ := HL2.out.cells k hlt
   obtain ⟨PA1, pc1, VA1, vc1, VA2, vc2, he, -, hst, -⟩ := hdl
   simp only [Array.mk.injEq, List.cons.injEq, Value.slice.injEq, true_and, and_true] at he
   obtain ⟨⟨rfl, rfl⟩, -⟩ := he
   have hpos : 0 < l[k].path.length := mayP_pos (mayD_path (HM.out _ (List.getElem_mem hlt)))
   obtain ⟨sb, so, rfl, hsS, hcell⟩ := hst hpos
   have hc0 := (hcell 0 hpos).1
   rw [Nat.add_zero] at hc0
   have hhd : l[k].path.head? = some l[k].path[0] := by rw [List.head?_eq_getElem?, List.getElem?_eq_getElem hpos]
   obtain ⟨x, hx⟩ : ∃ x, x = l[k].path[0] := ⟨_, rfl⟩
   rw [← hx] at hc0 hhd
   have hposz : (0 : Int) < (l[k].path.length : Int) := by omega
   obtain ⟨m, hmm⟩ : ∃ m, m = l[k].path.length := ⟨_, rfl⟩
   rw [← hmm] at hc1 hposz
   have HH := hid hhd
   clear hcell hst hhd hx hmm
   by_cases he : x = idN
   ·have d2 : (x.toList == (⟨#[95, 105, 100]⟩ : ByteArray).toList) = true := by rw [he, str_beq]; exact decide_eq_true rfl
    have d3 : (x.toList == [95, 105, 100]) = true := idL ▸ d2
    have d4 : x.toList = [95, 105, 100] := by simpa using d3
    have HE : Hid (r = false) := hid (by
     rw [HR2.out, List.any_eq_true.2 ⟨l[k], List.getElem_mem hlt, decide_eq_true (by rw [HH.out, he])⟩]; rfl)
    clear he
    go_wp2_with fail
    go_ret
    exact ⟨by rw [HE.out]; rfl, HB2.out⟩
   ·have d2 : (x.toList == (⟨#[95, 105, 100]⟩ : ByteArray).toList) = false := by rw [str_beq]; exact decide_eq_false he
    have d3 : (x.toList == [95, 105, 100]) = false := idL ▸ d2
    have d4 : ¬ x.toList = [95, 105, 100] := by simpa using d3
    have HN2 := hid he
    clear he
    go_wp2_with fail
    go_roundw
    case rel => exact ⟨k + 1, by go_num, by omega, by first | rfl | trivial, hid fun j hj hjk => by
     by_cases e : j = k
     ·subst e
      rw [HH.out]
      exact fun h => HN2.out (by injection h)
     ·exact HJ.out j hj (by omega)⟩
    case measure => simp [intOf]; omega
  ·have d1 : decide ((k : Int) < (l.length : Int)) = false := decide_eq_false (by omega)
   have HE : Hid (r = true) := hid (by
    rw [HR2.out, List.any_eq_false.2 fun d hd => by
     obtain ⟨j, hj, rfl⟩ := List.getElem_of_mem hd
     simpa using HJ.out j hj (by omega)]
    rfl)
   go_wp2_with fail
   go_ret
   exact ⟨by rw [HE.out]; rfl, HB2.out⟩
end Go.Proofs.YtpcdngpppjdgcaaGreat
