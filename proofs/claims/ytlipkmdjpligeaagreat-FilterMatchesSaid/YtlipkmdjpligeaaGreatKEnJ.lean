/- Whether an entry may be, by the program. -/
import Derived.Test.YtlipkmdjpligeaaGreatKEnI
import Derived.Test.YtlipkmdjpligeaaGreatKDlS
import Derived.Test.YtlipkmdjpligeaaGreatKEnA
import Derived.Test.YtlipkmdjpligeaaGreatKOpenDl
import Derived.Test.YtlipkmdjpligeaaGreatKTrD
import Derived.Test.YtlipkmdjpligeaaGreatKIdx
import Derived.Test.YtlipkmdjpligeaaGreatKVr
import Derived.Test.YtlipkmdjpligeaaGreatKRefZ
import Derived.Test.YtlipkmdjpligeaaGreatKOpenS
namespace Go.Proofs.YtlipkmdjpligeaaGreat
open Lib (hid)
set_option linter.unusedVariables false
set_option linter.unusedSimpArgs false
open Go.RowKit
set_option maxRecDepth 100000
def bareE (e : EntT) : Bool := ((hasColl e.kind || decide (e.coll.size = 0)) && (hasTo e.kind || decide (e.to.size = 0)) && (hasId e.kind || noneT e.id) && (hasDoc e.kind || noneT e.doc) && (hasDels e.kind || decide (e.dels.length = 0)))
def rightE (e : EntT) : Bool := ((!hasColl e.kind || nameC e.coll) && (!hasTo e.kind || (nameC e.to && decide (e.to ≠ e.coll))) && (!hasId e.kind || decide (checkT e.id = 0)) && (!hasDoc e.kind || holdE e.doc e.id) && (!hasDels e.kind || mayDo e.dels))
theorem has_combo (k : Int) : (hasColl k = false ∧ hasTo k = false ∧ hasId k = false ∧ hasDoc k = false ∧ hasDels k = false) ∨ (hasColl k = true ∧ hasTo k = false ∧ hasId k = true ∧ hasDoc k = true ∧ hasDels k = false) ∨ (hasColl k = true ∧ hasTo k = false ∧ hasId k = true ∧ hasDoc k = false ∧ hasDels k = true) ∨ (hasColl k = true ∧ hasTo k = false ∧ hasId k = true ∧ hasDoc k = false ∧ hasDels k = false) ∨ (hasColl k = true ∧ hasTo k = false ∧ hasId k = false ∧ hasDoc k = false ∧ hasDels k = false) ∨ (hasColl k = true ∧ hasTo k = true ∧ hasId k = false ∧ hasDoc k = false ∧ hasDels k = false) := by
 by_cases hk : 2 ≤ k ∧ k ≤ 7
 ·rcases kinds_of (by omega) hk.2 with rfl | rfl | rfl | rfl | rfl | rfl | rfl
  ·omega
  all_goals decide
 ·left
  refine ⟨?_, ?_, ?_, ?_, ?_⟩
  ·unfold hasColl
   by_cases h2 : 2 ≤ k
   ·rw [decide_eq_true h2, decide_eq_false (by omega)]; rfl
   ·rw [decide_eq_false h2]; rfl
  ·unfold hasTo; exact decide_eq_false (by omega)
  ·unfold hasId
   by_cases h2 : 2 ≤ k
   ·rw [decide_eq_true h2, decide_eq_false (by omega)]; rfl
   ·rw [decide_eq_false h2]; rfl
  ·unfold hasDoc; exact decide_eq_false (by omega)
  ·unfold hasDels; exact decide_eq_false (by omega)
theorem nameC_pos {s : ByteArray} (h : nameC s = true) : ¬ s.size = 0 := by have := (nameC_len h).1; omega
theorem mayE_parts (e : EntT) : mayE e = (knownE e.kind && numE e && bareE e && rightE e) := by
 rw [Bool.eq_iff_iff, mayE_iff]
 unfold knownE numE bareE rightE
 constructor
 ·intro h
  have hn : (if e.kind = 1 then decide (e.session = 0) && decide (e.number = 0) else true) = true := by
   split
   ·next hk => simp [h.noop hk]
   ·rfl
  obtain ⟨h1, h2, h3, h4, h5, h6, h7, h8, hc, ht, hi, hd, hl, -⟩ := h
  rw [hn]
  rcases has_combo e.kind with ⟨c1, c2, c3, c4, c5⟩ | ⟨c1, c2, c3, c4, c5⟩ | ⟨c1, c2, c3, c4, c5⟩ | ⟨c1, c2, c3, c4, c5⟩ | ⟨c1, c2, c3, c4, c5⟩ | ⟨c1, c2, c3, c4, c5⟩ <;>
   (rw [c1] at hc; rw [c2] at ht; rw [c3] at hi; rw [c4] at hd; rw [c5] at hl; simp [c1, c2, c3, c4, c5] at *; simp [*])
 ·intro h
  simp only [Bool.and_eq_true, decide_eq_true_eq] at h
  obtain ⟨⟨⟨⟨k1, k7⟩, hn, ⟨⟨t0, t1⟩, s0, s1⟩, n0, n1⟩, ⟨⟨⟨b1, b2⟩, b3⟩, b4⟩, b5⟩, ⟨⟨⟨r1, r2⟩, r3⟩, r4⟩, r5⟩ := h
  refine ⟨k1, k7, t0, t1, s0, s1, n0, n1, ?_, ?_, ?_, ?_, ?_, fun hk => ?_⟩
  ·cases hc : hasColl e.kind <;> simp [hc] at b1 r1 ⊢ <;> assumption
  ·cases hc : hasTo e.kind <;> simp [hc] at b2 r2 ⊢ <;> assumption
  ·cases hc : hasId e.kind <;> simp [hc] at b3 r3 ⊢ <;> assumption
  ·cases hc : hasDoc e.kind <;> simp [hc] at b4 r4 ⊢ <;> assumption
  ·cases hc : hasDels e.kind <;> simp [hc] at b5 r5 ⊢ <;> assumption
  ·rw [if_pos hk] at hn
   simpa using hn
theorem ebare_any (S : Nat → Prop) (e : EntT) (IA : Option Addr) (ic : Nat) (IA' : Option Addr) (ic' : Nat) (DA : Option Addr) (dc : Nat) (DA' : Option Addr) (dc' : Nat) (LA : Option Addr) (lc : Nat) (w : World) (hS : ∀ b, S b → b < w.heap.size) (h : EntAt w S e IA ic IA' ic' DA dc DA' dc' LA lc) :
  Calls Tryz.prog 80 #[.int .i64 (flagsE e.kind), .agg #[.int .i64 e.term, .int .i64 e.kind, .string e.coll, .string e.to, .int .i64 e.id.kind, .int .i64 e.id.num, .string e.id.text, .slice IA e.id.items.length ic, .slice IA' e.id.names.length ic', .int .i64 e.doc.kind, .int .i64 e.doc.num, .string e.doc.text, .slice DA e.doc.items.length dc, .slice DA' e.doc.names.length dc', .slice LA e.dels.length lc, .int .i64 e.session, .int .i64 e.number]] w fun r w' => r = .returned (.bool (bareE e)) ∧ Below w.heap.size w w' :=
 ebare_bits _ _ _ _ _ (flagsE e.kind) (ehas_coll e.kind) (ehas_to e.kind) (ehas_id e.kind) (ehas_doc e.kind) (ehas_dels e.kind) (has_combo e.kind) S e IA ic IA' ic' DA dc DA' dc' LA lc w hS h
theorem eright_any (S : Nat → Prop) (e : EntT) (IA : Option Addr) (ic : Nat) (IA' : Option Addr) (ic' : Nat) (DA : Option Addr) (dc : Nat) (DA' : Option Addr) (dc' : Nat) (LA : Option Addr) (lc : Nat) (w : World) (hS : ∀ b, S b → b < w.heap.size) (h : EntAt w S e IA ic IA' ic' DA dc DA' dc' LA lc) (hd : SmE e) :
  Calls Tryz.prog 81 #[.int .i64 (flagsE e.kind), .agg #[.int .i64 e.term, .int .i64 e.kind, .string e.coll, .string e.to, .int .i64 e.id.kind, .int .i64 e.id.num, .string e.id.text, .slice IA e.id.items.length ic, .slice IA' e.id.names.length ic', .int .i64 e.doc.kind, .int .i64 e.doc.num, .string e.doc.text, .slice DA e.doc.items.length dc, .slice DA' e.doc.names.length dc', .slice LA e.dels.length lc, .int .i64 e.session, .int .i64 e.number]] w fun r w' => r = .returned (.bool (rightE e)) ∧ Below w.heap.size w w' :=
 eright_bits _ _ _ _ _ (flagsE e.kind) (ehas_coll e.kind) (ehas_to e.kind) (ehas_id e.kind) (ehas_doc e.kind) (ehas_dels e.kind) (has_combo e.kind) S e IA ic IA' ic' DA dc DA' dc' LA lc w hS h hd
set_option maxHeartbeats 8000000 in
theorem emay_any (S : Nat → Prop) (e : EntT) (cs : Array Value) (w : World) (hS : ∀ b, S b → b < w.heap.size) (h : EntL w S e cs) (hd : SmE e) :
  Calls Tryz.prog 38 #[.agg cs] w fun r w' => r = .returned (.bool (mayE e)) ∧ Below w.heap.size w w' := by
 obtain ⟨IA, ic, IA', ic', DA, dc, DA', dc', LA, lc, rfl, hat⟩ := h.at
 obtain ⟨w1, hw1⟩ : ∃ W, W = w.alloc (.cells #[.int .i64 e.term, .int .i64 e.kind, .string e.coll, .string e.to, .int .i64 e.id.kind, .int .i64 e.id.num, .string e.id.text, .slice IA e.id.items.length ic, .slice IA' e.id.names.length ic', .int .i64 e.doc.kind, .int .i64 e.doc.num, .string e.doc.text, .slice DA e.doc.items.length dc, .slice DA' e.doc.names.length dc', .slice LA e.dels.length lc, .int .i64 e.session, .int .i64 e.number] 30) := ⟨_, rfl⟩
 have hbk : EBox w1 w.heap.size e IA ic IA' ic' DA dc DA' dc' LA lc := by rw [hw1]; exact heap_alloc_new w _
 have hb1 : Below w.heap.size w w1 := by rw [hw1]; exact below_box _
 obtain ⟨r, hr⟩ : ∃ r, r = mayE e := ⟨_, rfl⟩
 have HR := hid (hr.trans (mayE_parts e))
 rw [← hr]
 have HB1 := hid hb1
 have HK1 := hid hbk
 have HS := hid hS
 have HA := hid hat
 have HD := hid hd
 clear hr hb1 hbk hS h hat hd
 go_enter Tryz.func38, Tryz.ntmps38
 go_wp2_with fail
 rw [← hw1]
 clear hw1
 have y1 := HK1.out.g1
 refine (efields_any e.kind w1).mono ?_
 rintro q u ⟨rfl, hw⟩
 replace hw := hw.symm
 subst hw
 have y1 := HK1.out.g1
 cases hkn : knownE e.kind
 case false =>
  have HE : Hid (r = false) := hid (by rw [HR.out, hkn]; rfl)
  go_wp2_with fail
  go_ret
  exact ⟨by rw [HE.out]; rfl, HB1.out⟩
 have HKN := hid hkn
 clear hkn
 have HN := hid (enumbered_any e IA ic IA' ic' DA dc DA' dc' LA lc w1)
 go_wp2_with (refine wpList_load_ent (by rfl) _ rfl w.heap.size rfl _ _ HK1.out rfl ?_; simp only [acR, Act.put])
 refine HN.out.mono ?_
 rintro q w2 ⟨rfl, hb⟩
 have HB2 := hid (HB1.out.trans (hb.mono HB1.out.size))
 have HK2 := hid (HK1.out.below hb)
 clear HN hb
 cases hnn : numE e
 case false =>
  have HE : Hid (r = false) := hid (by rw [HR.out, hnn]; simp)
  go_wp2_with fail
  go_ret
  exact ⟨by rw [HE.out]; rfl, HB2.out⟩
 have HNN := hid hnn
 clear hnn
 have HN := hid (ebare_any S e IA ic IA' ic' DA dc DA' dc' LA lc w2 (fun b hb => Nat.lt_of_lt_of_le (HS.out b hb) HB2.out.size) (HA.out.below HS.out HB2.out))
 go_wp2_with (refine wpList_load_ent (by rfl) _ rfl w.heap.size rfl _ _ HK2.out rfl ?_; simp only [acR, Act.put])
 refine HN.out.mono ?_
 rintro q w3 ⟨rfl, hb⟩
 have HB3 := hid (HB2.out.trans (hb.mono HB2.out.size))
 have HK3 := hid (HK2.out.below hb)
 clear HN hb
 obtain ⟨x, hx⟩ : ∃ x, x = bareE e := ⟨_, rfl⟩
 rw [← hx]
 cases x
 case false =>
  have HE : Hid (r = false) := hid (by rw [HR.out, ← hx]; simp)
  clear hx
  go_wp2_with fail
  go_ret
  exact ⟨by rw [HE.out]; rfl, HB3.out⟩
 have HX := hid hx
 clear hx
 have HN := hid (eright_any S e IA ic IA' ic' DA dc DA' dc' LA lc w3 (fun b hb => Nat.lt_of_lt_of_le (HS.out b hb) HB3.out.size) (HA.out.below HS.out HB3.out) HD.out)
 go_wp2_with (refine wpList_load_ent (by rfl) _ rfl w.heap.size rfl _ _ HK3.out rfl ?_; simp only [acR, Act.put])
 refine HN.out.mono ?_
 rintro q w4 ⟨rfl, hb⟩
 have HB4 := hid (HB3.out.trans (hb.mono HB3.out.size))
 clear HN hb
 obtain ⟨z, hz⟩ : ∃ z, z = rightE e := ⟨_, rfl⟩
 rw [← hz]
 have HE : Hid (r = z) := hid (by rw [HR.out, HKN.out, HNN.out, ← HX.out, ← hz]; rfl)
 clear hz
 go_wp2_with fail
 go_ret
 exact ⟨by rw [HE.out]; rfl, HB4.out⟩
theorem FilAt.below {w w' : World} {S : Nat → Prop} {f : FilT} {PA : Option Addr} {pc : Nat} {B : Nat} (h : FilAt w S f PA pc) (hS : ∀ b, S b → b < B) (hb : Below B w w') : FilAt w' S f PA pc := h.keep fun b hb' => hb.block b (hS b hb')
theorem FilAt.imp {w : World} {S S' : Nat → Prop} {f : FilT} {PA : Option Addr} {pc : Nat} (h : FilAt w S f PA pc) (hS : ∀ b, S b → S' b) : FilAt w S' f PA pc := ⟨h.path.imp hS, h.len, h.cz, h.rk, h.cap, h.c63, h.nil⟩
set_option maxHeartbeats 8000000 in
theorem fatpath_any (S : Nat → Prop) (e : EntT) (IA : Option Addr) (ic : Nat) (IA' : Option Addr) (ic' : Nat) (DA : Option Addr) (dc : Nat) (DA' : Option Addr) (dc' : Nat) (LA : Option Addr) (lc : Nat) (p : List ByteArray) (PA : Option Addr) (pc : Nat) (w : World) (hS : ∀ b, S b → b < w.heap.size) (h : EntAt w S e IA ic IA' ic' DA dc DA' dc' LA lc) (hd : SmE e)
  (hp : StrsAt w S PA p) (hl : p.length ≤ 8796093021952) (hpc : p.length ≤ pc) (h63 : pc ≤ 9223372036854775807) (hm : mayE e = true) :
  Calls Tryz.prog 41 #[.slice PA p.length pc, .agg #[.int .i64 e.term, .int .i64 e.kind, .string e.coll, .string e.to, .int .i64 e.id.kind, .int .i64 e.id.num, .string e.id.text, .slice IA e.id.items.length ic, .slice IA' e.id.names.length ic', .int .i64 e.doc.kind, .int .i64 e.doc.num, .string e.doc.text, .slice DA e.doc.items.length dc, .slice DA' e.doc.names.length dc', .slice LA e.dels.length lc, .int .i64 e.session, .int .i64 e.number]] w fun r w' => r = .returned (.bool (atPathF p e)) ∧ Below w.heap.size w w' := by
 obtain ⟨w1, hw1⟩ : ∃ W, W = w.alloc (.cells #[.int .i64 e.term, .int .i64 e.kind, .string e.coll, .string e.to, .int .i64 e.id.kind, .int .i64 e.id.num, .string e.id.text, .slice IA e.id.items.length ic, .slice IA' e.id.names.length ic', .int .i64 e.doc.kind, .int .i64 e.doc.num, .string e.doc.text, .slice DA e.doc.items.length dc, .slice DA' e.doc.names.length dc', .slice LA e.dels.length lc, .int .i64 e.session, .int .i64 e.number] 30) := ⟨_, rfl⟩
 have hb1 : Below w.heap.size w w1 := by rw [hw1]; exact below_box _
 have y1 : (w.alloc (.cells #[.int .i64 e.term, .int .i64 e.kind, .string e.coll, .string e.to, .int .i64 e.id.kind, .int .i64 e.id.num, .string e.id.text, .slice IA e.id.items.length ic, .slice IA' e.id.names.length ic', .int .i64 e.doc.kind, .int .i64 e.doc.num, .string e.doc.text, .slice DA e.doc.items.length dc, .slice DA' e.doc.names.length dc', .slice LA e.dels.length lc, .int .i64 e.session, .int .i64 e.number] 30)).cell? ⟨w.heap.size, 1, none⟩ = some (.int .i64 e.kind) := Go.Joins.cell_of_block (heap_alloc_new w _) 1
 have y14 : (w.alloc (.cells #[.int .i64 e.term, .int .i64 e.kind, .string e.coll, .string e.to, .int .i64 e.id.kind, .int .i64 e.id.num, .string e.id.text, .slice IA e.id.items.length ic, .slice IA' e.id.names.length ic', .int .i64 e.doc.kind, .int .i64 e.doc.num, .string e.doc.text, .slice DA e.doc.items.length dc, .slice DA' e.doc.names.length dc', .slice LA e.dels.length lc, .int .i64 e.session, .int .i64 e.number] 30)).cell? ⟨w.heap.size, 14, none⟩ = some (.slice LA e.dels.length lc) := Go.Joins.cell_of_block (heap_alloc_new w _) 14
 have HS1 : ∀ b, S b → b < w1.heap.size := fun b hb => Nat.lt_of_lt_of_le (hS b hb) hb1.size
 have HG := hid (tget_any S e.doc _ PA pc p w1 HS1 (h.below hS hb1).doc hd.docd (hp.keep fun b hb => hb1.block b (hS b hb)) (by omega) hpc h63)
 have HT := hid (dltouch_any S LA lc e.dels PA pc p w1 HS1 (h.below hS hb1).dels (by have := h.len; omega) (hp.keep fun b hb => hb1.block b (hS b hb)) hpc hl)
 obtain ⟨r, hr⟩ : ∃ r, r = atPathF p e := ⟨_, rfl⟩
 rw [← hr]
 have HR : Hid (r = if p.length = 0 then true else if e.kind = 2 then (tgotT e.doc p).isSome else if e.kind = 3 then touchD e.dels p else true) := hid hr
 obtain ⟨n, hn⟩ : ∃ n, n = p.length := ⟨_, rfl⟩
 rw [← hn] at HR HG HT ⊢
 have HB1 := hid hb1
 clear hr hb1 h hd hp hl hpc h63 hm HS1 hS hn
 go_enter Tryz.func41, Tryz.ntmps41
 by_cases h0 : n = 0
 ·have d1 : ((n : Int) == 0) = true := by simp [h0]
  have HE : Hid (r = true) := hid (by rw [HR.out, if_pos h0])
  clear h0
  rw [hw1] at HB1
  go_wp2_with fail
  go_ret
  exact ⟨by rw [HE.out] <;> rfl, HB1.out⟩
 have d1 : ((n : Int) == 0) = false := beq_false_of_ne (by omega)
 have HR1 : Hid (r = if e.kind = 2 then (tgotT e.doc p).isSome else if e.kind = 3 then touchD e.dels p else true) := hid (by rw [HR.out, if_neg h0])
 clear h0 HR
 by_cases h2 : e.kind = 2
 ·have d2 : (e.kind == 2) = true := beq_iff_eq.2 h2
  have HE : Hid (r = (tgotT e.doc p).isSome) := hid (by rw [HR1.out, if_pos h2])
  clear h2 HT
  go_wp2_with fail
  rw [← hw1]
  clear hw1
  refine HG.out.mono ?_
  rintro q w2 ⟨v, rfl, hv, hb⟩
  obtain ⟨VA, vc, VA', vc', rfl, -⟩ := hv.shape
  rw [← HE.out]
  have HB2 := hid (HB1.out.trans (hb.mono HB1.out.size))
  have HB3 := hid (HB2.out.alloc (B := w.heap.size) HB2.out.size (.cells #[.int .i64 (((tgotT e.doc p).getD (.mk 0 0 ⟨#[]⟩ [] []))).kind, .int .i64 (((tgotT e.doc p).getD (.mk 0 0 ⟨#[]⟩ [] []))).num, .string (((tgotT e.doc p).getD (.mk 0 0 ⟨#[]⟩ [] []))).text, .slice VA (((tgotT e.doc p).getD (.mk 0 0 ⟨#[]⟩ [] []))).items.length vc, .slice VA' (((tgotT e.doc p).getD (.mk 0 0 ⟨#[]⟩ [] []))).names.length vc'] 27))
  clear hv hb HG
  go_wp2_with fail
  go_ret
  exact ⟨rfl, HB3.out⟩
 have d2 : (e.kind == 2) = false := beq_false_of_ne h2
 have HR2 : Hid (r = if e.kind = 3 then touchD e.dels p else true) := hid (by rw [HR1.out, if_neg h2])
 clear h2 HR1 HG
 by_cases h2 : e.kind = 3
 ·have d3 : (e.kind == 3) = true := beq_iff_eq.2 h2
  have HE : Hid (r = touchD e.dels p) := hid (by rw [HR2.out, if_pos h2])
  clear h2
  go_wp2_with fail
  rw [← hw1]
  clear hw1
  refine HT.out.mono ?_
  rintro q w2 ⟨rfl, hb⟩
  rw [← HE.out]
  have HB2 := hid (HB1.out.trans (hb.mono HB1.out.size))
  clear hb HT
  go_wp2_with fail
  go_ret
  exact ⟨rfl, HB2.out⟩
 have d3 : (e.kind == 3) = false := beq_false_of_ne h2
 have HE : Hid (r = true) := hid (by rw [HR2.out, if_neg h2])
 clear h2 HT
 rw [hw1] at HB1
 go_wp2_with fail
 go_ret
 exact ⟨by rw [HE.out] <;> rfl, HB1.out⟩

theorem kind_ok {e : EntT} (h : mayE e = true) : 1 ≤ e.kind ∧ e.kind ≤ 7 := by
 have := (mayE_iff e).1 h
 exact ⟨this.k1, this.k7⟩
theorem kinds_ok {f : FilT} (h : mayFl f = true) : 0 ≤ f.kinds ∧ f.kinds < 256 := by
 unfold mayFl kindsOk at h
 simp only [Bool.and_eq_true, decide_eq_true_eq] at h
 exact ⟨h.2.1.1, h.2.1.2⟩
set_option maxHeartbeats 16000000 in
theorem fmatch_any (S : Nat → Prop) (f : FilT) (PA : Option Addr) (pc : Nat) (e : EntT) (cs : Array Value) (w : World) (hS : ∀ b, S b → b < w.heap.size) (hf : FilAt w S f PA pc) (h : EntL w S e cs) (hd : SmE e) :
  Calls Tryz.prog 15 #[.agg #[.string f.coll, .slice PA f.path.length pc, .int .i64 f.kinds], .agg cs] w fun r w' => r = .returned (.bool (matchFl f e)) ∧ Below w.heap.size w w' := by
 obtain ⟨IA, ic, IA', ic', DA, dc, DA', dc', LA, lc, rfl, hat⟩ := h.at
 obtain ⟨w2, hw2⟩ : ∃ W, W = (w.alloc (.cells #[.string f.coll, .slice PA f.path.length pc, .int .i64 f.kinds] 24)).alloc (.cells #[.int .i64 e.term, .int .i64 e.kind, .string e.coll, .string e.to, .int .i64 e.id.kind, .int .i64 e.id.num, .string e.id.text, .slice IA e.id.items.length ic, .slice IA' e.id.names.length ic', .int .i64 e.doc.kind, .int .i64 e.doc.num, .string e.doc.text, .slice DA e.doc.items.length dc, .slice DA' e.doc.names.length dc', .slice LA e.dels.length lc, .int .i64 e.session, .int .i64 e.number] 30) := ⟨_, rfl⟩
 have hz1 : (w.alloc (.cells #[.string f.coll, .slice PA f.path.length pc, .int .i64 f.kinds] 24)).heap.size = w.heap.size + 1 := by simp
 have hb2 : Below w.heap.size w w2 := by rw [hw2]; exact (below_box _).alloc (by omega) _
 have HF2 : Hid (FBox w2 w.heap.size f PA pc) := hid (by unfold FBox; rw [hw2, Below.heap_alloc _ _ _ (by omega)]; exact heap_alloc_new w _)
 have HK2 : Hid (EBox w2 (w.heap.size + 1) e IA ic IA' ic' DA dc DA' dc' LA lc) := hid (by unfold EBox; rw [hw2, ← hz1]; exact heap_alloc_new _ _)
 have HB2 := hid hb2
 have HS := hid hS
 have HA := hid hat
 have HFA := hid hf
 have HD := hid hd
 obtain ⟨r, hr⟩ : ∃ r, r = matchFl f e := ⟨_, rfl⟩
 rw [← hr]
 have HR : Hid (r = (mayFl f && mayE e && decide (e.kind ≠ 1) && ofKindsF f.kinds e && ofCollF f.coll e && atPathF f.path e)) := hid hr
 clear hr hb2 hz1 hS h hat hf hd
 go_enter Tryz.func15, Tryz.ntmps15
 go_wp2_with fail
 rw [← hw2]
 clear hw2
 refine (fmay_any S f PA pc w2 (fun b hb => Nat.lt_of_lt_of_le (HS.out b hb) HB2.out.size) (HFA.out.below HS.out HB2.out)).mono ?_
 rintro q w3 ⟨rfl, hb⟩
 have HB3 := hid (HB2.out.trans (hb.mono HB2.out.size))
 have HF3 := hid (HF2.out.below hb)
 have HK3 := hid (HK2.out.below hb)
 clear hb HF2 HK2
 cases hm1 : mayFl f
 case false =>
  go_wp2_with fail
  go_ret
  exact ⟨by rw [HR.out, hm1]; simp, HB3.out⟩
 have Hm1 := hid hm1
 clear hm1
 go_wp2_with (refine wpList_load_ent (by rfl) _ rfl (w.heap.size + 1) rfl _ _ HK3.out rfl ?_; simp only [acR, Act.put])
 refine (emay_any S e _ w3 (fun b hb => Nat.lt_of_lt_of_le (HS.out b hb) HB3.out.size) (HA.out.below HS.out HB3.out).l HD.out).mono ?_
 rintro q w4 ⟨rfl, hb⟩
 have HB4 := hid (HB3.out.trans (hb.mono HB3.out.size))
 have HF4 := hid (HF3.out.below hb)
 have HK4 := hid (HK3.out.below hb)
 clear hb HF3 HK3
 cases hm2 : mayE e
 case false =>
  go_wp2_with fail
  go_ret
  exact ⟨by rw [HR.out, Hm1.out, hm2]; simp, HB4.out⟩
 have Hm2 := hid hm2
 clear hm2
 have HKI := hid (kind_ok Hm2.out)
 have HKF := hid (kinds_ok Hm1.out)
 have y1 := HK4.out.g1
 have y2 := HF4.out.g2
 by_cases h1 : e.kind = 1
 ·have d1 : (e.kind != 1) = false := by simp [h1]
  have HN := hid h1
  clear h1
  go_wp2_with fail
  go_ret
  exact ⟨by rw [HR.out, Hm1.out, Hm2.out, decide_eq_false (p := e.kind ≠ 1) (fun h => h HN.out)]; simp, HB4.out⟩
 have d1 : (e.kind != 1) = true := by simp [h1]
 have Hm3 : Hid (decide (e.kind ≠ 1) = true) := hid (decide_eq_true h1)
 clear h1
 go_wp2_with (refine wpList_load_ent (by rfl) _ rfl (w.heap.size + 1) rfl _ _ HK4.out rfl ?_; simp only [acR, Act.put])
 refine (fofkinds_any f.kinds HKF.out.1 HKF.out.2 e IA ic IA' ic' DA dc DA' dc' LA lc w4 HKI.out.1 HKI.out.2).mono ?_
 rintro q w5 ⟨rfl, hb⟩
 clear y1 y2
 have HB5 := hid (HB4.out.trans (hb.mono HB4.out.size))
 have HF5 := hid (HF4.out.below hb)
 have HK5 := hid (HK4.out.below hb)
 clear hb HF4 HK4
 cases hm4 : ofKindsF f.kinds e
 case false =>
  go_wp2_with fail
  go_ret
  exact ⟨by rw [HR.out, Hm1.out, Hm2.out, Hm3.out, hm4]; simp, HB5.out⟩
 have Hm4 := hid hm4
 clear hm4
 have y0 := HF5.out.g0
 go_wp2_with (refine wpList_load_ent (by rfl) _ rfl (w.heap.size + 1) rfl _ _ HK5.out rfl ?_; simp only [acR, Act.put])
 refine (fofcoll_any f.coll e IA ic IA' ic' DA dc DA' dc' LA lc w5).mono ?_
 rintro q w6 ⟨rfl, hb⟩
 clear y0
 have HB6 := hid (HB5.out.trans (hb.mono HB5.out.size))
 have HF6 := hid (HF5.out.below hb)
 have HK6 := hid (HK5.out.below hb)
 clear hb HF5 HK5
 cases hm5 : ofCollF f.coll e
 case false =>
  go_wp2_with fail
  go_ret
  exact ⟨by rw [HR.out, Hm1.out, Hm2.out, Hm3.out, Hm4.out, hm5]; simp, HB6.out⟩
 have Hm5 := hid hm5
 clear hm5
 have y1 := HF6.out.g1
 go_wp2_with (refine wpList_load_ent (by rfl) _ rfl (w.heap.size + 1) rfl _ _ HK6.out rfl ?_; simp only [acR, Act.put])
 refine (fatpath_any S e IA ic IA' ic' DA dc DA' dc' LA lc f.path PA pc w6 (fun b hb => Nat.lt_of_lt_of_le (HS.out b hb) HB6.out.size) (HA.out.below HS.out HB6.out) HD.out (HFA.out.below HS.out HB6.out).path HFA.out.len HFA.out.cap HFA.out.c63 Hm2.out).mono ?_
 rintro q w7 ⟨rfl, hb⟩
 clear y1
 have HB7 := hid (HB6.out.trans (hb.mono HB6.out.size))
 have HF7 := hid (HF6.out.below hb)
 have HK7 := hid (HK6.out.below hb)
 clear hb HF6 HK6
 have HE : Hid (r = atPathF f.path e) := hid (by rw [HR.out, Hm1.out, Hm2.out, Hm3.out, Hm4.out, Hm5.out]; simp)
 rw [← HE.out]
 go_wp2_with fail
 go_ret
 exact ⟨rfl, HB7.out⟩
set_option maxHeartbeats 16000000 in
theorem fends_any (S : Nat → Prop) (f : FilT) (PA : Option Addr) (pc : Nat) (e : EntT) (cs : Array Value) (w : World) (hS : ∀ b, S b → b < w.heap.size) (hf : FilAt w S f PA pc) (h : EntL w S e cs) (hd : SmE e) :
  Calls Tryz.prog 17 #[.agg #[.string f.coll, .slice PA f.path.length pc, .int .i64 f.kinds], .agg cs] w fun r w' => r = .returned (.bool (endsFl f e)) ∧ Below w.heap.size w w' := by
 obtain ⟨IA, ic, IA', ic', DA, dc, DA', dc', LA, lc, rfl, hat⟩ := h.at
 obtain ⟨w2, hw2⟩ : ∃ W, W = (w.alloc (.cells #[.string f.coll, .slice PA f.path.length pc, .int .i64 f.kinds] 24)).alloc (.cells #[.int .i64 e.term, .int .i64 e.kind, .string e.coll, .string e.to, .int .i64 e.id.kind, .int .i64 e.id.num, .string e.id.text, .slice IA e.id.items.length ic, .slice IA' e.id.names.length ic', .int .i64 e.doc.kind, .int .i64 e.doc.num, .string e.doc.text, .slice DA e.doc.items.length dc, .slice DA' e.doc.names.length dc', .slice LA e.dels.length lc, .int .i64 e.session, .int .i64 e.number] 30) := ⟨_, rfl⟩
 have hz1 : (w.alloc (.cells #[.string f.coll, .slice PA f.path.length pc, .int .i64 f.kinds] 24)).heap.size = w.heap.size + 1 := by simp
 have hb2 : Below w.heap.size w w2 := by rw [hw2]; exact (below_box _).alloc (by omega) _
 have HF2 : Hid (FBox w2 w.heap.size f PA pc) := hid (by unfold FBox; rw [hw2, Below.heap_alloc _ _ _ (by omega)]; exact heap_alloc_new w _)
 have HK2 : Hid (EBox w2 (w.heap.size + 1) e IA ic IA' ic' DA dc DA' dc' LA lc) := hid (by unfold EBox; rw [hw2, ← hz1]; exact heap_alloc_new _ _)
 have HB2 := hid hb2
 have HS := hid hS
 have HA := hid hat
 have HFA := hid hf
 have HD := hid hd
 obtain ⟨r, hr⟩ : ∃ r, r = endsFl f e := ⟨_, rfl⟩
 rw [← hr]
 have HR : Hid (r = (decide (f.coll.size ≠ 0) && decide (f.coll = e.coll) && (decide (e.kind = 6) || decide (e.kind = 7)) && mayFl f && mayE e)) := hid hr
 clear hr hb2 hz1 hS h hat hf hd
 go_enter Tryz.func17, Tryz.ntmps17
 have z0 : ((w.alloc (.cells #[.string f.coll, .slice PA f.path.length pc, .int .i64 f.kinds] 24)).alloc (.cells #[.int .i64 e.term, .int .i64 e.kind, .string e.coll, .string e.to, .int .i64 e.id.kind, .int .i64 e.id.num, .string e.id.text, .slice IA e.id.items.length ic, .slice IA' e.id.names.length ic', .int .i64 e.doc.kind, .int .i64 e.doc.num, .string e.doc.text, .slice DA e.doc.items.length dc, .slice DA' e.doc.names.length dc', .slice LA e.dels.length lc, .int .i64 e.session, .int .i64 e.number] 30)).cell? ⟨w.heap.size, 0, none⟩ = some (.string f.coll) := by rw [← hw2]; exact HF2.out.g0
 have z1 : ((w.alloc (.cells #[.string f.coll, .slice PA f.path.length pc, .int .i64 f.kinds] 24)).alloc (.cells #[.int .i64 e.term, .int .i64 e.kind, .string e.coll, .string e.to, .int .i64 e.id.kind, .int .i64 e.id.num, .string e.id.text, .slice IA e.id.items.length ic, .slice IA' e.id.names.length ic', .int .i64 e.doc.kind, .int .i64 e.doc.num, .string e.doc.text, .slice DA e.doc.items.length dc, .slice DA' e.doc.names.length dc', .slice LA e.dels.length lc, .int .i64 e.session, .int .i64 e.number] 30)).cell? ⟨w.heap.size + 1, 1, none⟩ = some (.int .i64 e.kind) := by rw [← hw2]; exact HK2.out.g1
 have z2 : ((w.alloc (.cells #[.string f.coll, .slice PA f.path.length pc, .int .i64 f.kinds] 24)).alloc (.cells #[.int .i64 e.term, .int .i64 e.kind, .string e.coll, .string e.to, .int .i64 e.id.kind, .int .i64 e.id.num, .string e.id.text, .slice IA e.id.items.length ic, .slice IA' e.id.names.length ic', .int .i64 e.doc.kind, .int .i64 e.doc.num, .string e.doc.text, .slice DA e.doc.items.length dc, .slice DA' e.doc.names.length dc', .slice LA e.dels.length lc, .int .i64 e.session, .int .i64 e.number] 30)).cell? ⟨w.heap.size + 1, 2, none⟩ = some (.string e.coll) := by rw [← hw2]; exact HK2.out.g2
 by_cases hc : f.coll.size = 0
 ·have e1 : f.coll.toList = [] := toList_nil.2 hc
  have HE : Hid (r = false) := hid (by rw [HR.out, decide_eq_false (p := f.coll.size ≠ 0) (fun h => h hc)]; simp)
  clear hc
  rw [hw2] at HB2
  go_wp2_with fail
  go_ret
  exact ⟨by rw [HE.out]; rfl, HB2.out⟩
 have e1 : f.coll.toList.isEmpty = false := by rw [← Bool.not_eq_true, isEmpty_size]; exact hc
 have e2 : ¬ f.coll.toList = [] := fun h => hc (toList_nil.1 h)
 have HR1 : Hid (r = (decide (f.coll = e.coll) && (decide (e.kind = 6) || decide (e.kind = 7)) && mayFl f && mayE e)) := hid (by rw [HR.out, decide_eq_true (p := f.coll.size ≠ 0) hc]; simp)
 clear hc HR
 by_cases hc : f.coll = e.coll
 rotate_left
 ·have d1 : (f.coll.toList == e.coll.toList) = false := by rw [str_beq]; exact decide_eq_false hc
  have HE : Hid (r = false) := hid (by rw [HR1.out, decide_eq_false hc]; simp)
  clear hc
  rw [hw2] at HB2
  go_wp2_with fail
  go_ret
  exact ⟨by rw [HE.out]; simp [d1], HB2.out⟩
 have d1 : (f.coll.toList == e.coll.toList) = true := by rw [str_beq]; exact decide_eq_true hc
 have HR2 : Hid (r = ((decide (e.kind = 6) || decide (e.kind = 7)) && mayFl f && mayE e)) := hid (by rw [HR1.out, decide_eq_true hc]; simp)
 clear hc HR1
 by_cases hk : e.kind = 6 ∨ e.kind = 7
 rotate_left
 ·have d2 : (e.kind == 6) = false := beq_false_of_ne (by omega)
  have d3 : (e.kind == 7) = false := beq_false_of_ne (by omega)
  have HE : Hid (r = false) := hid (by rw [HR2.out, decide_eq_false (p := e.kind = 6) (by omega), decide_eq_false (p := e.kind = 7) (by omega)]; simp)
  clear hk
  rw [hw2] at HB2
  go_wp2_with fail
  go_ret
  exact ⟨by rw [HE.out] <;> rfl, HB2.out⟩
 have HR : Hid (r = (mayFl f && mayE e)) := hid (by rcases hk with h | h <;> (rw [HR2.out]; simp [h]))
 have hkk : (e.kind == 6) = true ∨ (e.kind == 6) = false ∧ (e.kind == 7) = true := by
  rcases hk with h | h
  ·exact .inl (beq_iff_eq.2 h)
  ·exact .inr ⟨beq_false_of_ne (by omega), beq_iff_eq.2 h⟩
 clear hk HR2
 have HM := hid (fmay_any S f PA pc w2 (fun b hb => Nat.lt_of_lt_of_le (HS.out b hb) HB2.out.size) (HFA.out.below HS.out HB2.out))
 rcases hkk with d2 | ⟨d2, d3⟩ <;> (
  go_wp2_with fail
  rw [← hw2]
  clear hw2 z0 z1 z2
  refine HM.out.mono ?_
  rintro q w3 ⟨rfl, hb⟩
  have HB3 := hid (HB2.out.trans (hb.mono HB2.out.size))
  have HF3 := hid (HF2.out.below hb)
  have HK3 := hid (HK2.out.below hb)
  clear hb HF2 HK2
  cases hm1 : mayFl f
  case false =>
   go_wp2_with fail
   go_ret
   exact ⟨by rw [HR.out, hm1]; simp, HB3.out⟩
  have Hm1 := hid hm1
  clear hm1
  go_wp2_with (refine wpList_load_ent (by rfl) _ rfl (w.heap.size + 1) rfl _ _ HK3.out rfl ?_; simp only [acR, Act.put])
  refine (emay_any S e _ w3 (fun b hb => Nat.lt_of_lt_of_le (HS.out b hb) HB3.out.size) (HA.out.below HS.out HB3.out).l HD.out).mono ?_
  rintro q w4 ⟨rfl, hb⟩
  have HB4 := hid (HB3.out.trans (hb.mono HB3.out.size))
  have HF4 := hid (HF3.out.below hb)
  have HK4 := hid (HK3.out.below hb)
  clear hb HF3 HK3
  have HE : Hid (r = mayE e) := hid (by rw [HR.out, Hm1.out]; simp)
  rw [← HE.out]
  go_wp2_with fail
  go_ret
  exact ⟨rfl, HB4.out⟩)
end Go.Proofs.YtlipkmdjpligeaaGreat

/- Entries that came in. -/
namespace Go.Proofs.YtlipkmdjpligeaaGreat
set_option linter.unusedVariables false
set_option linter.unusedSimpArgs false
open Go.ChangeShapes Go.WideShapes Go.RowKit Go.Joins Go.Deep
set_option linter.unusedVariables false
set_option maxRecDepth 100000
theorem cellsEnt : Tryz.prog.cellsOf 30 = 17 := by kernel_rfl
theorem fieldsEnt : ∃ f0 f1 f2 f3 f4 f5 f6 f7 f8 : Field, Tryz.prog.underlying 30 = some (.struct #[f0, f1, f2, f3, f4, f5, f6, f7, f8]) ∧ (f0.type = 3 ∧ f1.type = 3 ∧ f2.type = 9 ∧ f3.type = 9 ∧ f4.type = 27 ∧ f5.type = 27 ∧ f6.type = 28 ∧ f7.type = 3 ∧ f8.type = 3) ∧ (f0.offset = 0 ∧ f1.offset = 1 ∧ f2.offset = 2 ∧ f3.offset = 3 ∧ f4.offset = 4 ∧ f5.offset = 9 ∧ f6.offset = 14 ∧ f7.offset = 15 ∧ f8.offset = 16) :=
 ⟨_, _, _, _, _, _, _, _, _, Tryz.underlying30, ⟨rfl, rfl, rfl, rfl, rfl, rfl, rfl, rfl, rfl⟩, ⟨rfl, rfl, rfl, rfl, rfl, rfl, rfl, rfl, rfl⟩⟩
section
variable {H : Type} {enc : TypeId × Value → H} {W : World} {sp : Nat → Bool}
theorem open_ent {fuel : Nat} {cs : List Value} {x : DataW H × List MemPlace} (h : DataW.trod enc Tryz.prog W 0 sp true fuel 30 cs = some x) (hw : ∀ n ∈ x.1.weights Tryz.prog 30, n ≤ reachBytes) :
  ∃ e : EntT, EntL W (fun b => b < W.heap.size) e cs.toArray := by
 obtain ⟨f0, f1, f2, f3, f4, f5, f6, f7, f8, hu, ⟨t0, t1, t2, t3, t4, t5, t6, t7, t8⟩, ⟨o0, o1, o2, o3, o4, o5, o6, o7, o8⟩⟩ := fieldsEnt
 obtain ⟨xs, n, hfu, hx, hlen, hxl, hg⟩ := DataW.trod_struct hu h
 rw [cellsEnt] at hlen
 match cs, hlen with
 | [c0, c1, c2, c3, c4, c5, c6, c7, c8, c9, c10, c11, c12, c13, c14, c15, c16], _ =>
  match xs, hxl with
  | [y0, y1, y2, y3, y4, y5, y6, y7, y8], _ =>
   have g0 := hg 0 f0 rfl
   have g1 := hg 1 f1 rfl
   have g2 := hg 2 f2 rfl
   have g3 := hg 3 f3 rfl
   have g4 := hg 4 f4 rfl
   have g5 := hg 5 f5 rfl
   have g6 := hg 6 f6 rfl
   have g7 := hg 7 f7 rfl
   have g8 := hg 8 f8 rfl
   rw [t0, o0, cellsI] at g0
   rw [t1, o1, cellsI] at g1
   rw [t2, o2, cellsStr] at g2
   rw [t3, o3, cellsStr] at g3
   rw [t4, o4, cellsVal] at g4
   rw [t5, o5, cellsVal] at g5
   rw [t6, o6, cellsDeltas] at g6
   rw [t7, o7, cellsI] at g7
   rw [t8, o8, cellsI] at g8
   have hws := hw
   rw [hx] at hws
   simp only [DataW.weights, hu, List.map_cons, List.map_nil, t0, t1, t2, t3, t4, t5, t6, t7, t8] at hws
   simp only [DataW.weightsEach, List.mem_append] at hws
   obtain ⟨a0, e0, -, w0⟩ := DataW.trod_int Tryz.underlying3 g0
   obtain ⟨a1, e1, -, w1⟩ := DataW.trod_int Tryz.underlying3 g1
   obtain ⟨a2, e2, x2, w2⟩ := DataW.trod_string Tryz.underlying9 g2
   obtain ⟨a3, e3, x3, w3⟩ := DataW.trod_string Tryz.underlying9 g3
   obtain ⟨a7, e7, -, w7⟩ := DataW.trod_int Tryz.underlying3 g7
   obtain ⟨a8, e8, -, w8⟩ := DataW.trod_int Tryz.underlying3 g8
   simp at e0 e1 e2 e3 e7 e8
   subst e0 e1 e2 e3 e7 e8
   have hs2 : a2.size ≤ 140737488351232 := by
    have := hws a2.data.toList.length (.inr (.inr (.inl (by rw [x2]; simp [DataW.weights]))))
    simpa [reachBytes] using this
   have hs3 : a3.size ≤ 140737488351232 := by
    have := hws a3.data.toList.length (.inr (.inr (.inr (.inl (by rw [x3]; simp [DataW.weights])))))
    simpa [reachBytes] using this
   obtain ⟨ti, hti⟩ := open_val _ _ _ g4 (fun n hn => hws n (.inr (.inr (.inr (.inr (.inl hn))))))
   obtain ⟨td, htd⟩ := open_val _ _ _ g5 (fun n hn => hws n (.inr (.inr (.inr (.inr (.inr (.inl hn)))))))
   obtain ⟨LA, lc, ds, e6, q1, q2, q3, q4, -⟩ := open_dels g6 (fun n hn => hws n (.inr (.inr (.inr (.inr (.inr (.inr (.inl hn))))))))
   simp at e6
   subst e6
   obtain ⟨IA, ic, IA', ic', hvi, -⟩ := hti.shape
   obtain ⟨DA, dc, DA', dc', hvd, -⟩ := htd.shape
   simp at hvi hvd
   obtain ⟨rfl, rfl, rfl, rfl, rfl⟩ := hvi
   obtain ⟨rfl, rfl, rfl, rfl, rfl⟩ := hvd
   exact ⟨⟨a0, a1, a2, a3, ti, td, ds, a7, a8⟩, IA, ic, IA', ic', DA, dc, DA', dc', LA, lc, rfl, hti, htd, q4, q2, fun h => (q1 h).1, q3, in64_of_wf w0, in64_of_wf w1, in64_of_wf w7, in64_of_wf w8, hs2, hs3⟩
end
set_option linter.unusedVariables false
theorem lrelE : LRel EntL 17 where
 size := fun h => by obtain ⟨IA, ic, IA', ic', DA, dc, DA', dc', LA, lc, rfl, -⟩ := h; rfl
 keep := fun h hk => h.keep hk
 imp := fun h hS => h.imp hS
abbrev EntsL (w : World) (S : Nat → Prop) (A : Option Addr) (l : List EntT) : Prop := RowsG EntL 17 w S A l
theorem bytesEnt : Tryz.prog.bytesOf 30 = 248 := by kernel_rfl
def zeroE : EntT := ⟨0, 0, ⟨#[]⟩, ⟨#[]⟩, .mk 0 0 ⟨#[]⟩ [] [], .mk 0 0 ⟨#[]⟩ [] [], [], 0, 0⟩
section
variable {H : Type} {enc : TypeId × Value → H} {W : World} {sp : Nat → Bool}
theorem open_ents {fuel : Nat} {cs : List Value} {x : DataW H × List MemPlace} (h : DataW.trod enc Tryz.prog W 0 sp true fuel 34 cs = some x) (hw : ∀ n ∈ x.1.weights Tryz.prog 34, n ≤ reachBytes) :
  ∃ A c, ∃ es : List EntT, cs = [.slice A es.length c] ∧ (A = none → c = 0 ∧ es = []) ∧ es.length ≤ c ∧ es.length ≤ 567493904640 ∧ EntsL W (fun b => b < W.heap.size) A es := by
 rcases DataW.trod_slice Tryz.underlying34 h with ⟨e3, -⟩ | ⟨a, len, cap, elems, rest, m, hm, e3, x3, -, hlc, -, hel, hat, -, -⟩
 ·exact ⟨none, 0, [], e3, fun _ => ⟨rfl, rfl⟩, by simp, by simp, fun h => absurd h (by simp)⟩
 ·have hws := hw
  rw [x3] at hws
  simp only [DataW.weights, Tryz.underlying34] at hws
  have hl : len ≤ 567493904640 := by
   have h1 := hws _ (List.mem_cons_self ..)
   rw [bytesEnt] at h1
   simp only [List.length_map, hel, reachBytes] at h1
   omega
  have hT : ∀ j, ∃ o : EntT, j < len → ∃ cs : Array Value, (∀ i v, cs[i]? = some v → W.cell? ((a.add (j * 17)).add i) = some v) ∧ EntL W (fun b => b < W.heap.size) o cs := by
   intro j
   by_cases hj : j < len
   ·have h1 := hat j hj
    rw [cellsEnt, List.getElem?_eq_getElem (by omega)] at h1
    obtain ⟨cs', hc, ht⟩ := Option.bind_eq_some_iff.1 h1
    obtain ⟨-, hcl, hcat⟩ := World.cells?_some hc
    obtain ⟨o, ho⟩ := open_ent ht (fun n hn => hws n (List.mem_cons_of_mem _ (List.mem_append_left _ (mem_weightsAll (List.mem_map.2 ⟨_, List.getElem_mem (by omega), rfl⟩) n hn))))
    refine ⟨o, fun _ => ⟨cs'.toArray, fun i v hv => ?_, ho⟩⟩
    have hi := (Array.getElem?_eq_some_iff.1 hv).1
    have hi' : i < cs'.length := by simpa using hi
    rw [hcat i (by omega)]
    simpa using hv
   ·exact ⟨zeroE, fun h => absurd h hj⟩
  obtain ⟨T, hT⟩ := Classical.skolem.1 hT
  have hlm : ((List.range len).map T).length = len := by simp
  by_cases hp0 : 0 < len
  ·obtain ⟨b, off, spot⟩ := a
   obtain ⟨cs0, h0, hok0⟩ := hT 0 hp0
   have hz := lrelE.size hok0
   have h00 := h0 0 cs0[0] (Array.getElem?_eq_getElem (by omega))
   obtain rfl : spot = none := by simpa [Addr.add] using World.cell?_spot h00
   refine ⟨some ⟨b, off, none⟩, cap, (List.range len).map T, by rw [hlm]; exact e3, (fun h => by cases h), by omega, by omega, fun hp => ?_⟩
   refine ⟨b, off, rfl, ?_, fun j hj => ?_⟩
   ·rw [addr_add6, addr_add6] at h00; exact World.block_lt_of_cell? W _ h00
   ·rw [hlm] at hj
    obtain ⟨cs, h0, h1⟩ := hT j hj
    refine ⟨cs, fun i v hv => ?_, by simpa using h1⟩
    have := h0 i v hv
    rw [addr_add6, addr_add6] at this
    exact this
  ·have hl0 : len = 0 := by omega
   subst hl0
   exact ⟨some a, cap, [], by simpa using e3, (fun h => by cases h), by simp, by simp, fun h => absurd h (by simp)⟩
end
theorem EntsL.at {w : World} {S : Nat → Prop} {A : Option Addr} {l : List EntT} (h : EntsL w S A l) (k : Nat) (hk : k < l.length) :
  ∃ b off cs, A = some ⟨b, off, none⟩ ∧ S b ∧ w.rangeAt b (off + k * 17) cs ∧ cs.length = 17 ∧ EntL w S l[k] cs.toArray := by
 obtain ⟨b, off, hA, hb, hc⟩ := h (by omega)
 obtain ⟨cs, h1, h2⟩ := hc k hk
 exact ⟨b, off, cs.toList, hA, hb, fun j v hv => h1 j v (by simpa using hv), by simpa using lrelE.size h2, by simpa using h2⟩
end Go.Proofs.YtlipkmdjpligeaaGreat

/- Entries, by the document: the changes that may be done, the id that a document holds. -/
namespace Go.Proofs.YtlipkmdjpligeaaGreat
open Lib (hid)
set_option linter.unusedVariables false
set_option linter.unusedSimpArgs false
open Go.RowKit
set_option maxRecDepth 100000
set_option maxHeartbeats 4000000 in
theorem r6check_we (S : Nat → Prop) (A : Option Addr) (c : Nat) (l : List DelT) (w : World) (hS : ∀ b, S b → b < w.heap.size) (h : DelsL w S A l) (hn : l.length ≤ 140737488351232) (hd : l.length ≤ 64 → SmallD l) :
  Calls Tryz.prog 90 #[.slice A l.length c] w fun e w' => e = .returned (.int .i64 (checkD l)) ∧ Below w.heap.size w w' := by
 by_cases h64 : 64 < l.length
 ·have hr : checkD l = 3 := by unfold checkD; rw [if_pos h64]
  rw [hr]
  have d1 : decide ((l.length : Int) > 64) = true := decide_eq_true (by omega)
  clear h hS hd hr
  go_enter Tryz.func90, Tryz.ntmps90
  go_wp2_with fail
  go_ret
  exact ⟨rfl, Below.refl _ _⟩
 ·exact r6check_any S A c l w hS h hn (hd (by omega))
set_option maxHeartbeats 8000000 in
theorem r13deltas_any (S : Nat → Prop) (A : Option Addr) (c : Nat) (l : List DelT) (w : World) (hS : ∀ b, S b → b < w.heap.size) (h : DelsL w S A l) (hn : l.length ≤ 1172812402961) (hd : l.length ≤ 64 → SmallD l ∧ SmallZD l) :
  Calls Tryz.prog 50 #[.slice A l.length c] w fun e w' => e = .returned (.bool (mayDo l)) ∧ Below w.heap.size w w' := by
 have HL := hid h
 have HS := hid hS
 have HN := hid hn
 have HC := hid (r6check_we S A c l w hS h (by omega) (fun h => (hd h).1))
 obtain ⟨r, hr⟩ : ∃ r, r = mayDo l := ⟨_, rfl⟩
 have HR : Hid (r = (decide (checkD l = 0) && freeD l && !touchD l [idN])) := hid hr
 rw [← hr]
 obtain ⟨x, hx⟩ : ∃ x, x = checkD l := ⟨_, rfl⟩
 have HX := hid hx
 rw [← hx] at HC HR
 clear hr hx h hS hn hd
 go_enter Tryz.func50, Tryz.ntmps50
 go_wp2_with fail
 refine HC.out.mono ?_
 rintro e w1 ⟨rfl, hb⟩
 have HB := hid hb
 clear hb HC
 by_cases h0 : x = 0
 case neg =>
  have HE : Hid (r = false) := hid (by rw [HR.out, decide_eq_false h0]; rfl)
  have h1 : (x == 0) = false := beq_false_of_ne h0
  have h2 : (x != 0) = true := by simp [h0]
  go_wp2_with fail
  go_ret
  exact ⟨by rw [HE.out]; rfl, HB.out⟩
 subst h0
 obtain ⟨h64, hm⟩ := checkD_zero HX.out.symm
 have HF := hid (r6free_any S A c l w1 (fun b hb => Nat.lt_of_lt_of_le (HS.out b hb) HB.out.size) (HL.out.below HS.out HB.out) (by omega))
 have HT := hid (touch_head (l := l) fun d hd => mayD_path (hm d hd))
 have HM := hid hm
 clear hm
 cases hf : freeD l
 case false =>
  have HE : Hid (r = false) := hid (by rw [HR.out, hf, Bool.and_false]; rfl)
  rw [hf] at HF
  go_wp2_with fail
  refine HF.out.mono ?_
  rintro e w2 ⟨rfl, hb⟩
  have HB2 := hid (HB.out.trans (hb.mono HB.out.size))
  clear hb HF
  go_wp2_with fail
  go_ret
  exact ⟨by rw [HE.out]; rfl, HB2.out⟩
 rw [hf] at HF HR
 go_wp2_with fail
 refine HF.out.mono ?_
 rintro e w2 ⟨rfl, hb⟩
 have HB2 := hid (HB.out.trans (hb.mono HB.out.size))
 clear hb HF hf
 have HL2 := hid (HL.out.below HS.out HB2.out)
 have HR2 : Hid (r = !(l.any fun d => decide (d.path.head? = some idN))) := hid (by rw [HR.out, HT.out]; simp)
 go_wp2_with fail
 go_loopw [3] (fun i wr => ∃ k : Nat, i = .int .i64 k ∧ k ≤ l.length ∧ wr = w2 ∧ Hid (∀ j (h : j < l.length), j < k → l[j].path.head? ≠ some idN)) (fun i _ => l.length - (intOf i).toNat)
 case atStart => exact ⟨0, rfl, by omega, rfl, hid fun j _ h => absurd h (by omega)⟩
 case round =>
  obtain ⟨k, rfl, hk, hwr, HJ⟩ := hrel
  replace hwr := hwr.symm
  subst hwr
  by_cases hlt : k < l.length
  ·have d1 : decide ((k : Int) < (l.length : Int)) = true := decide_eq_true (by omega)
   obtain ⟨rb, roff, PA, pc, VA, vc, VA', vc', rfl, hrb, hdl, -, hc1, -⟩ := HL2.out.cells k hlt
   obtain ⟨PA1, pc1, VA1, vc1, VA2, vc2, he, -, hst, -⟩ := hdl
   simp only [Array.mk.injEq, List.cons.injEq, Value.slice.injEq, true_and, and_true] at he
   obtain ⟨⟨rfl, rfl⟩, -⟩ := he
   have hpos : 0 < l[k].path.length := mayP_pos (mayD_path (HM.out _ (List.getElem_mem hlt)))
   obtain ⟨sb, so, rfl, hsS, hcell⟩ := hst hpos
   have hc0 := (hcell 0 hpos).1
   rw [Nat.add_zero] at hc0
   have hhd : l[k].path.head? = some l[k].path[0] := by rw [List.head?_eq_getElem?, List.getElem?_eq_getElem hpos]
   obtain ⟨x, hx⟩ : ∃ x, x = l[k].path[0] := ⟨_, rfl⟩
   rw [← hx] at hc0 hhd
   have hposz : (0 : Int) < (l[k].path.length : Int) := by omega
   obtain ⟨m, hmm⟩ : ∃ m, m = l[k].path.length := ⟨_, rfl⟩
   rw [← hmm] at hc1 hposz
   have HH := hid hhd
   clear hcell hst hhd hx hmm
   by_cases he : x = idN
   ·have d2 : (x.toList == (⟨#[95, 105, 100]⟩ : ByteArray).toList) = true := by rw [he, str_beq]; exact decide_eq_true rfl
    have d3 : (x.toList == [95, 105, 100]) = true := idL ▸ d2
    have d4 : x.toList = [95, 105, 100] := by simpa using d3
    have HE : Hid (r = false) := hid (by
     rw [HR2.out, List.any_eq_true.2 ⟨l[k], List.getElem_mem hlt, decide_eq_true (by rw [HH.out, he])⟩]; rfl)
    clear he
    go_wp2_with fail
    go_ret
    exact ⟨by rw [HE.out]; rfl, HB2.out⟩
   ·have d2 : (x.toList == (⟨#[95, 105, 100]⟩ : ByteArray).toList) = false := by rw [str_beq]; exact decide_eq_false he
    have d3 : (x.toList == [95, 105, 100]) = false := idL ▸ d2
    have d4 : ¬ x.toList = [95, 105, 100] := by simpa using d3
    have HN2 := hid he
    clear he
    go_wp2_with fail
    go_roundw
    case rel => exact ⟨k + 1, by go_num, by omega, by first | rfl | trivial, hid fun j hj hjk => by
     by_cases e : j = k
     ·subst e
      rw [HH.out]
      exact fun h => HN2.out (by injection h)
     ·exact HJ.out j hj (by omega)⟩
    case measure => simp [intOf]; omega
  ·have d1 : decide ((k : Int) < (l.length : Int)) = false := decide_eq_false (by omega)
   have HE : Hid (r = true) := hid (by
    rw [HR2.out, List.any_eq_false.2 fun d hd => by
     obtain ⟨j, hj, rfl⟩ := List.getElem_of_mem hd
     simpa using HJ.out j hj (by omega)]
    rfl)
   go_wp2_with fail
   go_ret
   exact ⟨by rw [HE.out]; rfl, HB2.out⟩
theorem got_item (t : VT) : okT t [idN] = (itemT t idN).isSome ∧ ∀ x, itemT t idN = some x → gotT t [idN] = x := by
 unfold okT gotT
 rw [getT_item]
 cases h : itemT t idN with
 | none => exact ⟨rfl, fun x hx => by cases hx⟩
 | some u => exact ⟨rfl, fun x hx => by injection hx with hx⟩
set_option maxHeartbeats 8000000 in
theorem r13doc_any (S : Nat → Prop) (v id : VT) (cv ci : Value) (w : World) (hS : ∀ b, S b → b < w.heap.size) (hv : LV w S v cv) (hi : LV w S id ci) (dv : depthT v ≤ 4611686018427387903) (hid : mayT id = true) :
  Calls Tryz.prog 49 #[cv, ci] w fun e w' => e = .returned (.bool (holdE v id)) ∧ Below w.heap.size w w' := by
 obtain ⟨A, ca, A', ca', B, cb, B', cb', rfl, rfl, lens, a7, a6, b7, b6, v1, v2, hb0⟩ := two_vars hS hv hi
 obtain ⟨w2, hw2⟩ : ∃ W, W = ((w.alloc (.cells #[.int .i64 v.kind, .int .i64 v.num, .string v.text, .slice A v.items.length ca, .slice A' v.names.length ca'] 27)).alloc (.cells #[.int .i64 id.kind, .int .i64 id.num, .string id.text, .slice B id.items.length cb, .slice B' id.names.length cb'] 27)) := ⟨_, rfl⟩
 rw [← hw2] at v1 v2 hb0
 have HC := Lib.hid (rcheck_any S v _ w2 dv v1.s v1.v)
 obtain ⟨r, hr⟩ : ∃ r, r = holdE v id := ⟨_, rfl⟩
 have HR := Lib.hid hr
 rw [← hr]
 have HB0 := Lib.hid hb0
 have H1 := Lib.hid v1
 have H2 := Lib.hid v2
 have HDI := Lib.hid hid
 have y0 := v1.x.c0
 have y1 := v1.x.c1
 have y2 := v1.x.c2
 have y3 := v1.x.c3
 have y4 := v1.x.c4
 clear hr hb0 v1 v2 hid dv a7 a6 b7 b6 hv hi hS lens
 by_cases hk : v.kind = 7
 case neg =>
  have HE : Hid (r = false) := Lib.hid (by rw [HR.out]; unfold holdE; rw [decide_eq_false hk]; rfl)
  have d1 : (v.kind == 7) = false := beq_false_of_ne hk
  have d2 : (v.kind != 7) = true := by simp [hk]
  clear hk
  go_enter Tryz.func49, Tryz.ntmps49
  go_wp2_with fail
  rw [← hw2]
  go_ret
  exact ⟨by rw [HE.out]; rfl, HB0.out⟩
 have HKK := Lib.hid hk
 obtain ⟨kk, hkk⟩ : ∃ k, k = v.kind := ⟨_, rfl⟩
 have d1 : (kk == 7) = true := by rw [hkk]; exact beq_iff_eq.2 hk
 have d2 : (kk != 7) = false := by simp [hkk, hk]
 rw [← hkk] at y0 hw2 HC ⊢
 have HKE := Lib.hid hkk
 clear hk hkk
 go_enter Tryz.func49, Tryz.ntmps49
 go_wp2_with fail
 rw [← hw2]
 clear hw2
 refine HC.out.mono ?_
 rintro e w3 ⟨rfl, hb⟩
 have HB3 := Lib.hid (HB0.out.trans (hb.mono HB0.out.size))
 have h1 := H1.out.call hb
 have h2 := H2.out.call hb
 clear hb HC y0 y1 y2 y3 y4
 obtain ⟨x, hx⟩ : ∃ x, x = checkT v := ⟨_, rfl⟩
 have HX := Lib.hid hx
 rw [← hx]
 clear hx
 by_cases hx0 : x = 0
 case neg =>
  have HE : Hid (r = false) := Lib.hid (by rw [HR.out]; unfold holdE; rw [← HX.out, decide_eq_false hx0, Bool.and_false]; rfl)
  have e1 : (x == 0) = false := beq_false_of_ne hx0
  have e2 : (x != 0) = true := by simp [hx0]
  clear h1 h2
  go_wp2_with fail
  go_ret
  exact ⟨by rw [HE.out]; rfl, HB3.out⟩
 subst hx0
 have hmay := check_may HX.out.symm
 have y0 := h1.x.c0
 have y1 := h1.x.c1
 have y2 := h1.x.c2
 have y3 := h1.x.c3
 have y4 := h1.x.c4
 obtain ⟨w4, hw4⟩ : ∃ W, W = w3.alloc (.cells #[.string idN] 9) := ⟨_, rfl⟩
 have hb4 : Below w3.heap.size w3 w4 := by rw [hw4]; exact below_box _
 have hk4 : w4.heap[w3.heap.size]? = some (.cells #[.string idN] 9 (0, 0)) := by rw [hw4]; exact heap_alloc_new _ _
 have hz4 : w4.heap.size = w3.heap.size + 1 := by rw [hw4]; simp
 have HB4 := Lib.hid (HB3.out.trans (hb4.mono HB3.out.size))
 have h14 := h1.call hb4
 have h24 := h2.call hb4
 have hst : StrsAt w4 (fun b => S b ∨ b = w3.heap.size) (some ⟨w3.heap.size, 0, none⟩) [idN] := fun _ => ⟨_, 0, rfl, .inr rfl, fun i hi => by
  obtain rfl : i = 0 := by simpa using hi
  exact ⟨Go.Joins.cell_of_block hk4 0, show idN.size ≤ 140737488351232 by decide⟩⟩
 have HG := Lib.hid (rget_any (fun b => S b ∨ b = w3.heap.size) v _ (some ⟨w3.heap.size, 0, none⟩) 1 [idN] w4 (fun b hb => by
  rcases hb with hb | rfl
  ·exact h14.s b hb
  ·omega) (h14.v.imp fun b hb => .inl hb) hmay hst (by simp))
 have H24 := Lib.hid h24
 have HZ4 := Lib.hid hz4
 rw [← HKE.out] at HG y0
 clear hb4 hk4 hst h14 h24 h1 h2 hz4 hmay
 go_wp2_with fail
 rw [show (⟨#[95, 105, 100]⟩ : ByteArray) = idN from rfl, ← hw4]
 refine HG.out.mono ?_
 rintro e w5 ⟨u, rfl, hu, hb⟩
 clear hw4 y0 y1 y2 y3 y4 HG
 have HB5 := Lib.hid (HB4.out.trans (hb.mono HB4.out.size))
 have H25 := Lib.hid (H24.out.call hb)
 obtain ⟨UA, uc, UA', uc', rfl, -⟩ := hu.shape
 obtain ⟨hok, hgot⟩ := got_item v
 have HU := Lib.hid hu
 have HZ5 : Hid (w3.heap.size < w5.heap.size) := Lib.hid (by have := hb.size; have := HZ4.out; omega)
 cases hit : itemT v idN with
 | none =>
  have HE : Hid (r = false) := Lib.hid (by rw [HR.out]; unfold holdE; rw [hit, Bool.and_false])
  rw [hok, hit]
  have HB6 := Lib.hid (fun o => HB5.out.alloc HB5.out.size o)
  clear hu hb hok hgot hit
  go_wp2_with fail
  go_ret
  exact ⟨by rw [HE.out]; rfl, HB6.out _⟩
 | some y =>
  rw [hok, hit]
  rw [hgot y hit] at HU ⊢
  have hmy : mayT y = true := by
   unfold itemT at hit
   split at hit
   ·cases hit
   ·obtain ⟨hj, rfl⟩ := List.getElem?_eq_some_iff.1 hit
    exact may_item (check_may HX.out.symm) hj
  have HE : Hid (r = true ↔ y = id) := Lib.hid (by
   rw [HR.out, ← cmpT_zero y id hmy HDI.out]; unfold holdE
   rw [hit, ← HX.out, decide_eq_true HKK.out, decide_eq_true rfl]
   show decide (cmpT y id = 0) = true ↔ _
   exact decide_eq_true_iff)
  clear hu hb hok hgot hit hmy
  obtain ⟨w6, hw6⟩ : ∃ W, W = w5.alloc (.cells #[.int .i64 y.kind, .int .i64 y.num, .string y.text, .slice UA y.items.length uc, .slice UA' y.names.length uc'] 27) := ⟨_, rfl⟩
  have hb6 : Below w5.heap.size w5 w6 := by rw [hw6]; exact below_box _
  have HB6 := Lib.hid (HB5.out.trans (hb6.mono HB5.out.size))
  have h26 := H25.out.call hb6
  have hu6 : LV w6 (fun b => S b ∨ b = w3.heap.size) y (.agg #[.int .i64 y.kind, .int .i64 y.num, .string y.text, .slice UA y.items.length uc, .slice UA' y.names.length uc']) := HU.out.keep fun b hb => hb6.block b (by
   rcases hb with hb | rfl
   ·exact H25.out.s b hb
   ·exact HZ5.out)
  have HSM := Lib.hid (rsame_any (fun b => S b ∨ b = w3.heap.size) (depthT y) y id _ _ w6 (Nat.le_refl _) (fun b hb => by
   rcases hb with hb | rfl
   ·exact h26.s b hb
   ·exact Nat.lt_of_lt_of_le HZ5.out hb6.size) hu6 (h26.v.imp fun b hb => .inl hb))
  have y0 := h26.x.c0
  have y1 := h26.x.c1
  have y2 := h26.x.c2
  have y3 := h26.x.c3
  have y4 := h26.x.c4
  rw [hw6] at y0 y1 y2 y3 y4
  clear hb6 h26 hu6
  go_wp2_with fail
  rw [← hw6]
  refine HSM.out.mono ?_
  rintro e w7 ⟨⟨q, rfl, hq⟩, hb⟩
  have HB7 := Lib.hid (HB6.out.trans (hb.mono HB6.out.size))
  have HQ : Hid (r = q) := Lib.hid (by
   rw [Bool.eq_iff_iff, HE.out, hq])
  clear hb hq y0 y1 y2 y3 y4 hw6 HSM
  go_wp2_with fail
  go_ret
  exact ⟨by rw [HQ.out]; rfl, HB7.out⟩
end Go.Proofs.YtlipkmdjpligeaaGreat
