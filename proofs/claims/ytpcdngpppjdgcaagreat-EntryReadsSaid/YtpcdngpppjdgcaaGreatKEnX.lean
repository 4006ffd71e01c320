/- An entry from its code; are two the same: by the program. -/
import Derived.Test.YtpcdngpppjdgcaaGreatKEnP
import Derived.Test.YtpcdngpppjdgcaaGreatKRefD2
import Derived.Test.YtpcdngpppjdgcaaGreatKRegR
import Derived.Test.YtpcdngpppjdgcaaGreatKEnT
import Derived.Test.YtpcdngpppjdgcaaGreatKEnO
import Derived.Test.YtpcdngpppjdgcaaGreatKDlV
import Derived.Test.YtpcdngpppjdgcaaGreatKCodF
import Derived.Test.YtpcdngpppjdgcaaGreatKRefZ
import Derived.Deep.Slices
import Derived.SizedLaws
import Derived.ProofKit
import Derived.OpenShut
import Derived.ChangeOld
namespace Go.Proofs.YtpcdngpppjdgcaaGreat
open Lib (hid)
set_option linter.unusedVariables false
set_option linter.unusedSimpArgs false
open Go.RowKit
set_option maxRecDepth 100000
theorem below_onlyE {B : Nat} {a b c : World} (h : Below B a b) (k : Only b c B) (hB : B ≤ b.heap.size) : Below B a c := ⟨k.os.trans h.os, k.tape.trans h.tape, k.output.trans h.output, Nat.le_trans h.size k.size, fun i hi => (k.block i (by omega) (by intro e; injection e; omega)).trans (h.block i hi)⟩
def decEC (l : List UInt8) : Int := doneOf (rdE (some l)).2
def decEE (l : List UInt8) : EntT := if decEC l = 0 then (rdE (some l)).1 else emptyE
def DecRE (l : List UInt8) (w : World) (q : Ending) (w' : World) : Prop := ∃ cs, q = .returned (.tuple #[.agg cs, .int .i64 (decEC l)]) ∧ EntL w' (NewB w.heap.size w') (decEE l) cs ∧ Below w.heap.size w w'
theorem results_cell_e2 {fn : Func} {p u : Tmp} (h : fn.results = #[.cell p 28, .tmp u]) (tmps : Array Value) (w : World) (g : Nat) (t : TypeId) (cs : Array Value) (fr : Nat × Nat)
  (hp : tmps.getD p undef = .pointer (some ⟨g, 0, none⟩)) (hg : w.heap[g]? = some (.cells cs t fr)) (hn : cs.size = 17) :
  (results fn tmps).run Tryz.prog w = .ok (.tuple #[.agg cs, tmps.getD u undef]) w := by
 rw [results_cell_tmp h, hp]
 have e : (asAddr (.pointer (some ⟨g, 0, none⟩))).run Tryz.prog w = .ok ⟨g, 0, none⟩ w := by simp [asAddr]
 rw [e]
 simp only [Result.andThen]
 rw [run_loadVar_row w g t 28 cs fr _ hg Tryz.underlying28 rfl (by rw [hn]; kernel_rfl)]
set_option maxHeartbeats 16000000 in
theorem edecode_any (v : Value) (l : List UInt8) (w : World) (hr : Rd w w.heap.size v l) (hl : l.length ≤ 9223372036854775807) : Calls Tryz.prog 21 #[v] w (DecRE l w) := by
 obtain ⟨A, cap, hv, -⟩ := id hr
 obtain ⟨w0, hw0⟩ : ∃ W, W = w.alloc (.cells #[.int .i64 0, .int .i64 0, .string ⟨#[]⟩, .string ⟨#[]⟩, .int .i64 0, .int .i64 0, .string ⟨#[]⟩, .slice none 0 0, .slice none 0 0, .int .i64 0, .int .i64 0, .string ⟨#[]⟩, .slice none 0 0, .slice none 0 0, .slice none 0 0, .int .i64 0, .int .i64 0] 28) := ⟨_, rfl⟩
 have hz0 : w0.heap[w.heap.size]? = some (.cells #[.int .i64 0, .int .i64 0, .string ⟨#[]⟩, .string ⟨#[]⟩, .int .i64 0, .int .i64 0, .string ⟨#[]⟩, .slice none 0 0, .slice none 0 0, .int .i64 0, .int .i64 0, .string ⟨#[]⟩, .slice none 0 0, .slice none 0 0, .slice none 0 0, .int .i64 0, .int .i64 0] 28 (0, 0)) := by rw [hw0]; exact heap_alloc_new w _
 have hb0 : Below w.heap.size w w0 := by rw [hw0]; exact below_box _
 have hsz0 : w0.heap.size = w.heap.size + 1 := by rw [hw0]; simp
 have hc : (convert 35 9 v).run Tryz.prog w0 = .ok (.string ⟨l.toArray⟩) w0 := (hr.keep hb0).strY
 have HC := hid hc
 have HB0 := hid hb0
 have HZ0 := hid hz0
 have HSZ := hid hsz0
 have HL := hid hl
 clear hb0 hr hz0 hsz0 hc hv hl
 obtain ⟨E, hE⟩ : ∃ E, E = (rdE (some l)).1 := ⟨_, rfl⟩
 obtain ⟨st2, hst2⟩ : ∃ s, s = (rdE (some l)).2 := ⟨_, rfl⟩
 have HDEF : Hid (decEC l = doneOf st2 ∧ decEE l = if doneOf st2 = 0 then E else emptyE) := hid (by rw [hE, hst2]; exact ⟨rfl, rfl⟩)
 go_enter Tryz.func21, Tryz.ntmps21
 go_wp2_with fail
 rw [← hw0]
 clear hw0
 refine (from_any v _ _ HC.out).mono ?_
 rintro q w1 ⟨rfl, hs1, hb1⟩
 have hsl : SrcL w1 w0.heap.size (some l) := ⟨hs1, HL.out⟩
 have HC1 := hid (eread_any w0.heap.size (some l) w1 hsl)
 have HX1 : Hid (Below w.heap.size w w1 ∧ w1.heap[w.heap.size]? = some (.cells #[.int .i64 0, .int .i64 0, .string ⟨#[]⟩, .string ⟨#[]⟩, .int .i64 0, .int .i64 0, .string ⟨#[]⟩, .slice none 0 0, .slice none 0 0, .int .i64 0, .int .i64 0, .string ⟨#[]⟩, .slice none 0 0, .slice none 0 0, .slice none 0 0, .int .i64 0, .int .i64 0] 28 (0, 0)) ∧ w0.heap.size < w1.heap.size) := hid ⟨HB0.out.trans (hb1.mono (by have := HSZ.out; omega)), (hb1.block _ (by have := HSZ.out; omega)).trans HZ0.out, hsl.lt⟩
 clear hs1 hb1 hsl HC HB0 HZ0 HL
 go_wp2_with fail
 refine HC1.out.mono ?_
 rintro q w2 ⟨cs, rfl, he, hs2, ho2⟩
 rw [← hE] at he
 rw [← hst2] at hs2
 clear hE hst2
 obtain ⟨IA, ic, IA', ic', DA, dc, DA', dc', LA, lc, rfl, hat⟩ := he.at
 obtain ⟨w3, hw3⟩ : ∃ W, W = w2.alloc (.cells #[.int .i64 E.term, .int .i64 E.kind, .string E.coll, .string E.to, .int .i64 E.id.kind, .int .i64 E.id.num, .string E.id.text, .slice IA E.id.items.length ic, .slice IA' E.id.names.length ic', .int .i64 E.doc.kind, .int .i64 E.doc.num, .string E.doc.text, .slice DA E.doc.items.length dc, .slice DA' E.doc.names.length dc', .slice LA E.dels.length lc, .int .i64 E.session, .int .i64 E.number] 28) := ⟨_, rfl⟩
 have hb3 : Below w2.heap.size w2 w3 := by rw [hw3]; exact below_box _
 have HK3 : Hid (EBox w3 w2.heap.size E IA ic IA' ic' DA dc DA' dc' LA lc) := hid (by rw [hw3]; exact heap_alloc_new w2 _)
 have hgl := HX1.out.2.2
 have hsz := ho2.size
 have hss := HSZ.out
 have hsz3 : w3.heap.size = w2.heap.size + 1 := by rw [hw3]; simp
 have hbw : Below w.heap.size w1 w2 := ⟨ho2.os, ho2.tape, ho2.output, ho2.size, fun k hk => ho2.block k (by have := HX1.out.1.size; omega) (by rintro ⟨⟩; omega)⟩
 have HX3 : Hid (EntAt w3 (fun b => w1.heap.size ≤ b ∧ b < w2.heap.size) E IA ic IA' ic' DA dc DA' dc' LA lc ∧ SrcL w3 w0.heap.size st2 ∧ Below w.heap.size w w3 ∧ w3.heap[w.heap.size]? = some (.cells #[.int .i64 0, .int .i64 0, .string ⟨#[]⟩, .string ⟨#[]⟩, .int .i64 0, .int .i64 0, .string ⟨#[]⟩, .slice none 0 0, .slice none 0 0, .int .i64 0, .int .i64 0, .string ⟨#[]⟩, .slice none 0 0, .slice none 0 0, .slice none 0 0, .int .i64 0, .int .i64 0] 28 (0, 0)) ∧ w.heap.size < w1.heap.size ∧ w1.heap.size ≤ w2.heap.size ∧ w3.heap.size = w2.heap.size + 1) := hid
  ⟨hat.keep fun b hb => hb3.block b hb.2, hs2.of (hb3.block _ (by omega)), (HX1.out.1.trans hbw).trans (hb3.mono (by have := HX1.out.1.size; omega)), (hb3.block _ (by omega)).trans ((ho2.block _ (by omega) (by intro e; injection e; omega)).trans HX1.out.2.1), by omega, hsz, hsz3⟩
 clear he hs2 ho2 hat hb3 hgl hsz hss hsz3 hbw HX1 HC1
 go_wp2_with fail
 rw [← hw3]
 clear hw3
 refine (sdone_st _ _ _ HX3.out.2.1).mono ?_
 rintro q u ⟨rfl, hw⟩
 subst hw
 obtain ⟨x, hx⟩ : ∃ x, x = doneOf st2 := ⟨_, rfl⟩
 rw [← hx]
 rw [← hx] at HDEF
 clear hx
 by_cases h0 : x = 0
 ·have HF : Hid (decEC l = x ∧ decEE l = E) := hid ⟨HDEF.out.1, by rw [HDEF.out.2, if_pos h0]⟩
  subst h0
  clear HDEF
  go_wp2_with (first | (refine wpList_load_ent (by rfl) _ rfl w2.heap.size rfl _ _ HK3.out rfl ?_; simp only [acR, Act.put]) | (refine wpList_store_ent (by rfl) 28 _ _ rfl rfl w.heap.size 0 rfl _ #[.int .i64 E.term, .int .i64 E.kind, .string E.coll, .string E.to, .int .i64 E.id.kind, .int .i64 E.id.num, .string E.id.text, .slice IA E.id.items.length ic, .slice IA' E.id.names.length ic', .int .i64 E.doc.kind, .int .i64 E.doc.num, .string E.doc.text, .slice DA E.doc.items.length dc, .slice DA' E.doc.names.length dc', .slice LA E.dels.length lc, .int .i64 E.session, .int .i64 E.number] rfl rfl _ #[.int .i64 E.term, .int .i64 E.kind, .string E.coll, .string E.to, .int .i64 E.id.kind, .int .i64 E.id.num, .string E.id.text, .slice IA E.id.items.length ic, .slice IA' E.id.names.length ic', .int .i64 E.doc.kind, .int .i64 E.doc.num, .string E.doc.text, .slice DA E.doc.items.length dc, .slice DA' E.doc.names.length dc', .slice LA E.dels.length lc, .int .i64 E.session, .int .i64 E.number] 28 HX3.out.2.2.2.1 (by simp) (by kernel_rfl) (by simp [Value.oneCell']) (by kernel_rfl) ?_; intro w6 hk ho hz; have HK6 := hid hk; have HO6 := hid (And.intro ho hz); clear hk ho hz))
  refine bodyPost_ret (results_cell_e2 rfl _ _ w.heap.size _ _ _ rfl HK6.out rfl) rfl ?_
  unfold DecRE
  rw [HF.out.1, HF.out.2]
  have hx := HX3.out
  have hz6 := HO6.out.2
  exact ⟨_, rfl, ((hx.1.keep (only_keep HO6.out.1 fun b hb => ⟨by have := hb.2; omega, by have := hb.1; omega⟩)).imp fun b hb => ⟨by have := hb.1; omega, by have := hb.2; omega⟩).l, below_onlyE hx.2.2.1 HO6.out.1 (by omega)⟩
 ·have h1 : (x == 0) = false := beq_false_of_ne h0
  have h2 : (x != 0) = true := by simp [h0]
  have HF : Hid (decEC l = x ∧ decEE l = emptyE) := hid ⟨HDEF.out.1, by rw [HDEF.out.2, if_neg h0]⟩
  clear HDEF
  go_wp2_with (refine wpList_store_ent (by rfl) 28 _ _ rfl rfl w.heap.size 0 rfl _ #[.int .i64 0, .int .i64 0, .string ⟨#[]⟩, .string ⟨#[]⟩, .int .i64 0, .int .i64 0, .string ⟨#[]⟩, .slice none 0 0, .slice none 0 0, .int .i64 0, .int .i64 0, .string ⟨#[]⟩, .slice none 0 0, .slice none 0 0, .slice none 0 0, .int .i64 0, .int .i64 0] rfl rfl _ #[.int .i64 0, .int .i64 0, .string ⟨#[]⟩, .string ⟨#[]⟩, .int .i64 0, .int .i64 0, .string ⟨#[]⟩, .slice none 0 0, .slice none 0 0, .int .i64 0, .int .i64 0, .string ⟨#[]⟩, .slice none 0 0, .slice none 0 0, .slice none 0 0, .int .i64 0, .int .i64 0] 28 HX3.out.2.2.2.1 (by simp) (by kernel_rfl) (by simp [Value.oneCell']) (by kernel_rfl) ?_; intro w6 hk ho hz; have HK6 := hid hk; have HO6 := hid (And.intro ho hz); clear hk ho hz)
  refine bodyPost_ret (results_cell_e2 rfl _ _ w.heap.size _ _ _ rfl HK6.out rfl) rfl ?_
  unfold DecRE
  rw [HF.out.1, HF.out.2]
  exact ⟨_, rfl, emptyE_at _ _, below_onlyE HX3.out.2.2.1 HO6.out.1 HX3.out.2.2.1.size⟩
def sameC (a b : EntT) : Bool := decide (errE a = 0) && decide (encE a = encE b)
set_option maxHeartbeats 16000000 in
theorem esame_any (S T : Nat → Prop) (a b : EntT) (cs ds : Array Value) (w : World) (hS : ∀ k, S k → k < w.heap.size) (hT : ∀ k, T k → k < w.heap.size) (h : EntL w S a cs) (k : EntL w T b ds) (ha : SmE a) (hb : SmE b) :
  Calls Tryz.prog 30 #[.agg cs, .agg ds] w fun q w' => q = .returned (.bool (sameC a b)) ∧ Below w.heap.size w w' := by
 obtain ⟨IA, ic, IA', ic', DA, dc, DA', dc', LA, lc, rfl, hat⟩ := h.at
 obtain ⟨JA, jc, JA', jc', FA, fc, FA', fc', MA, mc, rfl, kat⟩ := k.at
 obtain ⟨w1, hw1⟩ : ∃ W, W = w.alloc (.cells #[.int .i64 a.term, .int .i64 a.kind, .string a.coll, .string a.to, .int .i64 a.id.kind, .int .i64 a.id.num, .string a.id.text, .slice IA a.id.items.length ic, .slice IA' a.id.names.length ic', .int .i64 a.doc.kind, .int .i64 a.doc.num, .string a.doc.text, .slice DA a.doc.items.length dc, .slice DA' a.doc.names.length dc', .slice LA a.dels.length lc, .int .i64 a.session, .int .i64 a.number] 28) := ⟨_, rfl⟩
 obtain ⟨w2, hw2⟩ : ∃ W, W = w1.alloc (.cells #[.int .i64 b.term, .int .i64 b.kind, .string b.coll, .string b.to, .int .i64 b.id.kind, .int .i64 b.id.num, .string b.id.text, .slice JA b.id.items.length jc, .slice JA' b.id.names.length jc', .int .i64 b.doc.kind, .int .i64 b.doc.num, .string b.doc.text, .slice FA b.doc.items.length fc, .slice FA' b.doc.names.length fc', .slice MA b.dels.length mc, .int .i64 b.session, .int .i64 b.number] 28) := ⟨_, rfl⟩
 have hb1 : Below w.heap.size w w1 := by rw [hw1]; exact below_box _
 have hb2 : Below w1.heap.size w1 w2 := by rw [hw2]; exact below_box _
 have hz1 : w1.heap.size = w.heap.size + 1 := by rw [hw1]; simp
 have HK1 : Hid (EBox w2 w.heap.size a IA ic IA' ic' DA dc DA' dc' LA lc) := hid ((hb2.block _ (by omega)).trans (by rw [hw1]; exact heap_alloc_new w _))
 have HK2 : Hid (EBox w2 (w.heap.size + 1) b JA jc JA' jc' FA fc FA' fc' MA mc) := hid (by rw [← hz1, hw2]; exact heap_alloc_new w1 _)
 have HB2 : Hid (Below w.heap.size w w2) := hid (hb1.trans (hb2.mono (by omega)))
 have HEA := hid (fun (u : World) (hu : Below w.heap.size w u) => eencode_any S a #[.int .i64 a.term, .int .i64 a.kind, .string a.coll, .string a.to, .int .i64 a.id.kind, .int .i64 a.id.num, .string a.id.text, .slice IA a.id.items.length ic, .slice IA' a.id.names.length ic', .int .i64 a.doc.kind, .int .i64 a.doc.num, .string a.doc.text, .slice DA a.doc.items.length dc, .slice DA' a.doc.names.length dc', .slice LA a.dels.length lc, .int .i64 a.session, .int .i64 a.number] u (fun b hb' => Nat.lt_of_lt_of_le (hS b hb') hu.size) (hat.below hS hu).l ha)
 have HEB := hid (fun (u : World) (hu : Below w.heap.size w u) => eencode_any T b #[.int .i64 b.term, .int .i64 b.kind, .string b.coll, .string b.to, .int .i64 b.id.kind, .int .i64 b.id.num, .string b.id.text, .slice JA b.id.items.length jc, .slice JA' b.id.names.length jc', .int .i64 b.doc.kind, .int .i64 b.doc.num, .string b.doc.text, .slice FA b.doc.items.length fc, .slice FA' b.doc.names.length fc', .slice MA b.dels.length mc, .int .i64 b.session, .int .i64 b.number] u (fun b hb' => Nat.lt_of_lt_of_le (hT b hb') hu.size) (kat.below hT hu).l hb)
 have HZ1 := hid hz1
 have HZ2 : Hid (w.heap.size + 1 < w2.heap.size) := hid (by rw [hw2]; simp; omega)
 clear hb1 hb2 hz1 h k hat kat hS hT ha hb
 go_enter Tryz.func30, Tryz.ntmps30
 go_wp2_with fail
 rw [← hw1, ← hw2]
 clear hw1 hw2
 go_wp2_with (refine wpList_load_ent (by rfl) _ rfl w.heap.size rfl _ _ HK1.out rfl ?_; simp only [acR, Act.put])
 refine (HEA.out _ HB2.out).mono ?_
 rintro q w3 ⟨v, rfl, ho, hb⟩
 have HO3 := hid ho
 have HB3 := hid (HB2.out.trans (hb.mono HB2.out.size))
 have HK3 := hid (HK2.out.below hb)
 clear ho hb HK2 HK1 HEA
 go_wp2_with (refine wpList_load_ent (by rfl) _ rfl (w.heap.size + 1) rfl _ _ HK3.out rfl ?_; simp only [acR, Act.put])
 refine (HEB.out _ HB3.out).mono ?_
 rintro q w4 ⟨v2, rfl, ho, hb⟩
 have HO4 := hid (And.intro (HO3.out.below hb) ho)
 have HB4 := hid (HB3.out.trans (hb.mono HB3.out.size))
 clear ho hb HO3 HB3 HEB
 by_cases h0 : errE a = 0
 ·have HE := hid h0
  rw [h0]
  go_wp2_with fail
  refine (byequal_any _ _ _ _ _ _ _ HO4.out.1.rdY HO4.out.2.rdY).mono ?_
  rintro q u ⟨rfl, hw⟩
  subst hw
  go_wp2_with fail
  go_ret
  exact ⟨by unfold sameC; rw [HE.out]; rfl, HB4.out⟩
 ·have h1 : (errE a == 0) = false := beq_false_of_ne h0
  have HE := hid h0
  go_wp2_with fail
  go_ret
  exact ⟨by unfold sameC; rw [decide_eq_false HE.out]; rfl, HB4.out⟩
theorem doneOf_two (st : Option (List UInt8)) (h : doneOf st ≠ 0) : doneOf st = 10 := by
 cases st with
 | none => rfl
 | some l =>
  by_cases he : l.isEmpty = true
  ·exact absurd (show (if l.isEmpty = true then (0 : Int) else 10) = 0 by rw [if_pos he]) h
  ·show (if l.isEmpty = true then (0 : Int) else 10) = 10
   rw [if_neg he]
set_option maxHeartbeats 16000000 in
theorem r13decode_any (v : Value) (l : List UInt8) (w : World) (hr : Rd w w.heap.size v l) : Calls Tryz.prog 23 #[v] w (DecRE l w) := by
 obtain ⟨A, cap, hv, -⟩ := id hr
 subst hv
 obtain ⟨w0, hw0⟩ : ∃ W, W = w.alloc (.cells #[.int .i64 0, .int .i64 0, .string ⟨#[]⟩, .string ⟨#[]⟩, .int .i64 0, .int .i64 0, .string ⟨#[]⟩, .slice none 0 0, .slice none 0 0, .int .i64 0, .int .i64 0, .string ⟨#[]⟩, .slice none 0 0, .slice none 0 0, .slice none 0 0, .int .i64 0, .int .i64 0] 28) := ⟨_, rfl⟩
 have hz0 : w0.heap[w.heap.size]? = some (.cells #[.int .i64 0, .int .i64 0, .string ⟨#[]⟩, .string ⟨#[]⟩, .int .i64 0, .int .i64 0, .string ⟨#[]⟩, .slice none 0 0, .slice none 0 0, .int .i64 0, .int .i64 0, .string ⟨#[]⟩, .slice none 0 0, .slice none 0 0, .slice none 0 0, .int .i64 0, .int .i64 0] 28 (0, 0)) := by rw [hw0]; exact heap_alloc_new w _
 have hb0 : Below w.heap.size w w0 := by rw [hw0]; exact below_box _
 have hsz0 : w0.heap.size = w.heap.size + 1 := by rw [hw0]; simp
 obtain ⟨w1, hw1⟩ : ∃ W, W = w0.alloc (.cells #[.slice A l.length cap, .bool false] 47) := ⟨_, rfl⟩
 have hb1 : Below w0.heap.size w0 w1 := by rw [hw1]; exact below_box _
 obtain ⟨g, hg⟩ : ∃ g, g = w.heap.size + 1 := ⟨_, rfl⟩
 have hsrc : RS w1 g w.heap.size (some l) := ⟨_, by rw [hg, ← hsz0, hw1]; exact heap_alloc_new w0 _, (hr.keep hb0).keep (hb1.mono (by omega))⟩
 have HX1 : Hid (Below w.heap.size w w1 ∧ w1.heap[w.heap.size]? = some (.cells #[.int .i64 0, .int .i64 0, .string ⟨#[]⟩, .string ⟨#[]⟩, .int .i64 0, .int .i64 0, .string ⟨#[]⟩, .slice none 0 0, .slice none 0 0, .int .i64 0, .int .i64 0, .string ⟨#[]⟩, .slice none 0 0, .slice none 0 0, .slice none 0 0, .int .i64 0, .int .i64 0] 28 (0, 0)) ∧ g < w1.heap.size ∧ g = w.heap.size + 1) := hid ⟨hb0.trans (hb1.mono (by omega)), (hb1.block _ (by omega)).trans hz0, hsrc.lt, hg⟩
 have HC1 := hid (r13read_any g w.heap.size (some l) w1 hsrc (by omega))
 clear hb0 hr hz0 hsz0 hb1 hsrc
 obtain ⟨E, hE⟩ : ∃ E, E = (rdE (some l)).1 := ⟨_, rfl⟩
 obtain ⟨st2, hst2⟩ : ∃ s, s = (rdE (some l)).2 := ⟨_, rfl⟩
 have HDEF : Hid (decEC l = doneOf st2 ∧ decEE l = if doneOf st2 = 0 then E else emptyE) := hid (by rw [hE, hst2]; exact ⟨rfl, rfl⟩)
 go_enter Tryz.func23, Tryz.ntmps23
 go_wp2_with fail
 rw [← hw0, ← hw1]
 try rw [← hg]
 clear hw0 hw1 hg
 refine HC1.out.mono ?_
 rintro q w2 ⟨cs, rfl, he, hs2, ho2⟩
 rw [← hE] at he
 rw [← hst2] at hs2
 clear hE hst2
 obtain ⟨IA, ic, IA', ic', DA, dc, DA', dc', LA, lc, rfl, hat⟩ := he.at
 obtain ⟨w3, hw3⟩ : ∃ W, W = w2.alloc (.cells #[.int .i64 E.term, .int .i64 E.kind, .string E.coll, .string E.to, .int .i64 E.id.kind, .int .i64 E.id.num, .string E.id.text, .slice IA E.id.items.length ic, .slice IA' E.id.names.length ic', .int .i64 E.doc.kind, .int .i64 E.doc.num, .string E.doc.text, .slice DA E.doc.items.length dc, .slice DA' E.doc.names.length dc', .slice LA E.dels.length lc, .int .i64 E.session, .int .i64 E.number] 28) := ⟨_, rfl⟩
 have hb3 : Below w2.heap.size w2 w3 := by rw [hw3]; exact below_box _
 have HK3 : Hid (EBox w3 w2.heap.size E IA ic IA' ic' DA dc DA' dc' LA lc) := hid (by rw [hw3]; exact heap_alloc_new w2 _)
 have hgl := HX1.out.2.2.1
 have hge := HX1.out.2.2.2
 have hsz := ho2.size
 have hsz3 : w3.heap.size = w2.heap.size + 1 := by rw [hw3]; simp
 have hbw : Below w.heap.size w1 w2 := ⟨ho2.os, ho2.tape, ho2.output, ho2.size, fun k hk => ho2.block k (by have := HX1.out.1.size; omega) (by rintro ⟨⟩; omega)⟩
 have HX3 : Hid (EntAt w3 (fun b => w1.heap.size ≤ b ∧ b < w2.heap.size) E IA ic IA' ic' DA dc DA' dc' LA lc ∧ RS w3 g w.heap.size st2 ∧ Below w.heap.size w w3 ∧ w3.heap[w.heap.size]? = some (.cells #[.int .i64 0, .int .i64 0, .string ⟨#[]⟩, .string ⟨#[]⟩, .int .i64 0, .int .i64 0, .string ⟨#[]⟩, .slice none 0 0, .slice none 0 0, .int .i64 0, .int .i64 0, .string ⟨#[]⟩, .slice none 0 0, .slice none 0 0, .slice none 0 0, .int .i64 0, .int .i64 0] 28 (0, 0)) ∧ w.heap.size < w1.heap.size ∧ w1.heap.size ≤ w2.heap.size ∧ w3.heap.size = w2.heap.size + 1) := hid
  ⟨hat.keep fun b hb => hb3.block b hb.2, hs2.belowE hb3 (by omega), (HX1.out.1.trans hbw).trans (hb3.mono (by have := HX1.out.1.size; omega)), (hb3.block _ (by omega)).trans ((ho2.block _ (by omega) (by intro e; injection e; omega)).trans HX1.out.2.1), by omega, hsz, hsz3⟩
 clear he hs2 ho2 hat hb3 hgl hge hsz hsz3 hbw HX1 HC1
 go_wp2_with fail
 rw [← hw3]
 clear hw3
 refine (rsdone_any _ _ _ _ HX3.out.2.1).mono ?_
 rintro q u ⟨rfl, hw⟩
 subst hw
 obtain ⟨x, hx⟩ : ∃ x, x = doneOf st2 := ⟨_, rfl⟩
 have HT : Hid (x ≠ 0 → x = 10) := hid (by rw [hx]; exact doneOf_two st2)
 rw [← hx]
 rw [← hx] at HDEF
 clear hx
 by_cases h0 : x = 0
 ·have HF : Hid (decEC l = 0 ∧ decEE l = E) := hid ⟨HDEF.out.1.trans h0, by rw [HDEF.out.2, if_pos h0]⟩
  subst h0
  clear HDEF HT
  go_wp2_with (first | (refine wpList_load_ent (by rfl) _ rfl w2.heap.size rfl _ _ HK3.out rfl ?_; simp only [acR, Act.put]) | (refine wpList_store_ent (by rfl) 28 _ _ rfl rfl w.heap.size 0 rfl _ #[.int .i64 E.term, .int .i64 E.kind, .string E.coll, .string E.to, .int .i64 E.id.kind, .int .i64 E.id.num, .string E.id.text, .slice IA E.id.items.length ic, .slice IA' E.id.names.length ic', .int .i64 E.doc.kind, .int .i64 E.doc.num, .string E.doc.text, .slice DA E.doc.items.length dc, .slice DA' E.doc.names.length dc', .slice LA E.dels.length lc, .int .i64 E.session, .int .i64 E.number] rfl rfl _ #[.int .i64 E.term, .int .i64 E.kind, .string E.coll, .string E.to, .int .i64 E.id.kind, .int .i64 E.id.num, .string E.id.text, .slice IA E.id.items.length ic, .slice IA' E.id.names.length ic', .int .i64 E.doc.kind, .int .i64 E.doc.num, .string E.doc.text, .slice DA E.doc.items.length dc, .slice DA' E.doc.names.length dc', .slice LA E.dels.length lc, .int .i64 E.session, .int .i64 E.number] 28 HX3.out.2.2.2.1 (by simp) (by kernel_rfl) (by simp [Value.oneCell']) (by kernel_rfl) ?_; intro w6 hk ho hz; have HK6 := hid hk; have HO6 := hid (And.intro ho hz); clear hk ho hz))
  refine bodyPost_ret (results_cell_e2 rfl _ _ w.heap.size _ _ _ rfl HK6.out rfl) rfl ?_
  unfold DecRE
  rw [HF.out.1, HF.out.2]
  have hx := HX3.out
  have hz6 := HO6.out.2
  exact ⟨_, rfl, ((hx.1.keep (only_keep HO6.out.1 fun b hb => ⟨by have := hb.2; omega, by have := hb.1; omega⟩)).imp fun b hb => ⟨by have := hb.1; omega, by have := hb.2; omega⟩).l, below_onlyE hx.2.2.1 HO6.out.1 (by omega)⟩
 ·have h1 : (x == 0) = false := beq_false_of_ne h0
  have h2 : (x != 0) = true := by simp [h0]
  have HF : Hid (decEC l = 10 ∧ decEE l = emptyE) := hid ⟨HDEF.out.1.trans (HT.out h0), by rw [HDEF.out.2, if_neg h0]⟩
  clear HDEF
  go_wp2_with (refine wpList_store_ent (by rfl) 28 _ _ rfl rfl w.heap.size 0 rfl _ #[.int .i64 0, .int .i64 0, .string ⟨#[]⟩, .string ⟨#[]⟩, .int .i64 0, .int .i64 0, .string ⟨#[]⟩, .slice none 0 0, .slice none 0 0, .int .i64 0, .int .i64 0, .string ⟨#[]⟩, .slice none 0 0, .slice none 0 0, .slice none 0 0, .int .i64 0, .int .i64 0] rfl rfl _ #[.int .i64 0, .int .i64 0, .string ⟨#[]⟩, .string ⟨#[]⟩, .int .i64 0, .int .i64 0, .string ⟨#[]⟩, .slice none 0 0, .slice none 0 0, .int .i64 0, .int .i64 0, .string ⟨#[]⟩, .slice none 0 0, .slice none 0 0, .slice none 0 0, .int .i64 0, .int .i64 0] 28 HX3.out.2.2.2.1 (by simp) (by kernel_rfl) (by simp [Value.oneCell']) (by kernel_rfl) ?_; intro w6 hk ho hz; have HK6 := hid hk; have HO6 := hid (And.intro ho hz); clear hk ho hz)
  refine bodyPost_ret (results_cell_e2 rfl _ _ w.heap.size _ _ _ rfl HK6.out rfl) rfl ?_
  unfold DecRE
  rw [HF.out.1, HF.out.2]
  exact ⟨_, rfl, emptyE_at _ _, below_onlyE HX3.out.2.2.1 HO6.out.1 HX3.out.2.2.1.size⟩
end Go.Proofs.YtpcdngpppjdgcaaGreat

/- Statements whose order Go leaves open, walked as they stand in the text, with a relation of one's choice for what must stay. -/
namespace Go.Proofs.YtpcdngpppjdgcaaGreat
set_option linter.unusedVariables false
set_option linter.unusedSimpArgs false
open Go.RowKit Go.Sort
section
variable {P : Program} {ops : Array Oper} {Q : Exit → Act → World → Prop} {md : Region.Mode} {R : World → World → Prop}
def wpLexR (R : World → World → Prop) (P : Program) (ops : Array Oper) (Q : Exit → Act → World → Prop) : List Oper → Act → World → Prop
  | [], a, w => Q .normal a w
  | o :: rest, a, w =>
    if Region.wanted o (yielded ops a.tmps) then
      (if isPure o then o.quiet P a (CRR R w) (fun a' => wpLexR R P ops Q rest a' w)
       else o.wp P a w (fun a' w' => R w w' ∧ wpLexR R P ops Q rest a' w') Q)
    else wpLexR R P ops Q rest (a.put o.dst undef) w
theorem anyR_one (hrr : ∀ w, R w w) {i : Nat} {oi : Oper} {v : Value} (hi : ops[i]? = some oi) (f : Nat) (listed : Array Bool) (a : Act) (w : World) (hr : i ∈ Region.ready md ops listed) (ho : ∀ j ∈ Region.ready md ops listed, j = i)
    (hy : YieldsIf P ops (fun u => R w u) oi v a) (H : anyR R [] P md ops Q f (listed.setIfInBounds i true) (a.put oi.dst v) w) : anyR R [] P md ops Q (f + 1) listed a w :=
  ⟨fun h => absurd hr (by rw [h]; exact List.not_mem_nil), fun j hj => by
    obtain rfl := ho j hj
    exact hy.wpOp hi (hrr _) ⟨.inr (hrr _), H⟩⟩
theorem anyR_of_lex (hrr : ∀ w, R w w) (htr : ∀ a b c, R a b → R b c → R a c) (hsel : Region.noSelect ops = true) (hQ : ∀ c d v a w, Q (.panic c) (Act.put a d v) w → Q (.panic c) a w) :
    ∀ (r : List Oper) (i : Nat) (listed : Array Bool) (a : Act) (w : World), r = ops.toList.drop i → i ≤ ops.size → FirstN listed ops.size i → lexFrom md ops i r = true → wpLexR R P ops Q r a w → anyR R [] P md ops Q r.length listed a w
  | [], i, listed, a, w, hr, hi, hf, hB, h => by
    have hlen : ops.size ≤ i := by
      have := congrArg List.length hr
      simp at this; omega
    refine ⟨?_, h⟩
    refine List.eq_nil_iff_forall_not_mem.2 fun j hj => ?_
    obtain ⟨h1, o, h2, -⟩ := mem_ready.1 hj
    have hjn := (Array.getElem?_eq_some_iff.1 h2).1
    rw [hf.getD, if_pos hjn] at h1
    simp at h1; omega
  | o :: r, i, listed, a, w, hr, hi, hf, hB, h => by
    have hin : i < ops.size := by
      have := congrArg List.length hr
      simp at this; omega
    have hoi : ops[i]? = some o := by
      have := congrArg (fun l => l[0]?) hr
      simp at this; exact this.symm
    have hr' : r = ops.toList.drop (i + 1) := by
      have := congrArg List.tail hr
      simpa using this
    have hat : ∀ j oj, ops[j]? = some oj → i < j → oj ∈ r := fun j oj hj hij => by
      rw [hr']
      refine List.mem_iff_getElem?.2 ⟨j - (i + 1), ?_⟩
      rw [List.getElem?_drop]
      have : i + 1 + (j - (i + 1)) = j := by omega
      rw [this]; simpa using hj
    unfold lexFrom at hB
    simp only [Bool.and_eq_true] at hB
    obtain ⟨⟨hE, hk⟩, hB'⟩ := hB
    have hrd : i ∈ Region.ready md ops listed := by
      refine mem_ready.2 ⟨by rw [hf.getD, if_pos hin]; simp, o, hoi, fun e he hb => ?_⟩
      have := List.all_eq_true.1 hE e (by simpa using he)
      rw [hb] at this
      simp at this
      have h3 : e.on < i := by simpa [Nat.blt_eq] using this
      rw [hf.getD, if_pos (by omega)]; simpa using h3
    have hun : ∀ j oj, ops[j]? = some oj → j ≠ i → listed.getD j true = false → i < j := fun j oj hj hne hu => by
      rw [hf.getD, if_pos (Array.getElem?_eq_some_iff.1 hj).1] at hu
      simp at hu; omega
    have hF := hf.step hin
    unfold wpLexR at h
    simp only [Bool.or_eq_true] at hk
    rcases hk with hk | hk
    · have hone : ∀ j ∈ Region.ready md ops listed, j = i := fun j hj => by
        obtain ⟨h1, oj, h2, h3⟩ := mem_ready.1 hj
        refine Classical.byContradiction fun hne => ?_
        have hm := hat j oj h2 (hun j oj h2 hne h1)
        have hl := List.all_eq_true.1 hk oj hm
        unfold late at hl
        obtain ⟨e, he, hb⟩ := List.any_eq_true.1 hl
        simp only [Bool.and_eq_true, Nat.ble_eq] at hb
        have := h3 e (by simpa using he) hb.1
        rw [hf.getD] at this
        split at this
        · simp at this; omega
        · cases this
      by_cases hw : Region.wanted o (yielded ops a.tmps) = true
      · by_cases hp : isPure o = true
        · rw [if_pos hw, if_pos hp] at h
          obtain ⟨v, h1, h2⟩ := h
          exact anyR_one hrr hoi _ listed a w hrd hone (yieldsR hp hw h1) (anyR_of_lex hrr htr hsel hQ r (i + 1) _ _ w hr' (by omega) hF hB' h2)
        · rw [if_pos hw, if_neg hp] at h
          refine ⟨fun h0 => absurd hrd (by rw [h0]; exact List.not_mem_nil), fun j hj => ?_⟩
          obtain rfl := hone j hj
          unfold wpOp
          simp only [hoi]
          rw [if_pos hw]
          exact .inl (Oper.wp_mono (fun a' w' h' => ⟨.inr h'.1, anyR_of_lex hrr htr hsel hQ r (j + 1) _ a' w' hr' (by omega) hF hB' h'.2⟩) h)
      · rw [if_neg hw] at h
        exact anyR_one hrr hoi _ listed a w hrd hone (.inr ⟨by simpa using hw, rfl⟩) (anyR_of_lex hrr htr hsel hQ r (i + 1) _ _ w hr' (by omega) hF hB' h)
    · simp only [Bool.and_eq_true] at hk
      obtain ⟨hp, hk⟩ := hk
      have hfree : ∀ j oj, ops[j]? = some oj → j ≠ i → listed.getD j true = false → (∀ e ∈ oj.after, Region.binds md e = true → e.on ≠ i) → o.apart ops oj = true := fun j oj hj hne hu hno => by
        have hl := List.all_eq_true.1 hk oj (hat j oj hj (hun j oj hj hne hu))
        simp only [Bool.or_eq_true] at hl
        rcases hl with hl | hl
        · obtain ⟨e, he, hb⟩ := List.any_eq_true.1 hl
          simp only [Bool.and_eq_true] at hb
          exact absurd (Nat.eq_of_beq_eq_true hb.2) (hno e (by simpa using he) hb.1)
        · exact hl
      have hT0 : (lastWait md ops [] i = true ∧ ∀ a b, R a b → R a b) ∨ ∀ a b, R a b := .inl ⟨rfl, fun _ _ h => h⟩
      by_cases hw : Region.wanted o (yielded ops a.tmps) = true
      · rw [if_pos hw, if_pos hp] at h
        obtain ⟨v, h1, h2⟩ := h
        exact anyR_first hrr R hrr htr hoi hT0 hsel hQ _ listed a w hfree hrd (yieldsR hp hw h1) (anyR_of_lex hrr htr hsel hQ r (i + 1) _ _ w hr' (by omega) hF hB' h2)
      · rw [if_neg hw] at h
        exact anyR_first hrr R hrr htr hoi hT0 hsel hQ _ listed a w hfree hrd (.inr ⟨by simpa using hw, rfl⟩) (anyR_of_lex hrr htr hsel hQ r (i + 1) _ _ w hr' (by omega) hF hB' h)
theorem wp_region_lexR (R : World → World → Prop) (hrr : ∀ w, R w w) (htr : ∀ a b c, R a b → R b c → R a c) {l : List Oper} {id : Nat} {a : Act} {w : World} (hm : P.follows .mixedOrders = true) (hB : okLex l = true) (hQ : ∀ c d v a w, Q (.panic c) (Act.put a d v) w → Q (.panic c) a w)
    (h : wpLexR R P l.toArray Q l a w.drew) : (Code.region id l.toArray true).wp P Q a w := by
  unfold okLex at hB
  simp only [Bool.and_eq_true] at hB
  refine wp_region_any hm (any_of_anyR (R := R) (T := []) _ _ _ _ ?_)
  have := anyR_of_lex (md := .any) (ops := l.toArray) hrr htr hB.1 hQ l 0 (Array.replicate l.toArray.size false) a w.drew (by simp) (Nat.zero_le _) ⟨by simp, fun k hk => by simp at hk; simp [hk]⟩ hB.2 h
  simpa using this
theorem lexR_seg {w : World} : ∀ (seg rest : List Oper) (a : Act), seg.all isPure = true → wpQuiet P ops (CRR R w) (fun a' => wpLexR R P ops Q rest a' w) seg a → wpLexR R P ops Q (seg ++ rest) a w
  | [], rest, a, _, h => h
  | o :: seg, rest, a, hp, h => by
    simp only [List.all_cons, Bool.and_eq_true] at hp
    rw [List.cons_append]
    unfold wpLexR
    unfold wpQuiet at h
    by_cases hw : Region.wanted o (yielded ops a.tmps) = true
    · rw [if_pos hw] at h
      rw [if_pos hw, if_pos hp.1]
      obtain ⟨v, h1, h2⟩ := h
      exact ⟨v, h1, lexR_seg seg rest _ hp.2 h2⟩
    · rw [if_neg hw] at h
      rw [if_neg hw]
      exact lexR_seg seg rest _ hp.2 h
theorem lexR_pure {l : List Oper} {a : Act} {w : World} (h : wpQuiet P ops (CRR R w) (fun a' => wpLexR R P ops Q (l.dropWhile isPure) a' w) (l.takeWhile isPure) a) : wpLexR R P ops Q l a w := by
  have := lexR_seg _ (l.dropWhile isPure) a (all_takeWhile l) h
  rwa [List.takeWhile_append_dropWhile] at this
theorem lexR_call {o : Oper} {rest : List Oper} {a : Act} {w : World} (hp : isPure o = false)
    (h : ∀ K : Act → World → Prop, (∀ a' w', R w w' → wpLexR R P ops Q rest a' w' → K a' w') → if Region.wanted o (yielded ops a.tmps) = true then o.wp P a w K Q else K (a.put o.dst undef) w) : wpLexR R P ops Q (o :: rest) a w := by
  have h1 := h (fun a' w' => R w w' ∧ wpLexR R P ops Q rest a' w') (fun a' w' h1 h2 => ⟨h1, h2⟩)
  unfold wpLexR
  by_cases hw : Region.wanted o (yielded ops a.tmps) = true
  · rw [if_pos hw] at h1
    rw [if_pos hw, if_neg (by rw [hp]; exact Bool.false_ne_true)]
    exact h1
  · rw [if_neg hw] at h1
    rw [if_neg hw]
    exact h1.2
end
def KeepG (g : Nat) (w w' : World) : Prop := w.heap.size ≤ w'.heap.size ∧ ∀ b, b < w.heap.size → b ≠ g → w'.heap[b]? = w.heap[b]?
theorem KeepG.refl (g : Nat) (w : World) : KeepG g w w := ⟨Nat.le_refl _, fun _ _ _ => rfl⟩
theorem KeepG.trans (g : Nat) (a b c : World) (h : KeepG g a b) (k : KeepG g b c) : KeepG g a c := ⟨Nat.le_trans h.1 k.1, fun i hi hg => (k.2 i (Nat.lt_of_lt_of_le hi h.1) hg).trans (h.2 i hi hg)⟩
theorem KeepG.of {g : Nat} {w w' : World} (h : Below w.heap.size w w') : KeepG g w w' := ⟨h.size, fun b hb _ => h.block b hb⟩
instance (g : Nat) (w : World) : Inhabited (LaterR (KeepG g) w) := ⟨⟨w, KeepG.refl g w⟩⟩
theorem cell_laterG {g : Nat} {w : World} {a : Addr} {v : Value} (h : w.cell? a = some v) (hB : a.block < w.heap.size) (hg : a.block ≠ g) : ∀ p : LaterR (KeepG g) w, p.u.cell? a = some v := fun p => (World.cell?_of_block (p.h.2 a.block hB hg)).trans h
end Go.Proofs.YtpcdngpppjdgcaaGreat

/- The lives of layer 13. -/
namespace Go.Proofs.YtpcdngpppjdgcaaGreat
open Lib (hid)
set_option linter.unusedVariables false
set_option linter.unusedSimpArgs false
open Go.RowKit
set_option maxRecDepth 100000
def e0L : EntT := ⟨3, 1, ⟨#[]⟩, ⟨#[]⟩, noneV, noneV, [], 0, 0⟩
def e1L : EntT := ⟨1, 5, ⟨#[99]⟩, ⟨#[]⟩, noneV, noneV, [], 2, 5⟩
def b0L : List UInt8 := [3, 1, 0, 0]
def b1L : List UInt8 := [1, 5, 2, 5, 1, 99]
theorem e0_enc : encE e0L = b0L := by decide +kernel
theorem e0_err : errE e0L = 0 := by decide +kernel
theorem e1_enc : encE e1L = b1L := by decide +kernel
theorem e1_err : errE e1L = 0 := by decide +kernel
theorem ez_err : errE emptyE = 1 := by decide +kernel
theorem e0_may : mayE e0L = true := by decide +kernel
theorem e0_same : sameC e0L e0L = true := by decide +kernel
theorem b0_dec : decEE b0L = e0L := by kernel_rfl
theorem b0_err : decEC b0L = 0 := by kernel_rfl
theorem b1_read : rdE (some b1L) = (e1L, some []) := by kernel_rfl
theorem n_cL : nameC ⟨#[99]⟩ = true := by decide +kernel
theorem n_dL : nameC ⟨#[36]⟩ = false := by decide +kernel
theorem smL (e : EntT) (h1 : e.id = noneV) (h2 : e.doc = noneV) (h3 : e.dels = []) : SmE e := by
 refine ⟨?_, ?_, ?_, ?_, fun _ => ?_⟩
 ·rw [h1]; exact Nat.le_trans (show depthT noneV ≤ 8 by decide) (by omega)
 ·rw [h2]; exact Nat.le_trans (show depthT noneV ≤ 8 by decide) (by omega)
 ·rw [h1]; exact Nat.le_trans (show sizeT noneV ≤ 8 by decide) (by omega)
 ·rw [h2]; exact Nat.le_trans (show sizeT noneV ≤ 8 by decide) (by omega)
 ·rw [h3]; exact ⟨fun d hd => absurd hd List.not_mem_nil, fun d hd => absurd hd List.not_mem_nil⟩
theorem e0_at (w : World) (S : Nat → Prop) : EntL w S e0L #[.int .i64 3, .int .i64 1, .string ⟨#[]⟩, .string ⟨#[]⟩, .int .i64 0, .int .i64 0, .string ⟨#[]⟩, .slice none 0 0, .slice none 0 0, .int .i64 0, .int .i64 0, .string ⟨#[]⟩, .slice none 0 0, .slice none 0 0, .slice none 0 0, .int .i64 0, .int .i64 0] :=
 ⟨none, 0, none, 0, none, 0, none, 0, none, 0, rfl, leaf_lv _ _ _ _ _ (by unfold Rng; omega) (by unfold Rng; omega) (by decide), leaf_lv _ _ _ _ _ (by unfold Rng; omega) (by unfold Rng; omega) (by decide), nil_dels _ _, by show 0 ≤ 0; omega, fun _ => rfl, by show 0 ≤ _; omega, by unfold Rng e0L; simp only; omega, by unfold Rng e0L; simp only; omega, by unfold Rng e0L; simp only; omega, by unfold Rng e0L; simp only; omega, by show (⟨#[]⟩ : ByteArray).size ≤ _; decide, by show (⟨#[]⟩ : ByteArray).size ≤ _; decide⟩
theorem e1_at (w : World) (S : Nat → Prop) : EntL w S e1L #[.int .i64 1, .int .i64 5, .string ⟨#[99]⟩, .string ⟨#[]⟩, .int .i64 0, .int .i64 0, .string ⟨#[]⟩, .slice none 0 0, .slice none 0 0, .int .i64 0, .int .i64 0, .string ⟨#[]⟩, .slice none 0 0, .slice none 0 0, .slice none 0 0, .int .i64 2, .int .i64 5] :=
 ⟨none, 0, none, 0, none, 0, none, 0, none, 0, rfl, leaf_lv _ _ _ _ _ (by unfold Rng; omega) (by unfold Rng; omega) (by decide), leaf_lv _ _ _ _ _ (by unfold Rng; omega) (by unfold Rng; omega) (by decide), nil_dels _ _, by show 0 ≤ 0; omega, fun _ => rfl, by show 0 ≤ _; omega, by unfold Rng e1L; simp only; omega, by unfold Rng e1L; simp only; omega, by unfold Rng e1L; simp only; omega, by unfold Rng e1L; simp only; omega, by show (⟨#[99]⟩ : ByteArray).size ≤ _; decide, by show (⟨#[]⟩ : ByteArray).size ≤ _; decide⟩
theorem wpQuiet_load_ent {P : Program} {ops : Array Oper} {C : World → Prop} {Q : Act → Prop} {rest : List Oper} {o : Oper} {a : Act} (hP : P = Tryz.prog) (hw : Region.wanted o (yielded ops a.tmps) = true) (x : Operand) (ho : o.op = .load 28 x)
  (g : Nat) (hx : a.eval x = .pointer (some ⟨g, 0, none⟩)) (cs : Array Value) (hg : ∀ u, C u → u.heap[g]? = some (.cells cs 28 (0, 0))) (hn : cs.size = 17)
  (h : wpQuiet P ops C Q rest (a.put o.dst (.agg cs))) : wpQuiet P ops C Q (o :: rest) a := by
 subst hP
 unfold wpQuiet
 rw [if_pos hw]
 refine ⟨.agg cs, fun u hu => ?_, h⟩
 have e := run_loadVar_row (P := Tryz.prog) u g 28 28 cs (0, 0) _ (hg u hu) Tryz.underlying28 rfl (by rw [hn]; kernel_rfl)
 unfold Oper.quietAt execOp
 simp only [ho, hx, Instr.loadAt, Instr.sureAddr, Sem.run_bind, Sem.run_pure, Result.andThen_ok, e]
 exact ⟨rfl, rfl⟩
theorem KeepG.only {g : Nat} {w w' : World} (h : Only w w' g) : KeepG g w w' := ⟨h.size, fun b hb hg => h.block b hb (fun e => hg (by cases e; rfl))⟩
theorem OwnB.convG {w : World} {B g : Nat} {v : Value} {l : List UInt8} (h : Rd w B v l) (hB : B ≤ w.heap.size) (hg : B ≤ g) : ∀ p : LaterR (KeepG g) w, (convert 35 9 v).run Tryz.prog p.u = .ok (.string ⟨l.toArray⟩) p.u := fun p => by
 obtain ⟨A, cap, h1, h2, h3, h4⟩ := h
 refine Rd.strY (B := B) ⟨A, cap, h1, h2, h3, fun hl => ?_⟩
 obtain ⟨b, off, e, hb, hc⟩ := h4 hl
 exact ⟨b, off, e, hb, fun i hi => (World.cell?_of_block (p.h.2 b (by omega) (by omega))).trans (hc i hi)⟩
theorem fieldE2 (a0 a1 a2 a3 a4 a5 a6 a7 a8 a9 a10 a11 a12 a13 a14 a15 a16 : Value) (w : World) : (Instr.field 28 (.agg #[a0, a1, a2, a3, a4, a5, a6, a7, a8, a9, a10, a11, a12, a13, a14, a15, a16]) 2).run Tryz.prog w = .ok a2 w := by kernel_rfl
structure T13 (w u : World) (z g : Nat) (st : Option (List UInt8)) (cs : Array Value) : Prop where
 b : Below w.heap.size w u
 x : u.heap[z]? = some (.cells cs 28 (0, 0))
 e : EntL u (fun b => b < g) e0L cs
 s : SrcL u g st
 zg : z < g
 wg : w.heap.size ≤ g
theorem T13.call {w u u' : World} {z g : Nat} {st : Option (List UInt8)} {cs : Array Value} (h : T13 w u z g st cs) (hb : Below u.heap.size u u') : T13 w u' z g st cs :=
 have hg := h.s.lt
 ⟨h.b.trans (hb.mono h.b.size), (hb.block z (Nat.lt_trans h.zg hg)).trans h.x, h.e.keep fun b hb' => hb.block b (Nat.lt_trans hb' hg), h.s.of (hb.block g hg), h.zg, h.wg⟩
theorem T13.only {w u u' : World} {z g : Nat} {st st' : Option (List UInt8)} {cs : Array Value} (h : T13 w u z g st cs) (ho : Only u u' g) (hs : SrcL u' g st') : T13 w u' z g st' cs :=
 have hg := h.s.lt
 have hw := h.wg
 ⟨⟨ho.os.trans h.b.os, ho.tape.trans h.b.tape, ho.output.trans h.b.output, Nat.le_trans h.b.size ho.size, fun k hk => (ho.block k (by omega) (by intro e; injection e; omega)).trans (h.b.block k hk)⟩, (ho.block z (Nat.lt_trans h.zg hg) (by intro e; have := h.zg; injection e; omega)).trans h.x, h.e.keep fun b hb' => ho.block b (Nat.lt_trans hb' hg) (by intro e; injection e; omega), hs, h.zg, h.wg⟩
theorem T13.box {w u : World} {z g : Nat} {st : Option (List UInt8)} {cs : Array Value} (h : T13 w u z g st cs) : ∀ v, CRR (KeepG g) u v → v.heap[z]? = some (.cells cs 28 (0, 0)) := fun v ⟨p, hp⟩ => by
 rw [hp]
 exact (p.h.2 z (Nat.lt_trans h.zg h.s.lt) (Nat.ne_of_lt h.zg)).trans h.x
theorem T13.sub {w u : World} {z g : Nat} {st : Option (List UInt8)} {cs : Array Value} (h : T13 w u z g st cs) : ∀ b, b < g → b < u.heap.size := fun b hb => Nat.lt_trans hb h.s.lt
set_option maxHeartbeats 32000000 in
theorem lives13_any (w : World) : Calls Tryz.prog 13 #[] w fun e w' => e = .returned (.bool true) ∧ Below w.heap.size w w' := by
 have HE0 := hid (eencode_any (fun _ => False) e0L _ w (fun b hb => hb.elim) (e0_at _ _) (smL _ rfl rfl rfl))
 go_enter Tryz.func13, Tryz.ntmps13
 go_wp2_with fail
 refine HE0.out.mono ?_
 rintro q w1 ⟨v1, rfl, ho1, hb1⟩
 rw [e0_err]
 rw [e0_enc] at ho1
 have HX1 : Hid (Below w.heap.size w w1 ∧ Rd w1 w1.heap.size v1 b0L) := hid ⟨hb1, ho1.rdY⟩
 have HD := hid (edecode_any v1 b0L w1 ho1.rdY (by decide))
 clear ho1 hb1 HE0
 go_wp2_with fail
 refine HD.out.mono ?_
 rintro q w2 ⟨cs, rfl, he, hb⟩
 rw [b0_err]
 rw [b0_dec] at he
 obtain ⟨IA, ic, IA', ic', DA, dc, DA', dc', LA, lc, rfl, hat⟩ := he.at
 obtain ⟨z, hz⟩ : ∃ z, z = w2.heap.size := ⟨_, rfl⟩
 obtain ⟨w3, hw3⟩ : ∃ W, W = w2.alloc (.cells #[.int .i64 e0L.term, .int .i64 e0L.kind, .string e0L.coll, .string e0L.to, .int .i64 e0L.id.kind, .int .i64 e0L.id.num, .string e0L.id.text, .slice IA e0L.id.items.length ic, .slice IA' e0L.id.names.length ic', .int .i64 e0L.doc.kind, .int .i64 e0L.doc.num, .string e0L.doc.text, .slice DA e0L.doc.items.length dc, .slice DA' e0L.doc.names.length dc', .slice LA e0L.dels.length lc, .int .i64 e0L.session, .int .i64 e0L.number] 28) := ⟨_, rfl⟩
 have hb3 : Below w2.heap.size w2 w3 := by rw [hw3]; exact below_box _
 have HX3 : Hid (Below w.heap.size w w3 ∧ Rd w3 w3.heap.size v1 b0L ∧ EBox w3 z e0L IA ic IA' ic' DA dc DA' dc' LA lc ∧ EntAt w3 (fun b => b < w3.heap.size) e0L IA ic IA' ic' DA dc DA' dc' LA lc) := hid
  ⟨(HX1.out.1.trans (hb.mono HX1.out.1.size)).trans (hb3.mono (by have := HX1.out.1.size; have := hb.size; omega)), ((HX1.out.2.keep hb).keep (hb3.mono hb.size)).upE (by have := hb.size; have := hb3.size; omega), by rw [hw3, hz]; exact heap_alloc_new w2 _, (hat.imp (fun b hb' => hb'.2)).below (fun b hb' => hb') hb3 |>.imp fun b hb' => Nat.lt_of_lt_of_le hb' hb3.size⟩
 have HE1 := hid (eencode_any (fun _ => False) e1L _ w3 (fun b hb => hb.elim) (e1_at _ _) (smL _ rfl rfl rfl))
 clear hb3 he hat hb HX1 HD
 go_wp2_with fail
 rw [← hw3]
 try rw [← hz]
 clear hw3 hz
 refine HE1.out.mono ?_
 rintro q w4 ⟨v2, rfl, ho4, hb4⟩
 rw [e1_err]
 rw [e1_enc] at ho4
 have HX4 : Hid (Below w.heap.size w w4 ∧ Rd w4 w4.heap.size v1 b0L ∧ EBox w4 z e0L IA ic IA' ic' DA dc DA' dc' LA lc ∧ EntAt w4 (fun b => b < w4.heap.size) e0L IA ic IA' ic' DA dc DA' dc' LA lc ∧ Rd w4 w4.heap.size v2 b1L) := hid
  ⟨HX3.out.1.trans (hb4.mono HX3.out.1.size), (HX3.out.2.1.keep hb4).upE hb4.size, HX3.out.2.2.1.below hb4, (HX3.out.2.2.2.below (fun b hb' => hb') hb4).imp fun b hb' => Nat.lt_of_lt_of_le hb' hb4.size, ho4.rdY⟩
 have HE2 := hid (eencode_any (fun _ => False) emptyE _ w4 (fun b hb => hb.elim) (emptyE_at _ _) (smL _ rfl rfl rfl))
 clear ho4 hb4 HX3 HE1
 go_wp2_with fail
 refine HE2.out.mono ?_
 rintro q w5 ⟨v3, rfl, -, hb5⟩
 rw [ez_err]
 have HX5 : Hid (Below w.heap.size w w5 ∧ Rd w5 w5.heap.size v1 b0L ∧ EBox w5 z e0L IA ic IA' ic' DA dc DA' dc' LA lc ∧ EntAt w5 (fun b => b < w5.heap.size) e0L IA ic IA' ic' DA dc DA' dc' LA lc ∧ Rd w5 w5.heap.size v2 b1L) := hid
  ⟨HX4.out.1.trans (hb5.mono HX4.out.1.size), (HX4.out.2.1.keep hb5).upE hb5.size, HX4.out.2.2.1.below hb5, (HX4.out.2.2.2.1.below (fun b hb' => hb') hb5).imp fun b hb' => Nat.lt_of_lt_of_le hb' hb5.size, (HX4.out.2.2.2.2.keep hb5).upE hb5.size⟩
 have HF := hid (from_any v2 ⟨b1L.toArray⟩ w5 HX5.out.2.2.2.2.strY)
 clear hb5 HX4 HE2
 go_wp2_with fail
 refine HF.out.mono ?_
 rintro q w6 ⟨rfl, hs6, hb6⟩
 obtain ⟨g, hg⟩ : ∃ g, g = w5.heap.size := ⟨_, rfl⟩
 have hsl : SrcL w6 w5.heap.size (some b1L) := ⟨hs6, by decide⟩
 rw [← hg] at hsl hb6 ⊢
 have HX6 : Hid (Below w.heap.size w w6 ∧ Rd w6 g v1 b0L ∧ EBox w6 z e0L IA ic IA' ic' DA dc DA' dc' LA lc ∧ EntAt w6 (fun b => b < g) e0L IA ic IA' ic' DA dc DA' dc' LA lc ∧ Rd w6 g v2 b1L ∧ SrcL w6 g (some b1L) ∧ z < g ∧ g < w6.heap.size ∧ w.heap.size ≤ g) := hid (by
  have h := HX5.out
  have hzl := h.2.2.1.lt
  rw [← hg] at h hzl
  have hw := h.1.size
  rw [← hg] at hw
  exact ⟨h.1.trans (hb6.mono hw), h.2.1.keep hb6, (hb6.block _ hzl).trans h.2.2.1, h.2.2.2.1.below (fun b hb' => hb') hb6, h.2.2.2.2.keep hb6, hsl, hzl, hsl.lt, hw⟩)
 clear hs6 hb6 hsl hg HX5 HF
 go_wp2_with fail
 try simp only [List.append_eq, List.cons_append, List.nil_append]
 refine wp_region_lexR (KeepG g) (KeepG.refl g) (KeepG.trans g) (by kernel_rfl) (by kernel_rfl) (fun _ d _ _ _ h => by cases d <;> exact h) ?_
 have T : Hid (Below w.heap.size w w6.drew ∧ EBox w6.drew z e0L IA ic IA' ic' DA dc DA' dc' LA lc ∧ EntAt w6.drew (fun b => b < g) e0L IA ic IA' ic' DA dc DA' dc' LA lc ∧ SrcL w6.drew g (some b1L) ∧ z < g ∧ g < w6.drew.heap.size ∧ w.heap.size ≤ g) := hid (by
  have h := HX6.out
  exact ⟨h.1.drew, h.2.2.1, h.2.2.2.1.keep fun _ _ => rfl, h.2.2.2.2.2.1.of rfl, h.2.2.2.2.2.2.1, h.2.2.2.2.2.2.2.1, h.2.2.2.2.2.2.2.2⟩)
 have HR : Hid (Rd w6.drew g v1 b0L ∧ Rd w6.drew g v2 b1L) := hid ⟨HX6.out.2.1.keep ((Below.refl _ _).drew), HX6.out.2.2.2.2.1.keep ((Below.refl _ _).drew)⟩
 clear HX6
 generalize w6.drew = u0 at *
 have q0 : ∀ p : LaterR (KeepG g) u0, p.u.cell? ⟨z, 0, none⟩ = some (.int .i64 3) := cell_laterG (g := g) (w := u0) T.out.2.1.g0 (Nat.lt_trans T.out.2.2.2.2.1 T.out.2.2.2.2.2.1) (Nat.ne_of_lt T.out.2.2.2.2.1)
 have f1 : ∀ p : LaterR (KeepG g) u0, (convert 35 9 v1).run Tryz.prog p.u = .ok (.string ⟨#[3, 1, 0, 0]⟩) p.u := OwnB.convG (g := g) HR.out.1 (Nat.le_of_lt T.out.2.2.2.2.2.1) (Nat.le_refl g)
 have f2 : ∀ p : LaterR (KeepG g) u0, (convert 35 9 v2).run Tryz.prog p.u = .ok (.string ⟨#[1, 5, 2, 5, 1, 99]⟩) p.u := OwnB.convG (g := g) HR.out.2 (Nat.le_of_lt T.out.2.2.2.2.2.1) (Nat.le_refl g)
 refine lexR_pure ?_
 simp only [List.takeWhile, List.dropWhile, isPure, Nat.reduceBNe]
 repeat (go_big_quiet_step (fail))
 refine wpQuiet_nil ?_
 clear q0 f1 f2 HR
 refine lexR_call rfl (fun K hK => ?_)
 go_simp
 refine (eread_any g (some b1L) u0 T.out.2.2.2.1).mono ?_
 rintro q u1 ⟨cs, rfl, he, hs, ho⟩
 refine hK _ _ (KeepG.only ho) ?_
 clear hK K
 try simp only [Act.put]
 rw [b1_read] at he hs
 have T : Hid (T13 w u1 z g (some []) #[.int .i64 e0L.term, .int .i64 e0L.kind, .string e0L.coll, .string e0L.to, .int .i64 e0L.id.kind, .int .i64 e0L.id.num, .string e0L.id.text, .slice IA e0L.id.items.length ic, .slice IA' e0L.id.names.length ic', .int .i64 e0L.doc.kind, .int .i64 e0L.doc.num, .string e0L.doc.text, .slice DA e0L.doc.items.length dc, .slice DA' e0L.doc.names.length dc', .slice LA e0L.dels.length lc, .int .i64 e0L.session, .int .i64 e0L.number]) := hid (T13.only (st := some b1L) ⟨T.out.1, T.out.2.1, T.out.2.2.1.l, T.out.2.2.2.1, T.out.2.2.2.2.1, T.out.2.2.2.2.2.2⟩ ho hs)
 obtain ⟨JA, jc, JA', jc', FA, fc, FA', fc', MA, mc, rfl, -⟩ := he.at
 have fd : ∀ p : LaterR (KeepG g) u1, (Instr.field 28 (.agg #[.int .i64 e1L.term, .int .i64 e1L.kind, .string e1L.coll, .string e1L.to, .int .i64 e1L.id.kind, .int .i64 e1L.id.num, .string e1L.id.text, .slice JA e1L.id.items.length jc, .slice JA' e1L.id.names.length jc', .int .i64 e1L.doc.kind, .int .i64 e1L.doc.num, .string e1L.doc.text, .slice FA e1L.doc.items.length fc, .slice FA' e1L.doc.names.length fc', .slice MA e1L.dels.length mc, .int .i64 e1L.session, .int .i64 e1L.number]) 2).run Tryz.prog p.u = .ok (.string ⟨#[99]⟩) p.u := fun p => fieldE2 _ _ _ _ _ _ _ _ _ _ _ _ _ _ _ _ _ p.u
 clear he hs ho
 refine lexR_pure ?_
 simp only [List.takeWhile, List.dropWhile, isPure, Nat.reduceBNe]
 repeat (go_big_quiet_step (fail))
 refine wpQuiet_nil ?_
 clear fd
 refine lexR_call rfl (fun K hK => ?_)
 go_simp
 refine (sdone_st g (some []) u1 T.out.s).mono ?_
 rintro q _ ⟨rfl, rfl⟩
 refine hK _ _ (KeepG.refl g _) ?_
 clear hK K
 try simp only [Act.put]
 rw [show doneOf (some ([] : List UInt8)) = 0 from rfl]
 have HQ := hid T.out.box
 refine lexR_pure ?_
 simp only [List.takeWhile, List.dropWhile, isPure, Nat.reduceBNe]
 repeat (first | (refine wpQuiet_load_ent rfl (by rfl) _ rfl z rfl _ HQ.out rfl ?_; simp only [acR, Act.put]) | go_big_quiet_step (fail))
 refine wpQuiet_nil ?_
 clear HQ
 refine lexR_call rfl (fun K hK => ?_)
 go_simp
 refine (emay_any (fun b => b < g) e0L _ u1 T.out.sub T.out.e (smL _ rfl rfl rfl)).mono ?_
 rintro q u2 ⟨rfl, hb⟩
 refine hK _ _ (KeepG.of hb) ?_
 clear hK K
 try simp only [Act.put]
 rw [e0_may]
 have T := hid (T.out.call hb)
 clear hb
 have HQ := hid T.out.box
 refine lexR_pure ?_
 simp only [List.takeWhile, List.dropWhile, isPure, Nat.reduceBNe]
 repeat (first | (refine wpQuiet_load_ent rfl (by rfl) _ rfl z rfl _ HQ.out rfl ?_; simp only [acR, Act.put]) | go_big_quiet_step (fail))
 refine wpQuiet_nil ?_
 clear HQ
 refine lexR_call rfl (fun K hK => ?_)
 go_simp
 refine (eclone_any (fun b => b < g) e0L _ u2 T.out.sub T.out.e (by decide)).mono ?_
 rintro q u3 ⟨ds, rfl, hd, hb⟩
 refine hK _ _ (KeepG.of hb) ?_
 clear hK K
 try simp only [Act.put]
 have T := hid (T.out.call hb)
 have HD := hid hd
 clear hb hd
 refine lexR_call rfl (fun K hK => ?_)
 go_simp
 refine (esame_any (fun b => b < g) (fun b => b < u3.heap.size) e0L e0L _ ds u3 T.out.sub (fun b hb => hb) T.out.e HD.out (smL _ rfl rfl rfl) (smL _ rfl rfl rfl)).mono ?_
 rintro q u4 ⟨rfl, hb⟩
 refine hK _ _ (KeepG.of hb) ?_
 clear hK K
 try simp only [Act.put]
 rw [e0_same]
 have T := hid (T.out.call hb)
 clear hb HD
 refine lexR_pure ?_
 simp only [List.takeWhile, List.dropWhile, isPure, Nat.reduceBNe]
 repeat (go_big_quiet_step (fail))
 refine wpQuiet_nil ?_
 refine lexR_call rfl (fun K hK => ?_)
 go_simp
 refine (ename_any ⟨#[99]⟩ u4).mono ?_
 rintro q u5 ⟨rfl, hb⟩
 refine hK _ _ (KeepG.of hb) ?_
 clear hK K
 try simp only [Act.put]
 rw [n_cL]
 have T := hid (T.out.call hb)
 clear hb
 refine lexR_pure ?_
 simp only [List.takeWhile, List.dropWhile, isPure, Nat.reduceBNe]
 repeat (go_big_quiet_step (fail))
 refine wpQuiet_nil ?_
 refine lexR_call rfl (fun K hK => ?_)
 go_simp
 refine (ename_any ⟨#[36]⟩ u5).mono ?_
 rintro q u6 ⟨rfl, hb⟩
 refine hK _ _ (KeepG.of hb) ?_
 clear hK K
 try simp only [Act.put]
 rw [n_dL]
 have T := hid (T.out.call hb)
 clear hb
 refine lexR_pure ?_
 simp only [List.takeWhile, List.dropWhile, isPure, Nat.reduceBNe]
 repeat (go_big_quiet_step (fail))
 refine wpQuiet_nil ?_
 unfold wpLexR
 have HF := hid T.out.b
 clear T
 go_wp2_with fail
 go_ret
 exact ⟨rfl, HF.out⟩
theorem encE_may {e : EntT} (hm : mayE e = true) : encE e = codeE e ∧ errE e = 0 := ⟨by unfold encE; rw [if_pos hm], by unfold errE; rw [if_pos hm]⟩
theorem EBox.later {w : World} {g : Nat} {e : EntT} {IA : Option Addr} {ic : Nat} {IA' : Option Addr} {ic' : Nat} {DA : Option Addr} {dc : Nat} {DA' : Option Addr} {dc' : Nat} {LA : Option Addr} {lc : Nat} (h : EBox w g e IA ic IA' ic' DA dc DA' dc' LA lc) : ∀ u, CR w.heap.size w u → u.heap[g]? = some (.cells #[.int .i64 e.term, .int .i64 e.kind, .string e.coll, .string e.to, .int .i64 e.id.kind, .int .i64 e.id.num, .string e.id.text, .slice IA e.id.items.length ic, .slice IA' e.id.names.length ic', .int .i64 e.doc.kind, .int .i64 e.doc.num, .string e.doc.text, .slice DA e.doc.items.length dc, .slice DA' e.doc.names.length dc', .slice LA e.dels.length lc, .int .i64 e.session, .int .i64 e.number] 28 (0, 0)) := fun u ⟨p, hp⟩ => by
 rw [hp]
 exact (p.h.block g h.lt).trans h
theorem same_true {w : World} {e : EntT} {a b : Array Value} (ha : EntL w (fun b => b < w.heap.size) e a) (hb : EntL w (fun b => b < w.heap.size) e b) : Calls Tryz.prog 16 #[.agg a, .agg b] w fun q w' => q = .returned (.bool true) ∧ Below w.heap.size w w' :=
 (r13same_any (fun b => b < w.heap.size) e e a b w (fun _ h => h) ha hb).mono fun q w' ⟨⟨r, h1, h2⟩, h3⟩ => ⟨by rw [h1, h2.2 rfl], h3⟩
theorem EntAt.up {w w' : World} {e : EntT} {IA : Option Addr} {ic : Nat} {IA' : Option Addr} {ic' : Nat} {DA : Option Addr} {dc : Nat} {DA' : Option Addr} {dc' : Nat} {LA : Option Addr} {lc : Nat} (h : EntAt w (fun b => b < w.heap.size) e IA ic IA' ic' DA dc DA' dc' LA lc) (hb : Below w.heap.size w w') : EntAt w' (fun b => b < w'.heap.size) e IA ic IA' ic' DA dc DA' dc' LA lc :=
 (h.below (fun _ h => h) hb).imp fun _ h => Nat.lt_of_lt_of_le h hb.size
end Go.Proofs.YtpcdngpppjdgcaaGreat

/- Bytes that came in. -/
namespace Go.Proofs.YtpcdngpppjdgcaaGreat.OpenB
set_option linter.unusedVariables false
set_option linter.unusedSimpArgs false
open Go.ChangeShapes Go.WideShapes Go.ChangeAt Go.RowKit Go.Joins Go.Deep
set_option linter.unusedVariables false
section
variable {H : Type} {enc : TypeId × Value → H} {W : World} {sp : Nat → Bool}
theorem add_at (b off i : Nat) : ((⟨b, off, none⟩ : Addr).add i) = ⟨b, off + i, none⟩ := by
 unfold Addr.add
 split
 ·next h => simp [h]
 ·rfl

theorem open_bytes {fuel : Nat} {A : Option Addr} {len cap : Nat} {x : DataW H × List MemPlace} (h : DataW.trod enc Tryz.prog W 0 sp true fuel 35 [.slice A len cap] = some x) :
  (∃ l : List UInt8, len = l.length ∧ Rd W W.heap.size (.slice A l.length cap) l) ∧ (len = 0 ∨ ∃ es rs, x.1 = .slice es rs ∧ es.length = len) := by
 rcases open_ints Tryz.underlying35 Tryz.underlying5 (by kernel_rfl) h with ⟨hcs, _⟩ | ⟨a, len', cap', zs, hcs, _, hl, hm, hz, hxx, hcell, hwf⟩
 ·simp only [List.cons.injEq, Value.slice.injEq, and_true] at hcs
  obtain ⟨rfl, rfl, rfl⟩ := hcs
  exact ⟨⟨[], rfl, none, 0, rfl, by simp, ⟨by decide, fun _ => rfl⟩, fun h => absurd h (by simp)⟩, .inl rfl⟩
 ·simp only [List.cons.injEq, Value.slice.injEq, and_true] at hcs
  obtain ⟨rfl, rfl, rfl⟩ := hcs
  have hzl : len ≤ zs.length := by rw [hz]; split <;> omega
  have hlen : len = ((zs.take len).map fun z => UInt8.ofNat z.toNat).length := by simp; omega
  refine ⟨⟨(zs.take len).map fun z => UInt8.ofNat z.toNat, hlen, some a, cap, rfl, by rw [← hlen]; exact hl, ⟨by unfold maxLen at hm; omega, fun h => by cases h⟩, fun hp => ?_⟩, .inr ⟨_, _, by rw [hxx], by simp [lits]; omega⟩⟩
  rw [← hlen] at hp
  obtain ⟨b, off, spot⟩ := a
  have h0 := hcell 0 (by omega)
  obtain rfl : spot = none := by simpa [Addr.add] using World.cell?_spot h0
  refine ⟨b, off, rfl, ?_, fun i hi => ?_⟩
  ·rw [add_at] at h0; exact World.block_lt_of_cell? W _ h0
  ·rw [← hlen] at hi
   have hi2 : i < zs.length := by omega
   have h1 := hcell i hi2
   rw [add_at] at h1
   rw [h1]
   have hb := bounds_u8 (hwf zs[i] (List.getElem_mem hi2))
   have e : zs.getD i 0 = zs[i] := by simp [List.getD, List.getElem?_eq_getElem hi2]
   rw [e]
   simp only [List.getElem_map, List.getElem_take]
   rw [ofNat_toNat _ (by omega)]
   congr 2
   omega
end
end Go.Proofs.YtpcdngpppjdgcaaGreat.OpenB
