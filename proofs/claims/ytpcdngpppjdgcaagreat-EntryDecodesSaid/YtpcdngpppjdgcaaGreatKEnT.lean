/- A copy of an entry, by the program. -/
import Derived.Test.YtpcdngpppjdgcaaGreatKEnC
import Derived.Test.YtpcdngpppjdgcaaGreatKTrI
namespace Go.Proofs.YtpcdngpppjdgcaaGreat
open Lib (hid)
set_option linter.unusedVariables false
set_option linter.unusedSimpArgs false
open Go.RowKit
set_option maxRecDepth 100000
theorem only_below {B : Nat} {a w w' : World} {g : Nat} (hB : B ≤ a.heap.size) (h : Below B a w) (ho : Only w w' g) (hz : w'.heap.size = w.heap.size) (hg : B ≤ g) : Below B a w' :=
 ⟨ho.os.trans h.os, ho.tape.trans h.tape, ho.output.trans h.output, by rw [hz]; exact h.size, fun b hb => (ho.block b (Nat.lt_of_lt_of_le hb (Nat.le_trans hB h.size)) (by intro e; injection e; omega)).trans (h.block b hb)⟩
theorem only_keep {w w' : World} {g : Nat} {S : Nat → Prop} (ho : Only w w' g) (hS : ∀ b, S b → b < w.heap.size ∧ b ≠ g) : ∀ b, S b → w'.heap[b]? = w.heap[b]? := fun b hb => ho.block b (hS b hb).1 (by intro e; injection e with e; exact (hS b hb).2 e)
theorem only_at {w w' : World} {g p : Nat} {ob : Obj} (ho : Only w w' g) (h : w.heap[p]? = some ob) (hne : p ≠ g) : w'.heap[p]? = some ob := (ho.block p (Array.getElem?_eq_some_iff.1 h).1 (by intro e; injection e with e; exact hne e)).trans h
set_option maxHeartbeats 8000000 in
theorem eclone_any (S : Nat → Prop) (e : EntT) (cs : Array Value) (w : World) (hS : ∀ b, S b → b < w.heap.size) (h : EntL w S e cs) (hl : e.dels.length ≤ 1099511627776) :
  Calls Tryz.prog 17 #[.agg cs] w fun r w' => ∃ cs', r = .returned (.agg cs') ∧ EntL w' (fun b => b < w'.heap.size) e cs' ∧ Below w.heap.size w w' := by
 obtain ⟨IA, ic, IA', ic', DA, dc, DA', dc', LA, lc, rfl, hat⟩ := h.at
 obtain ⟨w2, hw2⟩ : ∃ W, W = (w.alloc (.cells #[.int .i64 e.term, .int .i64 e.kind, .string e.coll, .string e.to, .int .i64 e.id.kind, .int .i64 e.id.num, .string e.id.text, .slice IA e.id.items.length ic, .slice IA' e.id.names.length ic', .int .i64 e.doc.kind, .int .i64 e.doc.num, .string e.doc.text, .slice DA e.doc.items.length dc, .slice DA' e.doc.names.length dc', .slice LA e.dels.length lc, .int .i64 e.session, .int .i64 e.number] 28)).alloc (.cells #[.int .i64 0, .int .i64 0, .string ⟨#[]⟩, .string ⟨#[]⟩, .int .i64 0, .int .i64 0, .string ⟨#[]⟩, .slice none 0 0, .slice none 0 0, .int .i64 0, .int .i64 0, .string ⟨#[]⟩, .slice none 0 0, .slice none 0 0, .slice none 0 0, .int .i64 0, .int .i64 0] 28) := ⟨_, rfl⟩
 have hz1 : (w.alloc (.cells #[.int .i64 e.term, .int .i64 e.kind, .string e.coll, .string e.to, .int .i64 e.id.kind, .int .i64 e.id.num, .string e.id.text, .slice IA e.id.items.length ic, .slice IA' e.id.names.length ic', .int .i64 e.doc.kind, .int .i64 e.doc.num, .string e.doc.text, .slice DA e.doc.items.length dc, .slice DA' e.doc.names.length dc', .slice LA e.dels.length lc, .int .i64 e.session, .int .i64 e.number] 28)).heap.size = w.heap.size + 1 := by simp
 have hz2 : w2.heap.size = w.heap.size + 2 := by rw [hw2]; simp
 have hbb : w2.heap[w.heap.size + 1]? = some (.cells #[.int .i64 0, .int .i64 0, .string ⟨#[]⟩, .string ⟨#[]⟩, .int .i64 0, .int .i64 0, .string ⟨#[]⟩, .slice none 0 0, .slice none 0 0, .int .i64 0, .int .i64 0, .string ⟨#[]⟩, .slice none 0 0, .slice none 0 0, .slice none 0 0, .int .i64 0, .int .i64 0] 28 (0, 0)) := by rw [hw2, ← hz1]; exact heap_alloc_new _ _
 have hba : w2.heap[w.heap.size]? = some (.cells #[.int .i64 e.term, .int .i64 e.kind, .string e.coll, .string e.to, .int .i64 e.id.kind, .int .i64 e.id.num, .string e.id.text, .slice IA e.id.items.length ic, .slice IA' e.id.names.length ic', .int .i64 e.doc.kind, .int .i64 e.doc.num, .string e.doc.text, .slice DA e.doc.items.length dc, .slice DA' e.doc.names.length dc', .slice LA e.dels.length lc, .int .i64 e.session, .int .i64 e.number] 28 (0, 0)) := by rw [hw2, Below.heap_alloc _ _ _ (by omega)]; exact heap_alloc_new _ _
 have h02 : Below w.heap.size w w2 := by rw [hw2]; exact (below_box _).alloc (by omega) _
 have HB2 := hid h02
 have HK2 : Hid (EBox w2 w.heap.size e IA ic IA' ic' DA dc DA' dc' LA lc) := hid hba
 have HZ2 := hid hbb
 have HZS := hid hz2
 have HS := hid hS
 have HA := hid hat
 have HLL := hid hl
 have HC := hid (clone_own S e.id _ w2 (fun b hb => Nat.lt_of_lt_of_le (hS b hb) h02.size) (hat.below hS h02).id)
 clear h02 hba hbb hS h hat hz1 hz2 hl
 go_enter Tryz.func17, Tryz.ntmps17
 go_wp2_with fail
 rw [← hw2]
 clear hw2
 refine HC.out.mono ?_
 rintro q w3 ⟨v, rfl, hov, hb⟩
 have HB3 := hid (HB2.out.trans (hb.mono HB2.out.size))
 have HK3 := hid (HK2.out.below hb)
 have HZ3 := hid ((hb.block _ (Array.getElem?_eq_some_iff.1 HZ2.out).1).trans HZ2.out)
 have HZW3 : Hid (w.heap.size + 2 ≤ w3.heap.size) := hid (by have := hb.size; have := HZS.out; omega)
 have HI3 := hid hov.lv
 obtain ⟨NA, nc, NA', nc', rfl, -⟩ := hov.lv.shape
 clear hov hb HC
 have HCD := hid (fun W h => clone_own S e.doc (.agg #[.int .i64 e.doc.kind, .int .i64 e.doc.num, .string e.doc.text, .slice DA e.doc.items.length dc, .slice DA' e.doc.names.length dc']) W (fun b hb => Nat.lt_of_lt_of_le (HS.out b hb) (h : Below w.heap.size w W).size) (HA.out.below HS.out h).doc)
 go_wp2_with (first | (refine wpList_store_ent (by rfl) 25 _ _ rfl rfl w.heap.size 4 rfl _ #[.int .i64 e.id.kind, .int .i64 e.id.num, .string e.id.text, .slice NA e.id.items.length nc, .slice NA' e.id.names.length nc'] rfl rfl _ #[.int .i64 e.term, .int .i64 e.kind, .string e.coll, .string e.to, .int .i64 e.id.kind, .int .i64 e.id.num, .string e.id.text, .slice NA e.id.items.length nc, .slice NA' e.id.names.length nc', .int .i64 e.doc.kind, .int .i64 e.doc.num, .string e.doc.text, .slice DA e.doc.items.length dc, .slice DA' e.doc.names.length dc', .slice LA e.dels.length lc, .int .i64 e.session, .int .i64 e.number] 28 HK3.out (by simp) (by kernel_rfl) (by simp [Value.oneCell']) (by kernel_rfl) ?_; intro w4 hk ho hz; have HK4 : Hid (EBox w4 w.heap.size e NA nc NA' nc' DA dc DA' dc' LA lc) := hid hk; have HO4 := hid (And.intro ho hz); clear hk ho hz) | (refine wpList_load_fld (by rfl) _ rfl w.heap.size 9 rfl _ _ _ HK4.out [.int .i64 e.doc.kind, .int .i64 e.doc.num, .string e.doc.text, .slice DA e.doc.items.length dc, .slice DA' e.doc.names.length dc'] rfl rfl ?_; simp only [acR, Act.put]))
 have HB4 := hid (only_below (Nat.le_refl _) HB3.out HO4.out.1 HO4.out.2 (Nat.le_refl _))
 refine (HCD.out _ HB4.out).mono ?_
 rintro q w5 ⟨v, rfl, hov, hb⟩
 have HB5 := hid (HB4.out.trans (hb.mono HB4.out.size))
 have HK5 := hid (HK4.out.below hb)
 have HZ5 : Hid (w5.heap[w.heap.size + 1]? = some (.cells #[.int .i64 0, .int .i64 0, .string ⟨#[]⟩, .string ⟨#[]⟩, .int .i64 0, .int .i64 0, .string ⟨#[]⟩, .slice none 0 0, .slice none 0 0, .int .i64 0, .int .i64 0, .string ⟨#[]⟩, .slice none 0 0, .slice none 0 0, .slice none 0 0, .int .i64 0, .int .i64 0] 28 (0, 0))) := hid (by
  have h1 := (only_keep (S := fun b => b = w.heap.size + 1) HO4.out.1 (fun b hb => by subst hb; exact ⟨by have := HZW3.out; omega, by omega⟩) _ rfl).trans HZ3.out
  exact (hb.block _ (Array.getElem?_eq_some_iff.1 h1).1).trans h1)
 have HI5 : Hid (LV w5 (fun b => w.heap.size + 2 ≤ b ∧ b < w5.heap.size) e.id (.agg #[.int .i64 e.id.kind, .int .i64 e.id.num, .string e.id.text, .slice NA e.id.items.length nc, .slice NA' e.id.names.length nc'])) := hid (((HI3.out.keep (only_keep HO4.out.1 fun b hb => by
  have h1 := hb.1
  have := HZS.out
  exact ⟨hb.2, by omega⟩)).keep fun b hb' => hb.block b (by rw [HO4.out.2]; exact hb'.2)).imp fun b hb' => ⟨by have h1 := hb'.1; have := HZS.out; omega, Nat.lt_of_lt_of_le hb'.2 (by rw [← HO4.out.2]; exact hb.size)⟩)
 have HJ5 : Hid (LV w5 (fun b => w.heap.size + 2 ≤ b ∧ b < w5.heap.size) e.doc v) := hid (hov.lv.imp fun b hb' => ⟨by have h1 := hb'.1; have := HZW3.out; have := HO4.out.2; omega, hb'.2⟩)
 obtain ⟨MA, mc, MA', mc', rfl, -⟩ := hov.lv.shape
 have HZW5 : Hid (w.heap.size + 2 ≤ w5.heap.size) := hid (by have := hb.size; have := HZW3.out; have := HO4.out.2; omega)
 clear hov hb HCD HI3 HZ3
 have HCL := hid (fun W h => dlclone_new S LA lc e.dels W (fun b hb => Nat.lt_of_lt_of_le (HS.out b hb) (h : Below w.heap.size w W).size) (HA.out.below HS.out h).dels HA.out.nil' HLL.out)
 go_wp2_with (first | (refine wpList_store_ent (by rfl) 25 _ _ rfl rfl w.heap.size 9 rfl _ #[.int .i64 e.doc.kind, .int .i64 e.doc.num, .string e.doc.text, .slice MA e.doc.items.length mc, .slice MA' e.doc.names.length mc'] rfl rfl _ #[.int .i64 e.term, .int .i64 e.kind, .string e.coll, .string e.to, .int .i64 e.id.kind, .int .i64 e.id.num, .string e.id.text, .slice NA e.id.items.length nc, .slice NA' e.id.names.length nc', .int .i64 e.doc.kind, .int .i64 e.doc.num, .string e.doc.text, .slice MA e.doc.items.length mc, .slice MA' e.doc.names.length mc', .slice LA e.dels.length lc, .int .i64 e.session, .int .i64 e.number] 28 HK5.out (by simp) (by kernel_rfl) (by simp [Value.oneCell']) (by kernel_rfl) ?_; intro w6 hk ho hz; have HK6 : Hid (EBox w6 w.heap.size e NA nc NA' nc' MA mc MA' mc' LA lc) := hid hk; have HO6 := hid (And.intro ho hz); clear hk ho hz; have y14 := HK6.out.g14))
 have HB6 := hid (only_below (Nat.le_refl _) HB5.out HO6.out.1 HO6.out.2 (Nat.le_refl _))
 refine (HCL.out _ HB6.out).mono ?_
 rintro q w7 ⟨QA, qc, rfl, hq0, hqc, hql, hb⟩
 clear y14
 have HB7 := hid (HB6.out.trans (hb.mono HB6.out.size))
 have HK7 := hid (HK6.out.below hb)
 have HZ7 : Hid (w7.heap[w.heap.size + 1]? = some (.cells #[.int .i64 0, .int .i64 0, .string ⟨#[]⟩, .string ⟨#[]⟩, .int .i64 0, .int .i64 0, .string ⟨#[]⟩, .slice none 0 0, .slice none 0 0, .int .i64 0, .int .i64 0, .string ⟨#[]⟩, .slice none 0 0, .slice none 0 0, .slice none 0 0, .int .i64 0, .int .i64 0] 28 (0, 0))) := hid (by
  have h1 := only_at HO6.out.1 HZ5.out (by omega)
  exact (hb.block _ (Array.getElem?_eq_some_iff.1 h1).1).trans h1)
 have hf : ∀ b, w.heap.size + 2 ≤ b ∧ b < w5.heap.size → w7.heap[b]? = w5.heap[b]? := fun b hb' => (hb.block b (by rw [HO6.out.2]; exact hb'.2)).trans (only_keep HO6.out.1 (S := fun b => w.heap.size + 2 ≤ b ∧ b < w5.heap.size) (fun b h => ⟨h.2, by have := h.1; omega⟩) b hb')
 have hsz : w5.heap.size ≤ w7.heap.size := by have := hb.size; have := HO6.out.2; omega
 have HI7 : Hid (LV w7 (fun b => b < w7.heap.size ∧ b ≠ w.heap.size ∧ b ≠ w.heap.size + 1) e.id (.agg #[.int .i64 e.id.kind, .int .i64 e.id.num, .string e.id.text, .slice NA e.id.items.length nc, .slice NA' e.id.names.length nc'])) := hid ((HI5.out.keep hf).imp fun b h => ⟨by have := h.2; omega, by have := h.1; omega, by have := h.1; omega⟩)
 have HJ7 : Hid (LV w7 (fun b => b < w7.heap.size ∧ b ≠ w.heap.size ∧ b ≠ w.heap.size + 1) e.doc (.agg #[.int .i64 e.doc.kind, .int .i64 e.doc.num, .string e.doc.text, .slice MA e.doc.items.length mc, .slice MA' e.doc.names.length mc'])) := hid ((HJ5.out.keep hf).imp fun b h => ⟨by have := h.2; omega, by have := h.1; omega, by have := h.1; omega⟩)
 have HL7 : Hid (DelsL w7 (fun b => b < w7.heap.size ∧ b ≠ w.heap.size ∧ b ≠ w.heap.size + 1) QA e.dels) := hid (hql.imp fun b h => by
  have h6 : w.heap.size + 2 ≤ w6.heap.size := by rw [HO6.out.2]; exact HZW5.out
  rcases h.2 with h2 | h2
  ·have := HS.out b h2
   exact ⟨h.1, by omega, by omega⟩
  ·exact ⟨h.1, by omega, by omega⟩)
 have HQ := hid (And.intro hq0 hqc)
 clear hq0 hqc hql hb hf hsz HCL HI5 HJ5 HZ5 HB6
 go_wp2_with (first | (refine wpList_store_ent (by rfl) 26 _ _ rfl rfl w.heap.size 14 rfl _ #[.slice QA e.dels.length qc] rfl rfl _ #[.int .i64 e.term, .int .i64 e.kind, .string e.coll, .string e.to, .int .i64 e.id.kind, .int .i64 e.id.num, .string e.id.text, .slice NA e.id.items.length nc, .slice NA' e.id.names.length nc', .int .i64 e.doc.kind, .int .i64 e.doc.num, .string e.doc.text, .slice MA e.doc.items.length mc, .slice MA' e.doc.names.length mc', .slice QA e.dels.length qc, .int .i64 e.session, .int .i64 e.number] 28 HK7.out (by simp) (by kernel_rfl) (by simp [Value.oneCell']) (by kernel_rfl) ?_; intro w8 hk ho hz; have HK8 : Hid (EBox w8 w.heap.size e NA nc NA' nc' MA mc MA' mc' QA qc) := hid hk; have HO8 := hid (And.intro ho hz); clear hk ho hz) | (refine wpList_load_ent (by rfl) _ rfl w.heap.size rfl _ _ HK8.out rfl ?_; simp only [acR, Act.put]) | (refine wpList_store_ent (by rfl) 28 _ _ rfl rfl (w.heap.size + 1) 0 rfl _ #[.int .i64 e.term, .int .i64 e.kind, .string e.coll, .string e.to, .int .i64 e.id.kind, .int .i64 e.id.num, .string e.id.text, .slice NA e.id.items.length nc, .slice NA' e.id.names.length nc', .int .i64 e.doc.kind, .int .i64 e.doc.num, .string e.doc.text, .slice MA e.doc.items.length mc, .slice MA' e.doc.names.length mc', .slice QA e.dels.length qc, .int .i64 e.session, .int .i64 e.number] rfl rfl _ #[.int .i64 e.term, .int .i64 e.kind, .string e.coll, .string e.to, .int .i64 e.id.kind, .int .i64 e.id.num, .string e.id.text, .slice NA e.id.items.length nc, .slice NA' e.id.names.length nc', .int .i64 e.doc.kind, .int .i64 e.doc.num, .string e.doc.text, .slice MA e.doc.items.length mc, .slice MA' e.doc.names.length mc', .slice QA e.dels.length qc, .int .i64 e.session, .int .i64 e.number] 28 (only_at HO8.out.1 HZ7.out (by omega)) (by simp) (by kernel_rfl) (by simp [Value.oneCell']) (by kernel_rfl) ?_; intro w9 hk ho hz; have HK9 := hid hk; have HO9 := hid (And.intro ho hz); clear hk ho hz))
 refine bodyPost_ret (results_cell_e rfl _ _ (w.heap.size + 1) _ _ _ rfl HK9.out rfl) rfl ?_
 have hf : ∀ b, (b < w7.heap.size ∧ b ≠ w.heap.size ∧ b ≠ w.heap.size + 1) → w9.heap[b]? = w7.heap[b]? := fun b h => (HO9.out.1.block b (by rw [HO8.out.2]; exact h.1) (by intro e; injection e with e; exact h.2.2 e)).trans (HO8.out.1.block b h.1 (by intro e; injection e with e; exact h.2.1 e))
 have hsz : w9.heap.size = w7.heap.size := HO9.out.2.trans HO8.out.2
 refine ⟨_, rfl, ⟨NA, nc, NA', nc', MA, mc, MA', mc', QA, qc, rfl, (HI7.out.keep hf).imp fun b h => by rw [hsz]; exact h.1, (HJ7.out.keep hf).imp fun b h => by rw [hsz]; exact h.1, (HL7.out.keep hf).imp fun b h => by rw [hsz]; exact h.1, HQ.out.2, HQ.out.1, HA.out.len, HA.out.rt, HA.out.rk, HA.out.rs, HA.out.rn, HA.out.cz, HA.out.tz⟩, ?_⟩
 exact only_below (Nat.le_refl _) (only_below (Nat.le_refl _) HB7.out HO8.out.1 HO8.out.2 (Nat.le_refl _)) HO9.out.1 HO9.out.2 (by omega)
end Go.Proofs.YtpcdngpppjdgcaaGreat
