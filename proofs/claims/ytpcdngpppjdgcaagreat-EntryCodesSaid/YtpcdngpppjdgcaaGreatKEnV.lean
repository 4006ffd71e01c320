/- The entry that comes next, by the program; the code of an entry that may be. -/
import Derived.Test.YtpcdngpppjdgcaaGreatKEnR
import Derived.Test.YtpcdngpppjdgcaaGreatKRefT
import Derived.Test.YtpcdngpppjdgcaaGreatKCodM
import Derived.Test.YtpcdngpppjdgcaaGreatKEnN
import Derived.Test.YtpcdngpppjdgcaaGreatKCodA
import Derived.Test.YtpcdngpppjdgcaaGreatKValP
import Derived.Test.YtpcdngpppjdgcaaGreatKRegR
import Derived.Laws.AppendOwnNone
import Derived.Lib.AppendZerosOnto
import Derived.Lib.AppendZeros
import Derived.Lib.SliceRun
import Derived.Laws.ResultCell
namespace Go.Proofs.YtpcdngpppjdgcaaGreat
open Lib (hid)
set_option linter.unusedVariables false
set_option linter.unusedSimpArgs false
open Go.RowKit
set_option maxRecDepth 100000
theorem emptyE_at (w : World) (S : Nat → Prop) : EntL w S emptyE #[.int .i64 0, .int .i64 0, .string ⟨#[]⟩, .string ⟨#[]⟩, .int .i64 0, .int .i64 0, .string ⟨#[]⟩, .slice none 0 0, .slice none 0 0, .int .i64 0, .int .i64 0, .string ⟨#[]⟩, .slice none 0 0, .slice none 0 0, .slice none 0 0, .int .i64 0, .int .i64 0] :=
  ⟨none, 0, none, 0, none, 0, none, 0, none, 0, rfl, leaf_lv _ _ _ _ _ (by unfold Rng; omega) (by unfold Rng; omega) (by decide), leaf_lv _ _ _ _ _ (by unfold Rng; omega) (by unfold Rng; omega) (by decide), nil_dels _ _, by show 0 ≤ 0; omega, fun _ => rfl, by show 0 ≤ _; omega, by unfold Rng emptyE; simp only; omega, by unfold Rng emptyE; simp only; omega, by unfold Rng emptyE; simp only; omega, by unfold Rng emptyE; simp only; omega, by show (⟨#[]⟩ : ByteArray).size ≤ _; decide, by show (⟨#[]⟩ : ByteArray).size ≤ _; decide⟩
def pickE (E : EntT) : Option (List UInt8) → EntT × Option (List UInt8)
  | none => (emptyE, none)
  | some r => if mayE E = true then (E, some r) else (emptyE, none)
theorem rdE_pick (st : Option (List UInt8)) : rdE st = pickE (rdE1 st).1 (rdE1 st).2 := rfl
def ReadER (g : Nat) (st : Option (List UInt8)) (w : World) (q : Ending) (w' : World) : Prop := ∃ cs, q = .returned (.agg cs) ∧ EntL w' (NewB w.heap.size w') (rdE st).1 cs ∧ SrcL w' g (rdE st).2 ∧ Only w w' g
theorem only_near {a b c : World} {g p : Nat} (h : Only a b g) (k : Only b c p) (hp : a.heap.size ≤ p) : Only a c g := ⟨k.os.trans h.os, k.tape.trans h.tape, k.output.trans h.output, Nat.le_trans h.size k.size, fun b' hb hne => (k.block b' (Nat.lt_of_lt_of_le hb h.size) (by intro e; injection e; omega)).trans (h.block b' hb hne)⟩
set_option maxHeartbeats 16000000 in
theorem eread_any (g : Nat) (st : Option (List UInt8)) (w : World) (hs : SrcL w g st) : Calls Tryz.prog 25 #[.pointer (some ⟨g, 0, none⟩)] w (ReadER g st w) := by
  have HSM := hid (sm_read hs.len)
  obtain ⟨w0, hw0⟩ : ∃ W, W = w.alloc (.cells #[.int .i64 0, .int .i64 0, .string ⟨#[]⟩, .string ⟨#[]⟩, .int .i64 0, .int .i64 0, .string ⟨#[]⟩, .slice none 0 0, .slice none 0 0, .int .i64 0, .int .i64 0, .string ⟨#[]⟩, .slice none 0 0, .slice none 0 0, .slice none 0 0, .int .i64 0, .int .i64 0] 28) := ⟨_, rfl⟩
  have hz0 : w0.heap[w.heap.size]? = some (.cells #[.int .i64 0, .int .i64 0, .string ⟨#[]⟩, .string ⟨#[]⟩, .int .i64 0, .int .i64 0, .string ⟨#[]⟩, .slice none 0 0, .slice none 0 0, .int .i64 0, .int .i64 0, .string ⟨#[]⟩, .slice none 0 0, .slice none 0 0, .slice none 0 0, .int .i64 0, .int .i64 0] 28 (0, 0)) := by rw [hw0]; exact heap_alloc_new w _
  have hs0 : SrcL w0 g st := by rw [hw0]; exact hs.alloc _
  have ho0 : Only w w0 g := by rw [hw0]; exact (Only.refl w g).alloc _
  have hsz0 : w0.heap.size = w.heap.size + 1 := by rw [hw0]; simp
  have HC := hid (eread1_any g st w0 hs0)
  have HZ0 := hid hz0
  have HO0 := hid ho0
  have HSZ := hid hsz0
  have HG := hid hs.lt
  obtain ⟨E, hE⟩ : ∃ E, E = (rdE1 st).1 := ⟨_, rfl⟩
  obtain ⟨st2, hst2⟩ : ∃ s, s = (rdE1 st).2 := ⟨_, rfl⟩
  have HDEF : Hid (rdE st = pickE E st2) := hid (by rw [hE, hst2]; exact rdE_pick st)
  rw [← hE, ← hst2] at HC
  rw [← hE] at HSM
  clear hs hz0 hs0 ho0 hsz0 hE hst2
  go_enter Tryz.func25, Tryz.ntmps25
  go_wp2_with fail
  rw [← hw0]
  clear hw0
  refine HC.out.mono ?_
  rintro q w1 ⟨cs, rfl, he, hs1, ho1⟩
  obtain ⟨IA, ic, IA', ic', DA, dc, DA', dc', LA, lc, rfl, hat⟩ := he.at
  obtain ⟨w2, hw2⟩ : ∃ W, W = w1.alloc (.cells #[.int .i64 E.term, .int .i64 E.kind, .string E.coll, .string E.to, .int .i64 E.id.kind, .int .i64 E.id.num, .string E.id.text, .slice IA E.id.items.length ic, .slice IA' E.id.names.length ic', .int .i64 E.doc.kind, .int .i64 E.doc.num, .string E.doc.text, .slice DA E.doc.items.length dc, .slice DA' E.doc.names.length dc', .slice LA E.dels.length lc, .int .i64 E.session, .int .i64 E.number] 28) := ⟨_, rfl⟩
  have hb2 : Below w1.heap.size w1 w2 := by rw [hw2]; exact below_box _
  have HK2 : Hid (EBox w2 w1.heap.size E IA ic IA' ic' DA dc DA' dc' LA lc) := hid (by rw [hw2]; exact heap_alloc_new w1 _)
  have hgl := HG.out
  have hsz := ho1.size
  have hss := HSZ.out
  have hsz2 : w2.heap.size = w1.heap.size + 1 := by rw [hw2]; simp
  have HX2 : Hid (EntAt w2 (fun b => w.heap.size + 1 ≤ b ∧ b < w1.heap.size) E IA ic IA' ic' DA dc DA' dc' LA lc ∧ SrcL w2 g st2 ∧ Only w w2 g ∧ w2.heap[w.heap.size]? = some (.cells #[.int .i64 0, .int .i64 0, .string ⟨#[]⟩, .string ⟨#[]⟩, .int .i64 0, .int .i64 0, .string ⟨#[]⟩, .slice none 0 0, .slice none 0 0, .int .i64 0, .int .i64 0, .string ⟨#[]⟩, .slice none 0 0, .slice none 0 0, .slice none 0 0, .int .i64 0, .int .i64 0] 28 (0, 0)) ∧ w.heap.size + 1 ≤ w1.heap.size ∧ w2.heap.size = w1.heap.size + 1) := hid
    ⟨(hat.imp fun b hb => ⟨by have := hb.1; omega, hb.2⟩).keep fun b hb => hb2.block b hb.2, hs1.of (hb2.block g (by omega)), only_near (HO0.out.trans ho1) (Only.ofBelow (g := w1.heap.size) hb2) (by omega), (hb2.block _ (by omega)).trans (only_at ho1 HZ0.out (by omega)), by omega, hsz2⟩
  have HB := hid (fun W h => sbad_any g st2 W h)
  clear he hs1 ho1 hat hb2 hgl hsz hss hsz2 HC HZ0 HO0
  go_wp2_with fail
  rw [← hw2]
  clear hw2
  refine (HB.out _ HX2.out.2.1).mono ?_
  rintro q u ⟨rfl, hw⟩
  subst hw
  clear HB
  cases st2 with
  | none =>
    have HF : Hid (rdE st = (emptyE, none)) := hid HDEF.out
    go_wp2_with fail
    refine (cspoil_st g none _ HX2.out.2.1).mono ?_
    rintro q w5 ⟨rfl, hs5, ho5⟩
    have HX5 : Hid (SrcL w5 g none ∧ Only w w5 g ∧ w5.heap[w.heap.size]? = some (.cells #[.int .i64 0, .int .i64 0, .string ⟨#[]⟩, .string ⟨#[]⟩, .int .i64 0, .int .i64 0, .string ⟨#[]⟩, .slice none 0 0, .slice none 0 0, .int .i64 0, .int .i64 0, .string ⟨#[]⟩, .slice none 0 0, .slice none 0 0, .slice none 0 0, .int .i64 0, .int .i64 0] 28 (0, 0))) := hid ⟨hs5, HX2.out.2.2.1.trans ho5, only_at ho5 HX2.out.2.2.2.1 (by have := HG.out; omega)⟩
    clear hs5 ho5
    go_wp2_with (refine wpList_store_ent (by rfl) 28 _ _ rfl rfl w.heap.size 0 rfl _ #[.int .i64 0, .int .i64 0, .string ⟨#[]⟩, .string ⟨#[]⟩, .int .i64 0, .int .i64 0, .string ⟨#[]⟩, .slice none 0 0, .slice none 0 0, .int .i64 0, .int .i64 0, .string ⟨#[]⟩, .slice none 0 0, .slice none 0 0, .slice none 0 0, .int .i64 0, .int .i64 0] rfl rfl _ #[.int .i64 0, .int .i64 0, .string ⟨#[]⟩, .string ⟨#[]⟩, .int .i64 0, .int .i64 0, .string ⟨#[]⟩, .slice none 0 0, .slice none 0 0, .int .i64 0, .int .i64 0, .string ⟨#[]⟩, .slice none 0 0, .slice none 0 0, .slice none 0 0, .int .i64 0, .int .i64 0] 28 HX5.out.2.2 (by simp) (by kernel_rfl) (by simp [Value.oneCell']) (by kernel_rfl) ?_; intro w6 hk ho hz; have HK6 := hid hk; have HO6 := hid (And.intro ho hz); clear hk ho hz)
    refine bodyPost_ret (results_cell_e rfl _ _ w.heap.size _ _ _ rfl HK6.out rfl) rfl ?_
    unfold ReadER
    rw [HF.out]
    exact ⟨_, rfl, emptyE_at _ _, HX5.out.1.of (HO6.out.1.block g (by have := HX5.out.2.1.size; have := HG.out; omega) (by intro e; injection e; have := HG.out; omega)), only_near HX5.out.2.1 HO6.out.1 (Nat.le_refl _)⟩
  | some r =>
    have HM := hid (emay_any (fun b => w.heap.size + 1 ≤ b ∧ b < w1.heap.size) E _ w2 (fun b hb => by have := HX2.out.2.2.2.2.2; have := hb.2; omega) HX2.out.1.l HSM.out)
    go_wp2_with (refine wpList_load_ent (by rfl) _ rfl w1.heap.size rfl _ _ HK2.out rfl ?_; simp only [Act.put, List.setIfInBounds_toArray, List.set_cons_succ, List.set_cons_zero])
    refine HM.out.mono ?_
    rintro q w3 ⟨rfl, hb⟩
    have HK3 := hid (HK2.out.below hb)
    have HX3 : Hid (EntAt w3 (fun b => w.heap.size + 1 ≤ b ∧ b < w1.heap.size) E IA ic IA' ic' DA dc DA' dc' LA lc ∧ SrcL w3 g (some r) ∧ Only w w3 g ∧ w3.heap[w.heap.size]? = some (.cells #[.int .i64 0, .int .i64 0, .string ⟨#[]⟩, .string ⟨#[]⟩, .int .i64 0, .int .i64 0, .string ⟨#[]⟩, .slice none 0 0, .slice none 0 0, .int .i64 0, .int .i64 0, .string ⟨#[]⟩, .slice none 0 0, .slice none 0 0, .slice none 0 0, .int .i64 0, .int .i64 0] 28 (0, 0)) ∧ w1.heap.size ≤ w3.heap.size) := hid (by
      have h2 := HX2.out
      have hg := HG.out
      have hz := h2.2.2.2.2.1
      have hz2 := h2.2.2.2.2.2
      exact ⟨h2.1.keep fun b hb' => hb.block b (by have := hb'.2; omega), h2.2.1.of (hb.block g (by omega)), h2.2.2.1.trans (Only.ofBelow hb), (hb.block _ (by omega)).trans h2.2.2.2.1, by have := hb.size; omega⟩)
    clear hb HM
    cases hm : mayE E with
    | false =>
      have HF : Hid (rdE st = (emptyE, none)) := hid (by rw [HDEF.out]; unfold pickE; rw [hm]; rfl)
      go_wp2_with fail
      refine (cspoil_st g (some r) _ HX3.out.2.1).mono ?_
      rintro q w5 ⟨rfl, hs5, ho5⟩
      have HX5 : Hid (SrcL w5 g none ∧ Only w w5 g ∧ w5.heap[w.heap.size]? = some (.cells #[.int .i64 0, .int .i64 0, .string ⟨#[]⟩, .string ⟨#[]⟩, .int .i64 0, .int .i64 0, .string ⟨#[]⟩, .slice none 0 0, .slice none 0 0, .int .i64 0, .int .i64 0, .string ⟨#[]⟩, .slice none 0 0, .slice none 0 0, .slice none 0 0, .int .i64 0, .int .i64 0] 28 (0, 0))) := hid ⟨hs5, HX3.out.2.2.1.trans ho5, only_at ho5 HX3.out.2.2.2.1 (by have := HG.out; omega)⟩
      clear hs5 ho5
      go_wp2_with (refine wpList_store_ent (by rfl) 28 _ _ rfl rfl w.heap.size 0 rfl _ #[.int .i64 0, .int .i64 0, .string ⟨#[]⟩, .string ⟨#[]⟩, .int .i64 0, .int .i64 0, .string ⟨#[]⟩, .slice none 0 0, .slice none 0 0, .int .i64 0, .int .i64 0, .string ⟨#[]⟩, .slice none 0 0, .slice none 0 0, .slice none 0 0, .int .i64 0, .int .i64 0] rfl rfl _ #[.int .i64 0, .int .i64 0, .string ⟨#[]⟩, .string ⟨#[]⟩, .int .i64 0, .int .i64 0, .string ⟨#[]⟩, .slice none 0 0, .slice none 0 0, .int .i64 0, .int .i64 0, .string ⟨#[]⟩, .slice none 0 0, .slice none 0 0, .slice none 0 0, .int .i64 0, .int .i64 0] 28 HX5.out.2.2 (by simp) (by kernel_rfl) (by simp [Value.oneCell']) (by kernel_rfl) ?_; intro w6 hk ho hz; have HK6 := hid hk; have HO6 := hid (And.intro ho hz); clear hk ho hz)
      refine bodyPost_ret (results_cell_e rfl _ _ w.heap.size _ _ _ rfl HK6.out rfl) rfl ?_
      unfold ReadER
      rw [HF.out]
      exact ⟨_, rfl, emptyE_at _ _, HX5.out.1.of (HO6.out.1.block g (by have := HX5.out.2.1.size; have := HG.out; omega) (by intro e; injection e; have := HG.out; omega)), only_near HX5.out.2.1 HO6.out.1 (Nat.le_refl _)⟩
    | true =>
      have HF : Hid (rdE st = (E, some r)) := hid (by rw [HDEF.out]; show (if mayE E = true then (E, some r) else (emptyE, none)) = _; rw [if_pos hm])
      clear hm
      go_wp2_with (first | (refine wpList_load_ent (by rfl) _ rfl w1.heap.size rfl _ _ HK3.out rfl ?_; simp only [Act.put, List.setIfInBounds_toArray, List.set_cons_succ, List.set_cons_zero]) | (refine wpList_store_ent (by rfl) 28 _ _ rfl rfl w.heap.size 0 rfl _ #[.int .i64 E.term, .int .i64 E.kind, .string E.coll, .string E.to, .int .i64 E.id.kind, .int .i64 E.id.num, .string E.id.text, .slice IA E.id.items.length ic, .slice IA' E.id.names.length ic', .int .i64 E.doc.kind, .int .i64 E.doc.num, .string E.doc.text, .slice DA E.doc.items.length dc, .slice DA' E.doc.names.length dc', .slice LA E.dels.length lc, .int .i64 E.session, .int .i64 E.number] rfl rfl _ #[.int .i64 E.term, .int .i64 E.kind, .string E.coll, .string E.to, .int .i64 E.id.kind, .int .i64 E.id.num, .string E.id.text, .slice IA E.id.items.length ic, .slice IA' E.id.names.length ic', .int .i64 E.doc.kind, .int .i64 E.doc.num, .string E.doc.text, .slice DA E.doc.items.length dc, .slice DA' E.doc.names.length dc', .slice LA E.dels.length lc, .int .i64 E.session, .int .i64 E.number] 28 HX3.out.2.2.2.1 (by simp) (by kernel_rfl) (by simp [Value.oneCell']) (by kernel_rfl) ?_; intro w6 hk ho hz; have HK6 := hid hk; have HO6 := hid (And.intro ho hz); clear hk ho hz))
      refine bodyPost_ret (results_cell_e rfl _ _ w.heap.size _ _ _ rfl HK6.out rfl) rfl ?_
      unfold ReadER
      rw [HF.out]
      have hz6 := HO6.out.2
      have hx := HX3.out
      exact ⟨_, rfl, ((hx.1.keep (only_keep HO6.out.1 fun b hb => ⟨by have := hb.2; have := hx.2.2.2.2; omega, by have := hb.1; omega⟩)).imp fun b hb => ⟨by have := hb.1; omega, by have := hb.2; have := hx.2.2.2.2; omega⟩).l, hx.2.1.of (HO6.out.1.block g (by have := hx.2.2.1.size; have := HG.out; omega) (by intro e; injection e; have := HG.out; omega)), only_near hx.2.2.1 HO6.out.1 (Nat.le_refl _)⟩
theorem addr_addY (b off i : Nat) : ((⟨b, off, none⟩ : Addr).add i) = ⟨b, off + i, none⟩ := by
  unfold Addr.add
  split
  · next h => simp [h]
  · rfl
theorem OwnB.rdY {w : World} {B : Nat} {v : Value} {l : List UInt8} (h : OwnB w B v l) : Rd w w.heap.size v l := by
  have hc := fun g hg => World.ownsRow.cells (g := g) h hg
  have hlt := World.ownsRow.lt h
  rcases h.2 with ⟨rfl, h0⟩ | ⟨g, cap, cur, rfl, hB, hh, hcap, hm, -⟩
  · have hl : l = [] := List.eq_nil_of_length_eq_zero h0
    subst hl
    exact ⟨none, 0, rfl, Nat.le_refl _, ⟨by omega, fun _ => rfl⟩, fun h => absurd h (by simp)⟩
  · refine ⟨some ⟨g, 0, none⟩, cap, rfl, hcap, ⟨by unfold maxLen at hm; omega, fun h => by cases h⟩, fun hp => ⟨g, 0, rfl, (hlt g rfl).2, fun i hi => ?_⟩⟩
    have h1 := hc g rfl i (.int .u8 (l[i].toNat : Int)) (by simp [bcells, hi])
    rw [addr_addY] at h1
    exact h1
theorem Rd.strY {w : World} {B : Nat} {v : Value} {l : List UInt8} (h : Rd w B v l) : (convert 35 9 v).run Tryz.prog w = .ok (.string ⟨l.toArray⟩) w := by
  obtain ⟨A, cap, hv, -⟩ := id h
  rw [hv] at h ⊢
  have := h.conv (Nat.le_refl _) cap
  rw [List.take_length] at this
  exact this
theorem ba_toList (l : List UInt8) : (⟨l.toArray⟩ : ByteArray).toList = l := by rw [ByteArray.toList_eq]
theorem ba_beq (l m : List UInt8) : ((⟨l.toArray⟩ : ByteArray).toList == (⟨m.toArray⟩ : ByteArray).toList) = decide (l = m) := by
  rw [ba_toList, ba_toList]
  by_cases h : l = m
  · subst h; simp
  · rw [decide_eq_false h]
    exact beq_eq_false_iff_ne.2 h
set_option maxHeartbeats 4000000 in
theorem byequal_any (B B' : Nat) (vx vy : Value) (l m : List UInt8) (w : World) (hx : Rd w B vx l) (hy : Rd w B' vy m) : Calls Tryz.prog 71 #[vx, vy] w fun e w' => e = .returned (.bool (decide (l = m))) ∧ w = w' := by
  have hx1 := hx.strY
  have hy1 := hy.strY
  have he := ba_beq l m
  have HE := hid he
  obtain ⟨x, hx2⟩ : ∃ x : ByteArray, x = ⟨l.toArray⟩ := ⟨_, rfl⟩
  obtain ⟨y, hy2⟩ : ∃ y : ByteArray, y = ⟨m.toArray⟩ := ⟨_, rfl⟩
  rw [← hx2] at hx1 HE
  rw [← hy2] at hy1 HE
  clear hx hy hx2 hy2 he
  go_enter Tryz.func71, Tryz.ntmps71
  go_wp2_with fail
  go_ret
  have e := HE.out
  refine ⟨?_, rfl⟩
  rw [← e]
  rfl
def encE (e : EntT) : List UInt8 := if mayE e = true then codeE e else []
def errE (e : EntT) : Int := if mayE e = true then 0 else 1
def EncR (e : EntT) (w : World) (q : Ending) (w' : World) : Prop := ∃ v, q = .returned (.tuple #[v, .int .i64 (errE e)]) ∧ OwnB w' w.heap.size v (encE e) ∧ Below w.heap.size w w'
set_option maxHeartbeats 8000000 in
theorem eencode_any (S : Nat → Prop) (e : EntT) (cs : Array Value) (w : World) (hS : ∀ b, S b → b < w.heap.size) (h : EntL w S e cs) (hd : SmE e) :
    Calls Tryz.prog 20 #[.agg cs] w (EncR e w) := by
  obtain ⟨IA, ic, IA', ic', DA, dc, DA', dc', LA, lc, rfl, hat⟩ := h.at
  obtain ⟨w1, hw1⟩ : ∃ W, W = w.alloc (.cells #[.int .i64 e.term, .int .i64 e.kind, .string e.coll, .string e.to, .int .i64 e.id.kind, .int .i64 e.id.num, .string e.id.text, .slice IA e.id.items.length ic, .slice IA' e.id.names.length ic', .int .i64 e.doc.kind, .int .i64 e.doc.num, .string e.doc.text, .slice DA e.doc.items.length dc, .slice DA' e.doc.names.length dc', .slice LA e.dels.length lc, .int .i64 e.session, .int .i64 e.number] 28) := ⟨_, rfl⟩
  have hbk : EBox w1 w.heap.size e IA ic IA' ic' DA dc DA' dc' LA lc := by rw [hw1]; exact heap_alloc_new w _
  have hb1 : Below w.heap.size w w1 := by rw [hw1]; exact below_box _
  have HB1 := hid hb1
  have HK1 := hid hbk
  have HM := hid (emay_any S e _ w1 (fun b hb => Nat.lt_of_lt_of_le (hS b hb) hb1.size) (hat.below hS hb1).l hd)
  have HP := hid (fun (w2 : World) (hm : mayE e = true) (hb : Below w.heap.size w w2) => eput_any S e #[.int .i64 e.term, .int .i64 e.kind, .string e.coll, .string e.to, .int .i64 e.id.kind, .int .i64 e.id.num, .string e.id.text, .slice IA e.id.items.length ic, .slice IA' e.id.names.length ic', .int .i64 e.doc.kind, .int .i64 e.doc.num, .string e.doc.text, .slice DA e.doc.items.length dc, .slice DA' e.doc.names.length dc', .slice LA e.dels.length lc, .int .i64 e.session, .int .i64 e.number] w2 (fun b hb' => Nat.lt_of_lt_of_le (hS b hb') hb.size) (hat.below hS hb).l hd hm)
  clear hb1 hbk hS h hat
  go_enter Tryz.func20, Tryz.ntmps20
  go_wp2_with fail
  rw [← hw1]
  clear hw1
  go_wp2_with (refine wpList_load_ent (by rfl) _ rfl w.heap.size rfl _ _ HK1.out rfl ?_; simp only [Act.put, List.setIfInBounds_toArray, List.set_cons_succ, List.set_cons_zero])
  refine HM.out.mono ?_
  rintro q w2 ⟨rfl, hb⟩
  have HK2 := hid (HK1.out.below hb)
  have HB2 := hid (HB1.out.trans (hb.mono HB1.out.size))
  clear HM hb HB1 HK1
  cases hm : mayE e with
  | false =>
    have HF : Hid (encE e = [] ∧ errE e = 1) := hid ⟨by unfold encE; rw [hm]; rfl, by unfold errE; rw [hm]; rfl⟩
    clear hm
    go_wp2_with fail
    go_ret2
    exact ⟨_, by rw [HF.out.2]; rfl, by rw [HF.out.1]; exact World.ownsRow_nil _ _ _ _, HB2.out⟩
  | true =>
    have HF : Hid (encE e = codeE e ∧ errE e = 0) := hid ⟨by unfold encE; rw [if_pos hm], by unfold errE; rw [if_pos hm]⟩
    have HP2 := hid (HP.out w2 hm HB2.out)
    clear hm HP
    go_wp2_with (refine wpList_load_ent (by rfl) _ rfl w.heap.size rfl _ _ HK2.out rfl ?_; simp only [Act.put, List.setIfInBounds_toArray, List.set_cons_succ, List.set_cons_zero])
    refine HP2.out.mono ?_
    rintro q w3 ⟨v, rfl, ho, hb⟩
    have HO := hid ho
    have HB3 := hid (HB2.out.trans (hb.mono HB2.out.size))
    have HZ := hid HB2.out.size
    clear ho hb
    go_wp2_with fail
    go_ret2
    exact ⟨_, by rw [HF.out.2]; rfl, by rw [HF.out.1]; exact HO.out.base HZ.out, HB3.out⟩
theorem below_onlyE {B : Nat} {a b c : World} (h : Below B a b) (k : Only b c B) (hB : B ≤ b.heap.size) : Below B a c := ⟨k.os.trans h.os, k.tape.trans h.tape, k.output.trans h.output, Nat.le_trans h.size k.size, fun i hi => (k.block i (by omega) (by intro e; injection e; omega)).trans (h.block i hi)⟩
def decEC (l : List UInt8) : Int := doneOf (rdE (some l)).2
def decEE (l : List UInt8) : EntT := if decEC l = 0 then (rdE (some l)).1 else emptyE
def DecRE (l : List UInt8) (w : World) (q : Ending) (w' : World) : Prop := ∃ cs, q = .returned (.tuple #[.agg cs, .int .i64 (decEC l)]) ∧ EntL w' (NewB w.heap.size w') (decEE l) cs ∧ Below w.heap.size w w'
theorem results_cell_e2 {fn : Func} {p u : Tmp} (h : fn.results = #[.cell p 28, .tmp u]) (tmps : Array Value) (w : World) (g : Nat) (t : TypeId) (cs : Array Value) (fr : Nat × Nat)
    (hp : tmps.getD p undef = .pointer (some ⟨g, 0, none⟩)) (hg : w.heap[g]? = some (.cells cs t fr)) (hn : cs.size = 17) :
    (results fn tmps).run Tryz.prog w = .ok (.tuple #[.agg cs, tmps.getD u undef]) w := by
  rw [results_cell_tmp h, hp]
  have e : (asAddr (.pointer (some ⟨g, 0, none⟩))).run Tryz.prog w = .ok ⟨g, 0, none⟩ w := by simp [asAddr]
  rw [e]
  simp only [Result.andThen]
  rw [run_loadVar_row w g t 28 cs fr _ hg Tryz.underlying28 rfl (by rw [hn]; kernel_rfl)]
set_option maxHeartbeats 16000000 in
theorem edecode_any (v : Value) (l : List UInt8) (w : World) (hr : Rd w w.heap.size v l) (hl : l.length ≤ 9223372036854775807) : Calls Tryz.prog 21 #[v] w (DecRE l w) := by
  obtain ⟨A, cap, hv, -⟩ := id hr
  obtain ⟨w0, hw0⟩ : ∃ W, W = w.alloc (.cells #[.int .i64 0, .int .i64 0, .string ⟨#[]⟩, .string ⟨#[]⟩, .int .i64 0, .int .i64 0, .string ⟨#[]⟩, .slice none 0 0, .slice none 0 0, .int .i64 0, .int .i64 0, .string ⟨#[]⟩, .slice none 0 0, .slice none 0 0, .slice none 0 0, .int .i64 0, .int .i64 0] 28) := ⟨_, rfl⟩
  have hz0 : w0.heap[w.heap.size]? = some (.cells #[.int .i64 0, .int .i64 0, .string ⟨#[]⟩, .string ⟨#[]⟩, .int .i64 0, .int .i64 0, .string ⟨#[]⟩, .slice none 0 0, .slice none 0 0, .int .i64 0, .int .i64 0, .string ⟨#[]⟩, .slice none 0 0, .slice none 0 0, .slice none 0 0, .int .i64 0, .int .i64 0] 28 (0, 0)) := by rw [hw0]; exact heap_alloc_new w _
  have hb0 : Below w.heap.size w w0 := by rw [hw0]; exact below_box _
  have hsz0 : w0.heap.size = w.heap.size + 1 := by rw [hw0]; simp
  have hc : (convert 35 9 v).run Tryz.prog w0 = .ok (.string ⟨l.toArray⟩) w0 := (hr.keep hb0).strY
  have HC := hid hc
  have HB0 := hid hb0
  have HZ0 := hid hz0
  have HSZ := hid hsz0
  have HL := hid hl
  clear hb0 hr hz0 hsz0 hc hv hl
  obtain ⟨E, hE⟩ : ∃ E, E = (rdE (some l)).1 := ⟨_, rfl⟩
  obtain ⟨st2, hst2⟩ : ∃ s, s = (rdE (some l)).2 := ⟨_, rfl⟩
  have HDEF : Hid (decEC l = doneOf st2 ∧ decEE l = if doneOf st2 = 0 then E else emptyE) := hid (by rw [hE, hst2]; exact ⟨rfl, rfl⟩)
  go_enter Tryz.func21, Tryz.ntmps21
  go_wp2_with fail
  rw [← hw0]
  clear hw0
  refine (from_any v _ _ HC.out).mono ?_
  rintro q w1 ⟨rfl, hs1, hb1⟩
  have hsl : SrcL w1 w0.heap.size (some l) := ⟨hs1, HL.out⟩
  have HC1 := hid (eread_any w0.heap.size (some l) w1 hsl)
  have HX1 : Hid (Below w.heap.size w w1 ∧ w1.heap[w.heap.size]? = some (.cells #[.int .i64 0, .int .i64 0, .string ⟨#[]⟩, .string ⟨#[]⟩, .int .i64 0, .int .i64 0, .string ⟨#[]⟩, .slice none 0 0, .slice none 0 0, .int .i64 0, .int .i64 0, .string ⟨#[]⟩, .slice none 0 0, .slice none 0 0, .slice none 0 0, .int .i64 0, .int .i64 0] 28 (0, 0)) ∧ w0.heap.size < w1.heap.size) := hid ⟨HB0.out.trans (hb1.mono (by have := HSZ.out; omega)), (hb1.block _ (by have := HSZ.out; omega)).trans HZ0.out, hsl.lt⟩
  clear hs1 hb1 hsl HC HB0 HZ0 HL
  go_wp2_with fail
  refine HC1.out.mono ?_
  rintro q w2 ⟨cs, rfl, he, hs2, ho2⟩
  rw [← hE] at he
  rw [← hst2] at hs2
  clear hE hst2
  obtain ⟨IA, ic, IA', ic', DA, dc, DA', dc', LA, lc, rfl, hat⟩ := he.at
  obtain ⟨w3, hw3⟩ : ∃ W, W = w2.alloc (.cells #[.int .i64 E.term, .int .i64 E.kind, .string E.coll, .string E.to, .int .i64 E.id.kind, .int .i64 E.id.num, .string E.id.text, .slice IA E.id.items.length ic, .slice IA' E.id.names.length ic', .int .i64 E.doc.kind, .int .i64 E.doc.num, .string E.doc.text, .slice DA E.doc.items.length dc, .slice DA' E.doc.names.length dc', .slice LA E.dels.length lc, .int .i64 E.session, .int .i64 E.number] 28) := ⟨_, rfl⟩
  have hb3 : Below w2.heap.size w2 w3 := by rw [hw3]; exact below_box _
  have HK3 : Hid (EBox w3 w2.heap.size E IA ic IA' ic' DA dc DA' dc' LA lc) := hid (by rw [hw3]; exact heap_alloc_new w2 _)
  have hgl := HX1.out.2.2
  have hsz := ho2.size
  have hss := HSZ.out
  have hsz3 : w3.heap.size = w2.heap.size + 1 := by rw [hw3]; simp
  have hbw : Below w.heap.size w1 w2 := ⟨ho2.os, ho2.tape, ho2.output, ho2.size, fun k hk => ho2.block k (by have := HX1.out.1.size; omega) (by rintro ⟨⟩; omega)⟩
  have HX3 : Hid (EntAt w3 (fun b => w1.heap.size ≤ b ∧ b < w2.heap.size) E IA ic IA' ic' DA dc DA' dc' LA lc ∧ SrcL w3 w0.heap.size st2 ∧ Below w.heap.size w w3 ∧ w3.heap[w.heap.size]? = some (.cells #[.int .i64 0, .int .i64 0, .string ⟨#[]⟩, .string ⟨#[]⟩, .int .i64 0, .int .i64 0, .string ⟨#[]⟩, .slice none 0 0, .slice none 0 0, .int .i64 0, .int .i64 0, .string ⟨#[]⟩, .slice none 0 0, .slice none 0 0, .slice none 0 0, .int .i64 0, .int .i64 0] 28 (0, 0)) ∧ w.heap.size < w1.heap.size ∧ w1.heap.size ≤ w2.heap.size ∧ w3.heap.size = w2.heap.size + 1) := hid
    ⟨hat.keep fun b hb => hb3.block b hb.2, hs2.of (hb3.block _ (by omega)), (HX1.out.1.trans hbw).trans (hb3.mono (by have := HX1.out.1.size; omega)), (hb3.block _ (by omega)).trans ((ho2.block _ (by omega) (by intro e; injection e; omega)).trans HX1.out.2.1), by omega, hsz, hsz3⟩
  clear he hs2 ho2 hat hb3 hgl hsz hss hsz3 hbw HX1 HC1
  go_wp2_with fail
  rw [← hw3]
  clear hw3
  refine (sdone_st _ _ _ HX3.out.2.1).mono ?_
  rintro q u ⟨rfl, hw⟩
  subst hw
  obtain ⟨x, hx⟩ : ∃ x, x = doneOf st2 := ⟨_, rfl⟩
  rw [← hx]
  rw [← hx] at HDEF
  clear hx
  by_cases h0 : x = 0
  · have HF : Hid (decEC l = x ∧ decEE l = E) := hid ⟨HDEF.out.1, by rw [HDEF.out.2, if_pos h0]⟩
    subst h0
    clear HDEF
    go_wp2_with (first | (refine wpList_load_ent (by rfl) _ rfl w2.heap.size rfl _ _ HK3.out rfl ?_; simp only [Act.put, List.setIfInBounds_toArray, List.set_cons_succ, List.set_cons_zero]) | (refine wpList_store_ent (by rfl) 28 _ _ rfl rfl w.heap.size 0 rfl _ #[.int .i64 E.term, .int .i64 E.kind, .string E.coll, .string E.to, .int .i64 E.id.kind, .int .i64 E.id.num, .string E.id.text, .slice IA E.id.items.length ic, .slice IA' E.id.names.length ic', .int .i64 E.doc.kind, .int .i64 E.doc.num, .string E.doc.text, .slice DA E.doc.items.length dc, .slice DA' E.doc.names.length dc', .slice LA E.dels.length lc, .int .i64 E.session, .int .i64 E.number] rfl rfl _ #[.int .i64 E.term, .int .i64 E.kind, .string E.coll, .string E.to, .int .i64 E.id.kind, .int .i64 E.id.num, .string E.id.text, .slice IA E.id.items.length ic, .slice IA' E.id.names.length ic', .int .i64 E.doc.kind, .int .i64 E.doc.num, .string E.doc.text, .slice DA E.doc.items.length dc, .slice DA' E.doc.names.length dc', .slice LA E.dels.length lc, .int .i64 E.session, .int .i64 E.number] 28 HX3.out.2.2.2.1 (by simp) (by kernel_rfl) (by simp [Value.oneCell']) (by kernel_rfl) ?_; intro w6 hk ho hz; have HK6 := hid hk; have HO6 := hid (And.intro ho hz); clear hk ho hz))
    refine bodyPost_ret (results_cell_e2 rfl _ _ w.heap.size _ _ _ rfl HK6.out rfl) rfl ?_
    unfold DecRE
    rw [HF.out.1, HF.out.2]
    have hx := HX3.out
    have hz6 := HO6.out.2
    exact ⟨_, rfl, ((hx.1.keep (only_keep HO6.out.1 fun b hb => ⟨by have := hb.2; omega, by have := hb.1; omega⟩)).imp fun b hb => ⟨by have := hb.1; omega, by have := hb.2; omega⟩).l, below_onlyE hx.2.2.1 HO6.out.1 (by omega)⟩
  · have h1 : (x == 0) = false := beq_false_of_ne h0
    have h2 : (x != 0) = true := by simp [h0]
    have HF : Hid (decEC l = x ∧ decEE l = emptyE) := hid ⟨HDEF.out.1, by rw [HDEF.out.2, if_neg h0]⟩
    clear HDEF
    go_wp2_with (refine wpList_store_ent (by rfl) 28 _ _ rfl rfl w.heap.size 0 rfl _ #[.int .i64 0, .int .i64 0, .string ⟨#[]⟩, .string ⟨#[]⟩, .int .i64 0, .int .i64 0, .string ⟨#[]⟩, .slice none 0 0, .slice none 0 0, .int .i64 0, .int .i64 0, .string ⟨#[]⟩, .slice none 0 0, .slice none 0 0, .slice none 0 0, .int .i64 0, .int .i64 0] rfl rfl _ #[.int .i64 0, .int .i64 0, .string ⟨#[]⟩, .string ⟨#[]⟩, .int .i64 0, .int .i64 0, .string ⟨#[]⟩, .slice none 0 0, .slice none 0 0, .int .i64 0, .int .i64 0, .string ⟨#[]⟩, .slice none 0 0, .slice none 0 0, .slice none 0 0, .int .i64 0, .int .i64 0] 28 HX3.out.2.2.2.1 (by simp) (by kernel_rfl) (by simp [Value.oneCell']) (by kernel_rfl) ?_; intro w6 hk ho hz; have HK6 := hid hk; have HO6 := hid (And.intro ho hz); clear hk ho hz)
    refine bodyPost_ret (results_cell_e2 rfl _ _ w.heap.size _ _ _ rfl HK6.out rfl) rfl ?_
    unfold DecRE
    rw [HF.out.1, HF.out.2]
    exact ⟨_, rfl, emptyE_at _ _, below_onlyE HX3.out.2.2.1 HO6.out.1 HX3.out.2.2.1.size⟩
def sameC (a b : EntT) : Bool := decide (errE a = 0) && decide (encE a = encE b)
set_option maxHeartbeats 16000000 in
theorem esame_any (S T : Nat → Prop) (a b : EntT) (cs ds : Array Value) (w : World) (hS : ∀ k, S k → k < w.heap.size) (hT : ∀ k, T k → k < w.heap.size) (h : EntL w S a cs) (k : EntL w T b ds) (ha : SmE a) (hb : SmE b) :
    Calls Tryz.prog 30 #[.agg cs, .agg ds] w fun q w' => q = .returned (.bool (sameC a b)) ∧ Below w.heap.size w w' := by
  obtain ⟨IA, ic, IA', ic', DA, dc, DA', dc', LA, lc, rfl, hat⟩ := h.at
  obtain ⟨JA, jc, JA', jc', FA, fc, FA', fc', MA, mc, rfl, kat⟩ := k.at
  obtain ⟨w1, hw1⟩ : ∃ W, W = w.alloc (.cells #[.int .i64 a.term, .int .i64 a.kind, .string a.coll, .string a.to, .int .i64 a.id.kind, .int .i64 a.id.num, .string a.id.text, .slice IA a.id.items.length ic, .slice IA' a.id.names.length ic', .int .i64 a.doc.kind, .int .i64 a.doc.num, .string a.doc.text, .slice DA a.doc.items.length dc, .slice DA' a.doc.names.length dc', .slice LA a.dels.length lc, .int .i64 a.session, .int .i64 a.number] 28) := ⟨_, rfl⟩
  obtain ⟨w2, hw2⟩ : ∃ W, W = w1.alloc (.cells #[.int .i64 b.term, .int .i64 b.kind, .string b.coll, .string b.to, .int .i64 b.id.kind, .int .i64 b.id.num, .string b.id.text, .slice JA b.id.items.length jc, .slice JA' b.id.names.length jc', .int .i64 b.doc.kind, .int .i64 b.doc.num, .string b.doc.text, .slice FA b.doc.items.length fc, .slice FA' b.doc.names.length fc', .slice MA b.dels.length mc, .int .i64 b.session, .int .i64 b.number] 28) := ⟨_, rfl⟩
  have hb1 : Below w.heap.size w w1 := by rw [hw1]; exact below_box _
  have hb2 : Below w1.heap.size w1 w2 := by rw [hw2]; exact below_box _
  have hz1 : w1.heap.size = w.heap.size + 1 := by rw [hw1]; simp
  have HK1 : Hid (EBox w2 w.heap.size a IA ic IA' ic' DA dc DA' dc' LA lc) := hid ((hb2.block _ (by omega)).trans (by rw [hw1]; exact heap_alloc_new w _))
  have HK2 : Hid (EBox w2 (w.heap.size + 1) b JA jc JA' jc' FA fc FA' fc' MA mc) := hid (by rw [← hz1, hw2]; exact heap_alloc_new w1 _)
  have HB2 : Hid (Below w.heap.size w w2) := hid (hb1.trans (hb2.mono (by omega)))
  have HEA := hid (fun (u : World) (hu : Below w.heap.size w u) => eencode_any S a #[.int .i64 a.term, .int .i64 a.kind, .string a.coll, .string a.to, .int .i64 a.id.kind, .int .i64 a.id.num, .string a.id.text, .slice IA a.id.items.length ic, .slice IA' a.id.names.length ic', .int .i64 a.doc.kind, .int .i64 a.doc.num, .string a.doc.text, .slice DA a.doc.items.length dc, .slice DA' a.doc.names.length dc', .slice LA a.dels.length lc, .int .i64 a.session, .int .i64 a.number] u (fun b hb' => Nat.lt_of_lt_of_le (hS b hb') hu.size) (hat.below hS hu).l ha)
  have HEB := hid (fun (u : World) (hu : Below w.heap.size w u) => eencode_any T b #[.int .i64 b.term, .int .i64 b.kind, .string b.coll, .string b.to, .int .i64 b.id.kind, .int .i64 b.id.num, .string b.id.text, .slice JA b.id.items.length jc, .slice JA' b.id.names.length jc', .int .i64 b.doc.kind, .int .i64 b.doc.num, .string b.doc.text, .slice FA b.doc.items.length fc, .slice FA' b.doc.names.length fc', .slice MA b.dels.length mc, .int .i64 b.session, .int .i64 b.number] u (fun b hb' => Nat.lt_of_lt_of_le (hT b hb') hu.size) (kat.below hT hu).l hb)
  have HZ1 := hid hz1
  have HZ2 : Hid (w.heap.size + 1 < w2.heap.size) := hid (by rw [hw2]; simp; omega)
  clear hb1 hb2 hz1 h k hat kat hS hT ha hb
  go_enter Tryz.func30, Tryz.ntmps30
  go_wp2_with fail
  rw [← hw1, ← hw2]
  clear hw1 hw2
  go_wp2_with (refine wpList_load_ent (by rfl) _ rfl w.heap.size rfl _ _ HK1.out rfl ?_; simp only [Act.put, List.setIfInBounds_toArray, List.set_cons_succ, List.set_cons_zero])
  refine (HEA.out _ HB2.out).mono ?_
  rintro q w3 ⟨v, rfl, ho, hb⟩
  have HO3 := hid ho
  have HB3 := hid (HB2.out.trans (hb.mono HB2.out.size))
  have HK3 := hid (HK2.out.below hb)
  clear ho hb HK2 HK1 HEA
  go_wp2_with (refine wpList_load_ent (by rfl) _ rfl (w.heap.size + 1) rfl _ _ HK3.out rfl ?_; simp only [Act.put, List.setIfInBounds_toArray, List.set_cons_succ, List.set_cons_zero])
  refine (HEB.out _ HB3.out).mono ?_
  rintro q w4 ⟨v2, rfl, ho, hb⟩
  have HO4 := hid (And.intro (HO3.out.below hb) ho)
  have HB4 := hid (HB3.out.trans (hb.mono HB3.out.size))
  clear ho hb HO3 HB3 HEB
  by_cases h0 : errE a = 0
  · have HE := hid h0
    rw [h0]
    go_wp2_with fail
    refine (byequal_any _ _ _ _ _ _ _ HO4.out.1.rdY HO4.out.2.rdY).mono ?_
    rintro q u ⟨rfl, hw⟩
    subst hw
    go_wp2_with fail
    go_ret
    exact ⟨by unfold sameC; rw [HE.out]; rfl, HB4.out⟩
  · have h1 : (errE a == 0) = false := beq_false_of_ne h0
    have HE := hid h0
    go_wp2_with fail
    go_ret
    exact ⟨by unfold sameC; rw [decide_eq_false HE.out]; rfl, HB4.out⟩
end Go.Proofs.YtpcdngpppjdgcaaGreat

/- Statements whose order Go leaves open, walked as they stand in the text, with a relation of one's choice for what must stay. -/
namespace Go.Proofs.YtpcdngpppjdgcaaGreat
set_option linter.unusedVariables false
set_option linter.unusedSimpArgs false
open Go.RowKit Go.Sort
section
variable {P : Program} {ops : Array Oper} {Q : Exit → Act → World → Prop} {md : Region.Mode} {R : World → World → Prop}
def wpLexR (R : World → World → Prop) (P : Program) (ops : Array Oper) (Q : Exit → Act → World → Prop) : List Oper → Act → World → Prop
  | [], a, w => Q .normal a w
  | o :: rest, a, w =>
    if Region.wanted o (yielded ops a.tmps) then
      (if isPure o then o.quiet P a (CRR R w) (fun a' => wpLexR R P ops Q rest a' w)
       else o.wp P a w (fun a' w' => R w w' ∧ wpLexR R P ops Q rest a' w') Q)
    else wpLexR R P ops Q rest (a.put o.dst undef) w
theorem anyR_one (hrr : ∀ w, R w w) {i : Nat} {oi : Oper} {v : Value} (hi : ops[i]? = some oi) (f : Nat) (listed : Array Bool) (a : Act) (w : World) (hr : i ∈ Region.ready md ops listed) (ho : ∀ j ∈ Region.ready md ops listed, j = i)
    (hy : YieldsIf P ops (fun u => R w u) oi v a) (H : anyR R [] P md ops Q f (listed.setIfInBounds i true) (a.put oi.dst v) w) : anyR R [] P md ops Q (f + 1) listed a w :=
  ⟨fun h => absurd hr (by rw [h]; exact List.not_mem_nil), fun j hj => by
    obtain rfl := ho j hj
    exact hy.wpOp hi (hrr _) ⟨.inr (hrr _), H⟩⟩
theorem anyR_of_lex (hrr : ∀ w, R w w) (htr : ∀ a b c, R a b → R b c → R a c) (hsel : Region.noSelect ops = true) (hQ : ∀ c d v a w, Q (.panic c) (Act.put a d v) w → Q (.panic c) a w) :
    ∀ (r : List Oper) (i : Nat) (listed : Array Bool) (a : Act) (w : World), r = ops.toList.drop i → i ≤ ops.size → FirstN listed ops.size i → lexFrom md ops i r = true → wpLexR R P ops Q r a w → anyR R [] P md ops Q r.length listed a w
  | [], i, listed, a, w, hr, hi, hf, hB, h => by
    have hlen : ops.size ≤ i := by
      have := congrArg List.length hr
      simp at this; omega
    refine ⟨?_, h⟩
    refine List.eq_nil_iff_forall_not_mem.2 fun j hj => ?_
    obtain ⟨h1, o, h2, -⟩ := mem_ready.1 hj
    have hjn := (Array.getElem?_eq_some_iff.1 h2).1
    rw [hf.getD, if_pos hjn] at h1
    simp at h1; omega
  | o :: r, i, listed, a, w, hr, hi, hf, hB, h => by
    have hin : i < ops.size := by
      have := congrArg List.length hr
      simp at this; omega
    have hoi : ops[i]? = some o := by
      have := congrArg (fun l => l[0]?) hr
      simp at this; exact this.symm
    have hr' : r = ops.toList.drop (i + 1) := by
      have := congrArg List.tail hr
      simpa using this
    have hat : ∀ j oj, ops[j]? = some oj → i < j → oj ∈ r := fun j oj hj hij => by
      rw [hr']
      refine List.mem_iff_getElem?.2 ⟨j - (i + 1), ?_⟩
      rw [List.getElem?_drop]
      have : i + 1 + (j - (i + 1)) = j := by omega
      rw [this]; simpa using hj
    unfold lexFrom at hB
    simp only [Bool.and_eq_true] at hB
    obtain ⟨⟨hE, hk⟩, hB'⟩ := hB
    have hrd : i ∈ Region.ready md ops listed := by
      refine mem_ready.2 ⟨by rw [hf.getD, if_pos hin]; simp, o, hoi, fun e he hb => ?_⟩
      have := List.all_eq_true.1 hE e (by simpa using he)
      rw [hb] at this
      simp at this
      have h3 : e.on < i := by simpa [Nat.blt_eq] using this
      rw [hf.getD, if_pos (by omega)]; simpa using h3
    have hun : ∀ j oj, ops[j]? = some oj → j ≠ i → listed.getD j true = false → i < j := fun j oj hj hne hu => by
      rw [hf.getD, if_pos (Array.getElem?_eq_some_iff.1 hj).1] at hu
      simp at hu; omega
    have hF := hf.step hin
    unfold wpLexR at h
    simp only [Bool.or_eq_true] at hk
    rcases hk with hk | hk
    · have hone : ∀ j ∈ Region.ready md ops listed, j = i := fun j hj => by
        obtain ⟨h1, oj, h2, h3⟩ := mem_ready.1 hj
        refine Classical.byContradiction fun hne => ?_
        have hm := hat j oj h2 (hun j oj h2 hne h1)
        have hl := List.all_eq_true.1 hk oj hm
        unfold late at hl
        obtain ⟨e, he, hb⟩ := List.any_eq_true.1 hl
        simp only [Bool.and_eq_true, Nat.ble_eq] at hb
        have := h3 e (by simpa using he) hb.1
        rw [hf.getD] at this
        split at this
        · simp at this; omega
        · cases this
      by_cases hw : Region.wanted o (yielded ops a.tmps) = true
      · by_cases hp : isPure o = true
        · rw [if_pos hw, if_pos hp] at h
          obtain ⟨v, h1, h2⟩ := h
          exact anyR_one hrr hoi _ listed a w hrd hone (yieldsR hp hw h1) (anyR_of_lex hrr htr hsel hQ r (i + 1) _ _ w hr' (by omega) hF hB' h2)
        · rw [if_pos hw, if_neg hp] at h
          refine ⟨fun h0 => absurd hrd (by rw [h0]; exact List.not_mem_nil), fun j hj => ?_⟩
          obtain rfl := hone j hj
          unfold wpOp
          simp only [hoi]
          rw [if_pos hw]
          exact .inl (Oper.wp_mono (fun a' w' h' => ⟨.inr h'.1, anyR_of_lex hrr htr hsel hQ r (j + 1) _ a' w' hr' (by omega) hF hB' h'.2⟩) h)
      · rw [if_neg hw] at h
        exact anyR_one hrr hoi _ listed a w hrd hone (.inr ⟨by simpa using hw, rfl⟩) (anyR_of_lex hrr htr hsel hQ r (i + 1) _ _ w hr' (by omega) hF hB' h)
    · simp only [Bool.and_eq_true] at hk
      obtain ⟨hp, hk⟩ := hk
      have hfree : ∀ j oj, ops[j]? = some oj → j ≠ i → listed.getD j true = false → (∀ e ∈ oj.after, Region.binds md e = true → e.on ≠ i) → o.apart ops oj = true := fun j oj hj hne hu hno => by
        have hl := List.all_eq_true.1 hk oj (hat j oj hj (hun j oj hj hne hu))
        simp only [Bool.or_eq_true] at hl
        rcases hl with hl | hl
        · obtain ⟨e, he, hb⟩ := List.any_eq_true.1 hl
          simp only [Bool.and_eq_true] at hb
          exact absurd (Nat.eq_of_beq_eq_true hb.2) (hno e (by simpa using he) hb.1)
        · exact hl
      have hT0 : (lastWait md ops [] i = true ∧ ∀ a b, R a b → R a b) ∨ ∀ a b, R a b := .inl ⟨rfl, fun _ _ h => h⟩
      by_cases hw : Region.wanted o (yielded ops a.tmps) = true
      · rw [if_pos hw, if_pos hp] at h
        obtain ⟨v, h1, h2⟩ := h
        exact anyR_first hrr R hrr htr hoi hT0 hsel hQ _ listed a w hfree hrd (yieldsR hp hw h1) (anyR_of_lex hrr htr hsel hQ r (i + 1) _ _ w hr' (by omega) hF hB' h2)
      · rw [if_neg hw] at h
        exact anyR_first hrr R hrr htr hoi hT0 hsel hQ _ listed a w hfree hrd (.inr ⟨by simpa using hw, rfl⟩) (anyR_of_lex hrr htr hsel hQ r (i + 1) _ _ w hr' (by omega) hF hB' h)
theorem wp_region_lexR (R : World → World → Prop) (hrr : ∀ w, R w w) (htr : ∀ a b c, R a b → R b c → R a c) {l : List Oper} {id : Nat} {a : Act} {w : World} (hm : P.follows .mixedOrders = true) (hB : okLex l = true) (hQ : ∀ c d v a w, Q (.panic c) (Act.put a d v) w → Q (.panic c) a w)
    (h : wpLexR R P l.toArray Q l a w.drew) : (Code.region id l.toArray true).wp P Q a w := by
  unfold okLex at hB
  simp only [Bool.and_eq_true] at hB
  refine wp_region_any hm (any_of_anyR (R := R) (T := []) _ _ _ _ ?_)
  have := anyR_of_lex (md := .any) (ops := l.toArray) hrr htr hB.1 hQ l 0 (Array.replicate l.toArray.size false) a w.drew (by simp) (Nat.zero_le _) ⟨by simp, fun k hk => by simp at hk; simp [hk]⟩ hB.2 h
  simpa using this
theorem lexR_seg {w : World} : ∀ (seg rest : List Oper) (a : Act), seg.all isPure = true → wpQuiet P ops (CRR R w) (fun a' => wpLexR R P ops Q rest a' w) seg a → wpLexR R P ops Q (seg ++ rest) a w
  | [], rest, a, _, h => h
  | o :: seg, rest, a, hp, h => by
    simp only [List.all_cons, Bool.and_eq_true] at hp
    rw [List.cons_append]
    unfold wpLexR
    unfold wpQuiet at h
    by_cases hw : Region.wanted o (yielded ops a.tmps) = true
    · rw [if_pos hw] at h
      rw [if_pos hw, if_pos hp.1]
      obtain ⟨v, h1, h2⟩ := h
      exact ⟨v, h1, lexR_seg seg rest _ hp.2 h2⟩
    · rw [if_neg hw] at h
      rw [if_neg hw]
      exact lexR_seg seg rest _ hp.2 h
theorem lexR_pure {l : List Oper} {a : Act} {w : World} (h : wpQuiet P ops (CRR R w) (fun a' => wpLexR R P ops Q (l.dropWhile isPure) a' w) (l.takeWhile isPure) a) : wpLexR R P ops Q l a w := by
  have := lexR_seg _ (l.dropWhile isPure) a (all_takeWhile l) h
  rwa [List.takeWhile_append_dropWhile] at this
theorem lexR_call {o : Oper} {rest : List Oper} {a : Act} {w : World} (hp : isPure o = false)
    (h : ∀ K : Act → World → Prop, (∀ a' w', R w w' → wpLexR R P ops Q rest a' w' → K a' w') → if Region.wanted o (yielded ops a.tmps) = true then o.wp P a w K Q else K (a.put o.dst undef) w) : wpLexR R P ops Q (o :: rest) a w := by
  have h1 := h (fun a' w' => R w w' ∧ wpLexR R P ops Q rest a' w') (fun a' w' h1 h2 => ⟨h1, h2⟩)
  unfold wpLexR
  by_cases hw : Region.wanted o (yielded ops a.tmps) = true
  · rw [if_pos hw] at h1
    rw [if_pos hw, if_neg (by rw [hp]; exact Bool.false_ne_true)]
    exact h1
  · rw [if_neg hw] at h1
    rw [if_neg hw]
    exact h1.2
end
def KeepG (g : Nat) (w w' : World) : Prop := w.heap.size ≤ w'.heap.size ∧ ∀ b, b < w.heap.size → b ≠ g → w'.heap[b]? = w.heap[b]?
theorem KeepG.refl (g : Nat) (w : World) : KeepG g w w := ⟨Nat.le_refl _, fun _ _ _ => rfl⟩
theorem KeepG.trans (g : Nat) (a b c : World) (h : KeepG g a b) (k : KeepG g b c) : KeepG g a c := ⟨Nat.le_trans h.1 k.1, fun i hi hg => (k.2 i (Nat.lt_of_lt_of_le hi h.1) hg).trans (h.2 i hi hg)⟩
theorem KeepG.of {g : Nat} {w w' : World} (h : Below w.heap.size w w') : KeepG g w w' := ⟨h.size, fun b hb _ => h.block b hb⟩
instance (g : Nat) (w : World) : Inhabited (LaterR (KeepG g) w) := ⟨⟨w, KeepG.refl g w⟩⟩
theorem cell_laterG {g : Nat} {w : World} {a : Addr} {v : Value} (h : w.cell? a = some v) (hB : a.block < w.heap.size) (hg : a.block ≠ g) : ∀ p : LaterR (KeepG g) w, p.u.cell? a = some v := fun p => (World.cell?_of_block (p.h.2 a.block hB hg)).trans h
end Go.Proofs.YtpcdngpppjdgcaaGreat
