/- What comes next in a source as an entry, by the document. (Written by mkent.py.) -/
import Derived.Test.YtpcdngpppjdgcaaGreatKEnR
import Derived.Test.YtpcdngpppjdgcaaGreatKEnM
import Derived.Test.YtpcdngpppjdgcaaGreatKDmH
import Derived.Test.YtpcdngpppjdgcaaGreatKRdC
import Derived.Test.YtpcdngpppjdgcaaGreatKRefZ
import Derived.Test.YtpcdngpppjdgcaaGreatKCodM
import Derived.Test.YtpcdngpppjdgcaaGreatKEnO
import Derived.Test.YtpcdngpppjdgcaaGreatKCodF
import Derived.Laws.AppendOwnNone
import Derived.Lib.AppendZerosOnto
import Derived.Lib.AppendZeros
import Derived.Lib.SliceRun
import Derived.Laws.ResultCell
namespace Go.Proofs.YtpcdngpppjdgcaaGreat
set_option linter.unusedVariables false
set_option linter.unusedSimpArgs false
open Go.RowKit
set_option maxRecDepth 100000
theorem only_brE {w w' : World} {B g : Nat} (ho : Only w w' g) (hB : B ≤ g) (hB2 : B ≤ w.heap.size) : Below B w w' := ⟨ho.os, ho.tape, ho.output, ho.size, fun b hb => ho.block b (by omega) (by rintro ⟨⟩; omega)⟩
theorem RS.stayE {w w' : World} {g BB p : Nat} {st : Option (List UInt8)} (h : RS w g BB st) (ho : Only w w' p) (hp : g ≠ p) (hB : BB ≤ g) (hBp : BB ≤ p) : RS w' g BB st :=
 h.keep (ho.block g h.lt (by intro e; injection e; omega)) (only_brE ho hBp (by have := h.lt; omega))
theorem RS.belowE {w w' : World} {g BB : Nat} {st : Option (List UInt8)} (h : RS w g BB st) (hb : Below w.heap.size w w') (hB : BB ≤ g) : RS w' g BB st :=
 h.keep (hb.block g h.lt) (hb.mono (by have := h.lt; omega))
structure RdRf (w0 W : World) (g BB r : Nat) (e : EntT) (IA : Option Addr) (ic : Nat) (IA' : Option Addr) (ic' : Nat) (DA : Option Addr) (dc : Nat) (DA' : Option Addr) (dc' : Nat) (LA : Option Addr) (lc : Nat) (st : Option (List UInt8)) : Prop where
 box : EBox W r e IA ic IA' ic' DA dc DA' dc' LA lc
 zero : W.heap[w0.heap.size]? = some (.cells #[.int .i64 0, .int .i64 0, .string ⟨#[]⟩, .string ⟨#[]⟩, .int .i64 0, .int .i64 0, .string ⟨#[]⟩, .slice none 0 0, .slice none 0 0, .int .i64 0, .int .i64 0, .string ⟨#[]⟩, .slice none 0 0, .slice none 0 0, .slice none 0 0, .int .i64 0, .int .i64 0] 28 (0, 0))
 src : RS W g BB st
 only : Only w0 W g
 pr : w0.heap.size < r
 gl : g < w0.heap.size
 bg : BB ≤ g
 id : LV W (Beh r W) e.id (.agg #[.int .i64 e.id.kind, .int .i64 e.id.num, .string e.id.text, .slice IA e.id.items.length ic, .slice IA' e.id.names.length ic'])
 doc : LV W (Beh r W) e.doc (.agg #[.int .i64 e.doc.kind, .int .i64 e.doc.num, .string e.doc.text, .slice DA e.doc.items.length dc, .slice DA' e.doc.names.length dc'])
 dels : DelsL W (Beh r W) LA e.dels
 cap : e.dels.length ≤ lc
 nil : LA = none → lc = 0
 len : e.dels.length ≤ 64
section
variable {w0 W W' : World} {g BB r : Nat} {e e' : EntT} {IA : Option Addr} {ic : Nat} {IA' : Option Addr} {ic' : Nat} {DA : Option Addr} {dc : Nat} {DA' : Option Addr} {dc' : Nat} {LA : Option Addr} {lc : Nat} {st st' : Option (List UInt8)}
theorem RdRf.call (h : RdRf w0 W g BB r e IA ic IA' ic' DA dc DA' dc' LA lc st) (ho : Only W W' g) (hs : RS W' g BB st') : RdRf w0 W' g BB r e IA ic IA' ic' DA dc DA' dc' LA lc st' := by
 have hpr := h.pr
 have hgl := h.gl
 have hk : ∀ b, Beh r W b → W'.heap[b]? = W.heap[b]? := only_keep ho fun b hb => ⟨hb.2, by have := hb.1; omega⟩
 have hi : ∀ b, Beh r W b → Beh r W' b := fun b hb => ⟨hb.1, Nat.lt_of_lt_of_le hb.2 ho.size⟩
 exact ⟨only_at ho h.box (by omega), only_at ho h.zero (by omega), hs, h.only.trans ho, hpr, hgl, h.bg, (h.id.keep hk).imp hi, (h.doc.keep hk).imp hi, (h.dels.keep hk).imp hi, h.cap, h.nil, h.len⟩
theorem RdRf.below (h : RdRf w0 W g BB r e IA ic IA' ic' DA dc DA' dc' LA lc st) (hb : Below W.heap.size W W') : RdRf w0 W' g BB r e IA ic IA' ic' DA dc DA' dc' LA lc st :=
 h.call (Only.ofBelow hb) (h.src.belowE hb h.bg)
theorem RdRf.spoil (h : RdRf w0 W g BB r e IA ic IA' ic' DA dc DA' dc' LA lc st) : RdRf w0 (W.setCell ⟨g, 1, none⟩ (.bool true)) g BB r e IA ic IA' ic' DA dc DA' dc' LA lc none :=
 h.call set_only (rs_spoil h.src)
theorem RdRf.store (h : RdRf w0 W g BB r e IA ic IA' ic' DA dc DA' dc' LA lc st) {JA : Option Addr} {jc : Nat} {JA' : Option Addr} {jc' : Nat} {EA : Option Addr} {ec : Nat} {EA' : Option Addr} {ec' : Nat} {MA : Option Addr} {mc : Nat}
  (hb : EBox W' r e' JA jc JA' jc' EA ec EA' ec' MA mc) (ho : Only W W' r) (hz : W'.heap.size = W.heap.size)
  (hid : LV W (Beh r W) e'.id (.agg #[.int .i64 e'.id.kind, .int .i64 e'.id.num, .string e'.id.text, .slice JA e'.id.items.length jc, .slice JA' e'.id.names.length jc'])) (hdoc : LV W (Beh r W) e'.doc (.agg #[.int .i64 e'.doc.kind, .int .i64 e'.doc.num, .string e'.doc.text, .slice EA e'.doc.items.length ec, .slice EA' e'.doc.names.length ec']))
  (hd : DelsL W (Beh r W) MA e'.dels) (hc : e'.dels.length ≤ mc) (hn : MA = none → mc = 0) (hl : e'.dels.length ≤ 64) : RdRf w0 W' g BB r e' JA jc JA' jc' EA ec EA' ec' MA mc st := by
 have hpr := h.pr
 have hgl := h.gl
 have hbg := h.bg
 have hk : ∀ b, Beh r W b → W'.heap[b]? = W.heap[b]? := only_keep ho fun b hb => ⟨hb.2, by have := hb.1; omega⟩
 have hi : ∀ b, Beh r W b → Beh r W' b := fun b hb => ⟨hb.1, by rw [hz]; exact hb.2⟩
 have hsz := h.only.size
 exact ⟨hb, only_at ho h.zero (by omega), h.src.stayE ho (by omega) hbg (by omega), ⟨ho.os.trans h.only.os, ho.tape.trans h.only.tape, ho.output.trans h.only.output, by rw [hz]; exact hsz, fun b hb hne => (ho.block b (by omega) (by intro e; injection e; omega)).trans (h.only.block b hb hne)⟩, hpr, hgl, hbg, (hid.keep hk).imp hi, (hdoc.keep hk).imp hi, (hd.keep hk).imp hi, hc, hn, hl⟩
structure NumOk (e : EntT) : Prop where
 t : Rng e.term
 k : Rng e.kind
 s : Rng e.session
 n : Rng e.number
 c : e.coll.size ≤ 140737488351232
 o : e.to.size ≤ 140737488351232
theorem RdRf.ent (h : RdRf w0 W g BB r e IA ic IA' ic' DA dc DA' dc' LA lc st) (hn : NumOk e) : EntL W (Beh r W) e #[.int .i64 e.term, .int .i64 e.kind, .string e.coll, .string e.to, .int .i64 e.id.kind, .int .i64 e.id.num, .string e.id.text, .slice IA e.id.items.length ic, .slice IA' e.id.names.length ic', .int .i64 e.doc.kind, .int .i64 e.doc.num, .string e.doc.text, .slice DA e.doc.items.length dc, .slice DA' e.doc.names.length dc', .slice LA e.dels.length lc, .int .i64 e.session, .int .i64 e.number] :=
 ⟨IA, ic, IA', ic', DA, dc, DA', dc', LA, lc, rfl, h.id, h.doc, h.dels, h.cap, h.nil, by have := h.len; omega, hn.t, hn.k, hn.s, hn.n, hn.c, hn.o⟩
theorem RdRf.fin (h : RdRf w0 W g BB r e IA ic IA' ic' DA dc DA' dc' LA lc st) (hn : NumOk e) (ho : Only W W' w0.heap.size) (hz : W'.heap.size = W.heap.size) :
  EntL W' (NewB w0.heap.size W') e #[.int .i64 e.term, .int .i64 e.kind, .string e.coll, .string e.to, .int .i64 e.id.kind, .int .i64 e.id.num, .string e.id.text, .slice IA e.id.items.length ic, .slice IA' e.id.names.length ic', .int .i64 e.doc.kind, .int .i64 e.doc.num, .string e.doc.text, .slice DA e.doc.items.length dc, .slice DA' e.doc.names.length dc', .slice LA e.dels.length lc, .int .i64 e.session, .int .i64 e.number] ∧ RS W' g BB st ∧ Only w0 W' g := by
 have hpr := h.pr
 have hgl := h.gl
 have hbg := h.bg
 have hsz := h.only.size
 have hk : ∀ b, Beh r W b → W'.heap[b]? = W.heap[b]? := only_keep ho fun b hb => ⟨hb.2, by have := hb.1; omega⟩
 have hi : ∀ b, Beh r W b → NewB w0.heap.size W' b := fun b hb => ⟨by have := hb.1; omega, by rw [hz]; exact hb.2⟩
 exact ⟨((h.ent hn).keep hk).imp hi, h.src.stayE ho (by omega) hbg (by omega), only_near h.only ho (Nat.le_refl _)⟩
theorem RdRf.fin0 (h : RdRf w0 W g BB r e IA ic IA' ic' DA dc DA' dc' LA lc st) (ho : Only W W' w0.heap.size) : EntL W' (NewB w0.heap.size W') emptyE #[.int .i64 0, .int .i64 0, .string ⟨#[]⟩, .string ⟨#[]⟩, .int .i64 0, .int .i64 0, .string ⟨#[]⟩, .slice none 0 0, .slice none 0 0, .int .i64 0, .int .i64 0, .string ⟨#[]⟩, .slice none 0 0, .slice none 0 0, .slice none 0 0, .int .i64 0, .int .i64 0] ∧ RS W' g BB st ∧ Only w0 W' g := by
 have hgl := h.gl
 have hbg := h.bg
 exact ⟨emptyE_at _ _, h.src.stayE ho (by omega) hbg (by omega), only_near h.only ho (Nat.le_refl _)⟩
end
theorem rs_lenO {w : World} {g BB : Nat} {st : Option (List UInt8)} (h : RS w g BB st) : LenO st := fun l e => by
 subst e
 obtain ⟨v, -, A, cap, -, h2, h3, -⟩ := h
 omega
def ReadRR (g BB : Nat) (st : Option (List UInt8)) (w : World) (q : Ending) (w' : World) : Prop := ∃ cs, q = .returned (.agg cs) ∧ EntL w' (NewB w.heap.size w') (rdE st).1 cs ∧ RS w' g BB (rdE st).2 ∧ Only w w' g
set_option maxHeartbeats 64000000 in
theorem r13read_any (g BB : Nat) (st : Option (List UInt8)) (w : World) (hs : RS w g BB st) (hB : BB ≤ g) : Calls Tryz.prog 26 #[.pointer (some ⟨g, 0, none⟩)] w (ReadRR g BB st w) := by
 have HSM := Lib.hid (sm_read (rs_lenO hs))
 obtain ⟨w0, hw0⟩ : ∃ W, W = w.alloc (.cells #[.int .i64 0, .int .i64 0, .string ⟨#[]⟩, .string ⟨#[]⟩, .int .i64 0, .int .i64 0, .string ⟨#[]⟩, .slice none 0 0, .slice none 0 0, .int .i64 0, .int .i64 0, .string ⟨#[]⟩, .slice none 0 0, .slice none 0 0, .slice none 0 0, .int .i64 0, .int .i64 0] 28) := ⟨_, rfl⟩
 have hz0 : w0.heap[w.heap.size]? = some (.cells #[.int .i64 0, .int .i64 0, .string ⟨#[]⟩, .string ⟨#[]⟩, .int .i64 0, .int .i64 0, .string ⟨#[]⟩, .slice none 0 0, .slice none 0 0, .int .i64 0, .int .i64 0, .string ⟨#[]⟩, .slice none 0 0, .slice none 0 0, .slice none 0 0, .int .i64 0, .int .i64 0] 28 (0, 0)) := by rw [hw0]; exact heap_alloc_new w _
 have hs0 : RS w0 g BB st := by rw [hw0]; exact hs.belowE (below_box _) hB
 have ho0 : Only w w0 g := by rw [hw0]; exact (Only.refl w g).alloc _
 have hsz0 : w0.heap.size = w.heap.size + 1 := by rw [hw0]; simp
 obtain ⟨a, ha⟩ : ∃ a, a = rdCount 1099511627776 st := ⟨_, rfl⟩
 obtain ⟨k, hk⟩ : ∃ k, k = rdByte a.2 := ⟨_, rfl⟩
 obtain ⟨s, hse⟩ : ∃ s, s = rdCount 255 k.2 := ⟨_, rfl⟩
 obtain ⟨n, hn⟩ : ∃ n, n = rdCount 1099511627776 s.2 := ⟨_, rfl⟩
 have HDEF : Hid (rdE1 st = (let c := optR (hasColl k.1) ⟨#[]⟩ (rdTextB 32) n.2
   let t := optR (hasTo k.1) ⟨#[]⟩ (rdTextB 32) c.2
   let i := optR (hasId k.1) noneV readO t.2
   let d := optR (hasDoc k.1) noneV readO i.2
   let l := optR (hasDels k.1) [] rdDl d.2
   (⟨a.1, k.1, c.1, t.1, i.1, d.1, l.1, s.1, n.1⟩, l.2))) := Lib.hid (by rw [hn, hse, hk, ha]; rfl)
 have HNUM : Hid (a.1 ≤ 1099511627776 ∧ k.1 ≤ 255 ∧ s.1 ≤ 255 ∧ n.1 ≤ 1099511627776) := Lib.hid ⟨by rw [ha]; exact rdCount_le 1099511627776 st (by omega), by rw [hk]; exact rdByte_le _, by rw [hse]; exact rdCount_le 255 _ (by omega), by rw [hn]; exact rdCount_le 1099511627776 _ (by omega)⟩
 have HC := Lib.hid (rscount_any g BB 1099511627776 st w0 hs0 hB (by omega))
 rw [← ha] at HC
 have HBY := Lib.hid (fun W h => rsbyte_any g BB a.2 W h hB)
 rw [← hk] at HBY
 have HSE := Lib.hid (fun W h => rscount_any g BB 255 k.2 W h hB (by omega))
 rw [← hse] at HSE
 have HNU := Lib.hid (fun W h => rscount_any g BB 1099511627776 s.2 W h hB (by omega))
 rw [← hn] at HNU
 have HZ0 := Lib.hid hz0
 have HO0 := Lib.hid ho0
 have HS0 := Lib.hid hsz0
 have HG := Lib.hid hs.lt
 have HBB := Lib.hid hB
 clear hs hz0 hs0 ho0 ha hk hse hn hsz0 hB
 go_enter Tryz.func26, Tryz.ntmps26
 go_wp2_with fail
 rw [← hw0]
 refine HC.out.mono ?_
 rintro q w1 ⟨rfl, hs1, ho1⟩
 clear hw0 HC
 obtain ⟨w2, hw2⟩ : ∃ W, W = w1.alloc (.cells #[.int .i64 (a.1 : Int), .int .i64 0, .string ⟨#[]⟩, .string ⟨#[]⟩, .int .i64 0, .int .i64 0, .string ⟨#[]⟩, .slice none 0 0, .slice none 0 0, .int .i64 0, .int .i64 0, .string ⟨#[]⟩, .slice none 0 0, .slice none 0 0, .slice none 0 0, .int .i64 0, .int .i64 0] 28) := ⟨_, rfl⟩
 have HR2 : Hid (RdRf w w2 g BB w1.heap.size ⟨a.1, 0, ⟨#[]⟩, ⟨#[]⟩, noneV, noneV, [], 0, 0⟩ none 0 none 0 none 0 none 0 none 0 a.2) := Lib.hid (by
  have hlt := ho1.size
  have hh := HS0.out
  have hgg := HG.out
  have hoo : Only w w2 g := by rw [hw2]; exact (HO0.out.trans ho1).alloc _
  have hb2 : Below w1.heap.size w1 w2 := by rw [hw2]; exact below_box _
  exact ⟨by rw [hw2]; exact heap_alloc_new w1 _, (hb2.block _ (by omega)).trans (only_at ho1 HZ0.out (by omega)), hs1.belowE hb2 HBB.out, hoo, by omega, hgg, HBB.out, leaf_lv _ _ _ _ _ (by unfold Rng; omega) (by unfold Rng; omega) (by decide), leaf_lv _ _ _ _ _ (by unfold Rng; omega) (by unfold Rng; omega) (by decide), nil_dels _ _, by simp, fun _ => rfl, by simp⟩)
 clear hs1 ho1 HZ0 HO0
 go_wp2_with fail
 rw [← hw2]
 clear hw2
 obtain ⟨r, hr⟩ : ∃ r, r = w1.heap.size := ⟨_, rfl⟩
 rw [← hr] at HR2 ⊢
 clear hr
 refine (HBY.out _ HR2.out.src).mono ?_
 rintro q w3 ⟨rfl, hs, ho⟩
 have HR3 := Lib.hid (HR2.out.call ho hs)
 clear hs ho HR2
 go_wp2_with (refine wpList_store_box (by rfl) 3 _ _ rfl rfl r 1 rfl _ #[.int .i64 (k.1 : Int)] rfl rfl HR3.out.box ⟨a.1, k.1, ⟨#[]⟩, ⟨#[]⟩, noneV, noneV, [], 0, 0⟩ none 0 none 0 none 0 none 0 none 0 (by simp) (by kernel_rfl) (by simp [Value.oneCell']) (by kernel_rfl) ?_; intro w4 HK4 HO4; have HR4 := Lib.hid (HR3.out.store HK4.out HO4.out.1 HO4.out.2 HR3.out.id HR3.out.doc HR3.out.dels HR3.out.cap HR3.out.nil HR3.out.len); clear HR3 HK4 HO4)
 refine (HSE.out _ HR4.out.src).mono ?_
 rintro q w5 ⟨rfl, hs, ho⟩
 have HR5 := Lib.hid (HR4.out.call ho hs)
 clear hs ho HR4
 go_wp2_with (refine wpList_store_box (by rfl) 3 _ _ rfl rfl r 15 rfl _ #[.int .i64 (s.1 : Int)] rfl rfl HR5.out.box ⟨a.1, k.1, ⟨#[]⟩, ⟨#[]⟩, noneV, noneV, [], s.1, 0⟩ none 0 none 0 none 0 none 0 none 0 (by simp) (by kernel_rfl) (by simp [Value.oneCell']) (by kernel_rfl) ?_; intro w6 HK6 HO6; have HR6 := Lib.hid (HR5.out.store HK6.out HO6.out.1 HO6.out.2 HR5.out.id HR5.out.doc HR5.out.dels HR5.out.cap HR5.out.nil HR5.out.len); clear HR5 HK6 HO6)
 refine (HNU.out _ HR6.out.src).mono ?_
 rintro q w7 ⟨rfl, hs, ho⟩
 have HR7 := Lib.hid (HR6.out.call ho hs)
 clear hs ho HR6
 go_wp2_with (refine wpList_store_box (by rfl) 3 _ _ rfl rfl r 16 rfl _ #[.int .i64 (n.1 : Int)] rfl rfl HR7.out.box ⟨a.1, k.1, ⟨#[]⟩, ⟨#[]⟩, noneV, noneV, [], s.1, n.1⟩ none 0 none 0 none 0 none 0 none 0 (by simp) (by kernel_rfl) (by simp [Value.oneCell']) (by kernel_rfl) ?_; intro w8 HK8 HO8; have HR8 := Lib.hid (HR7.out.store HK8.out HO8.out.1 HO8.out.2 HR7.out.id HR7.out.doc HR7.out.dels HR7.out.cap HR7.out.nil HR7.out.len); clear HR7 HK8 HO8; have y1 := HR8.out.box.g1)
 refine (r13has_any (k.1 : Int) _).mono ?_
 rintro q u ⟨rfl, hw⟩
 replace hw := hw.symm
 subst hw
 clear y1
 rcases has_combo (k.1 : Int) with ⟨c1, c2, c3, c4, c5⟩ | ⟨c1, c2, c3, c4, c5⟩ | ⟨c1, c2, c3, c4, c5⟩ | ⟨c1, c2, c3, c4, c5⟩ | ⟨c1, c2, c3, c4, c5⟩ | ⟨c1, c2, c3, c4, c5⟩
 ·have HF : Hid (rdE1 st = (⟨a.1, k.1, ⟨#[]⟩, ⟨#[]⟩, noneV, noneV, [], s.1, n.1⟩, n.2)) := Lib.hid (by rw [HDEF.out, c1, c2, c3, c4, c5]; rfl)
  rw [c1, c2, c3, c4, c5]
  clear c1 c2 c3 c4 c5
  have HNK : Hid (NumOk ⟨a.1, k.1, ⟨#[]⟩, ⟨#[]⟩, noneV, noneV, [], s.1, n.1⟩) := Lib.hid ⟨by have := HNUM.out; unfold Rng; simp only; omega, by have := HNUM.out; unfold Rng; simp only; omega, by have := HNUM.out; unfold Rng; simp only; omega, by have := HNUM.out; unfold Rng; simp only; omega, show (⟨#[]⟩ : ByteArray).size ≤ 140737488351232 by decide, show (⟨#[]⟩ : ByteArray).size ≤ 140737488351232 by decide⟩
  have HE : Hid (rdE st = pickE ⟨a.1, k.1, ⟨#[]⟩, ⟨#[]⟩, noneV, noneV, [], s.1, n.1⟩ (n.2)) := Lib.hid (by rw [rdE_pick, HF.out])
  have HSE9 : Hid (SmE ⟨a.1, k.1, ⟨#[]⟩, ⟨#[]⟩, noneV, noneV, [], s.1, n.1⟩) := Lib.hid (by have h := HSM.out; rw [HF.out] at h; exact h)
  obtain ⟨s9, hs9⟩ : ∃ s, s = (n.2) := ⟨_, rfl⟩
  rw [← hs9] at HE HR8
  clear hs9 HF
  cases s9 with
  | none =>
   have b1 := rs_c1 HR8.out.src
   have f1 := rs_f1 HR8.out.src
   simp only [Option.isNone_none] at b1
   go_wp2_with (have HR91 := Lib.hid HR8.out.spoil; refine wpList_store_zent (by rfl) _ _ rfl rfl w.heap.size rfl rfl HR91.out.zero ?_; intro w92 HK92 HO92)
   refine bodyPost_ret (results_cell_e rfl _ _ w.heap.size _ _ _ rfl HK92.out rfl) rfl ?_
   unfold ReadRR
   rw [HE.out]
   obtain ⟨f1, f2, f3⟩ := HR91.out.fin0 HO92.out
   exact ⟨_, rfl, f1, f2, f3⟩
  | some r9 =>
   have b1 := rs_c1 HR8.out.src
   have f1 := rs_f1 HR8.out.src
   simp only [Option.isNone_some] at b1
   go_wp2_with (refine wpList_load_ent (by rfl) _ rfl r rfl _ _ HR8.out.box rfl ?_; simp only [acR, Act.put])
   refine (r13may_any (Beh r w8) _ _ w8 (fun b hb => hb.2) (HR8.out.ent HNK.out) HSE9.out).mono ?_
   rintro q w90 ⟨rfl, hb⟩
   have HR90 := Lib.hid (HR8.out.below hb)
   clear hb b1 f1 HR8
   have f1 := rs_f1 HR90.out.src
   have b1 := rs_c1 HR90.out.src
   simp only [Option.isNone_some] at b1
   cases hm : mayE ⟨a.1, k.1, ⟨#[]⟩, ⟨#[]⟩, noneV, noneV, [], s.1, n.1⟩ with
   | false =>
    have HE2 : Hid (rdE st = (emptyE, none)) := Lib.hid (by rw [HE.out]; unfold pickE; rw [hm]; rfl)
    go_wp2_with (have HR91 := Lib.hid HR90.out.spoil; refine wpList_store_zent (by rfl) _ _ rfl rfl w.heap.size rfl rfl HR91.out.zero ?_; intro w92 HK92 HO92)
    refine bodyPost_ret (results_cell_e rfl _ _ w.heap.size _ _ _ rfl HK92.out rfl) rfl ?_
    unfold ReadRR
    rw [HE2.out]
    obtain ⟨f1, f2, f3⟩ := HR91.out.fin0 HO92.out
    exact ⟨_, rfl, f1, f2, f3⟩
   | true =>
    have HE2 : Hid (rdE st = (⟨a.1, k.1, ⟨#[]⟩, ⟨#[]⟩, noneV, noneV, [], s.1, n.1⟩, some r9)) := Lib.hid (by rw [HE.out]; show (if mayE _ = true then _ else _) = _; rw [if_pos hm])
    clear b1 f1
    go_wp2_with (first | (refine wpList_load_ent (by rfl) _ rfl r rfl _ _ HR90.out.box rfl ?_; simp only [acR, Act.put]) | (refine wpList_store_all (by rfl) _ _ rfl rfl w.heap.size rfl ⟨a.1, k.1, ⟨#[]⟩, ⟨#[]⟩, noneV, noneV, [], s.1, n.1⟩ none 0 none 0 none 0 none 0 none 0 rfl HR90.out.zero ?_; intro w92 HK92 HO92))
    refine bodyPost_ret (results_cell_e rfl _ _ w.heap.size _ _ _ rfl HK92.out rfl) rfl ?_
    unfold ReadRR
    rw [HE2.out]
    obtain ⟨f1, f2, f3⟩ := HR90.out.fin HNK.out HO92.out.1 HO92.out.2
    exact ⟨_, rfl, f1, f2, f3⟩
 ·have HF : Hid (rdE1 st = (⟨a.1, k.1, ⟨(rdText 32 (n.2)).1.toArray⟩, ⟨#[]⟩, (readO ((rdText 32 (n.2)).2)).1, (readO ((readO ((rdText 32 (n.2)).2)).2)).1, [], s.1, n.1⟩, (readO ((readO ((rdText 32 (n.2)).2)).2)).2)) := Lib.hid (by rw [HDEF.out, c1, c2, c3, c4, c5]; rfl)
  rw [c1, c2, c3, c4, c5]
  clear c1 c2 c3 c4 c5
  go_wp2_with fail
  refine (rstext_any g BB 32 (n.2) _ HR8.out.src HBB.out (by omega)).mono ?_
  rintro q w9 ⟨rfl, hs, ho⟩
  have HR9 := Lib.hid (HR8.out.call ho hs)
  clear hs ho HR8
  obtain ⟨z8, hz8⟩ : ∃ z, z = rdText 32 (n.2) := ⟨_, rfl⟩
  have HT8 : Hid (z8.1.length ≤ 32) := Lib.hid (by rw [hz8]; exact rdText_le 32 _ (by omega))
  rw [← hz8] at HR9 HF ⊢
  clear hz8
  go_wp2_with (refine wpList_store_box (by rfl) 9 _ _ rfl rfl r 2 rfl _ #[.string ⟨z8.1.toArray⟩] rfl rfl HR9.out.box ⟨a.1, k.1, ⟨z8.1.toArray⟩, ⟨#[]⟩, noneV, noneV, [], s.1, n.1⟩ none 0 none 0 none 0 none 0 none 0 (by simp) (by kernel_rfl) (by simp [Value.oneCell']) (by kernel_rfl) ?_; intro w10 HK10 HO10; have HR10 := Lib.hid (HR9.out.store HK10.out HO10.out.1 HO10.out.2 HR9.out.id HR9.out.doc HR9.out.dels HR9.out.cap HR9.out.nil HR9.out.len); clear HR9 HK10 HO10)
  refine (rread_any g BB (z8.2) _ HR10.out.src HBB.out).mono ?_
  rintro q w11 ⟨v, rfl, hs, ho, hv⟩
  have HR11 := Lib.hid (HR10.out.call ho hs)
  have HV10 : Hid (LV w11 (Beh r w11) (readO (z8.2)).1 v) := Lib.hid (hv.imp fun b hb => ⟨by have h1 := hb.1; have h2 := (Array.getElem?_eq_some_iff.1 HR10.out.box).1; omega, hb.2⟩)
  obtain ⟨V10A, v10a, V10B, v10b, rfl, -⟩ := hv.shape
  obtain ⟨z10, hz10⟩ : ∃ z, z = readO (z8.2) := ⟨_, rfl⟩
  rw [← hz10] at HR11 HV10 HF ⊢
  clear hz10 hs ho hv HR10
  go_wp2_with (refine wpList_store_box (by rfl) 25 _ _ rfl rfl r 4 rfl _ #[.int .i64 z10.1.kind, .int .i64 z10.1.num, .string z10.1.text, .slice V10A z10.1.items.length v10a, .slice V10B z10.1.names.length v10b] rfl rfl HR11.out.box ⟨a.1, k.1, ⟨z8.1.toArray⟩, ⟨#[]⟩, z10.1, noneV, [], s.1, n.1⟩ V10A v10a V10B v10b none 0 none 0 none 0 (by simp) (by kernel_rfl) (by simp [Value.oneCell']) (by kernel_rfl) ?_; intro w12 HK12 HO12; have HR12 := Lib.hid (HR11.out.store HK12.out HO12.out.1 HO12.out.2 HV10.out HR11.out.doc HR11.out.dels HR11.out.cap HR11.out.nil HR11.out.len); clear HR11 HK12 HO12; clear HV10)
  refine (rread_any g BB (z10.2) _ HR12.out.src HBB.out).mono ?_
  rintro q w13 ⟨v, rfl, hs, ho, hv⟩
  have HR13 := Lib.hid (HR12.out.call ho hs)
  have HV12 : Hid (LV w13 (Beh r w13) (readO (z10.2)).1 v) := Lib.hid (hv.imp fun b hb => ⟨by have h1 := hb.1; have h2 := (Array.getElem?_eq_some_iff.1 HR12.out.box).1; omega, hb.2⟩)
  obtain ⟨V12A, v12a, V12B, v12b, rfl, -⟩ := hv.shape
  obtain ⟨z12, hz12⟩ : ∃ z, z = readO (z10.2) := ⟨_, rfl⟩
  rw [← hz12] at HR13 HV12 HF ⊢
  clear hz12 hs ho hv HR12
  have HNK : Hid (NumOk ⟨a.1, k.1, ⟨z8.1.toArray⟩, ⟨#[]⟩, z10.1, z12.1, [], s.1, n.1⟩) := Lib.hid ⟨by have := HNUM.out; unfold Rng; simp only; omega, by have := HNUM.out; unfold Rng; simp only; omega, by have := HNUM.out; unfold Rng; simp only; omega, by have := HNUM.out; unfold Rng; simp only; omega, by have := HT8.out; simp [ByteArray.size]; omega, show (⟨#[]⟩ : ByteArray).size ≤ 140737488351232 by decide⟩
  have HE : Hid (rdE st = pickE ⟨a.1, k.1, ⟨z8.1.toArray⟩, ⟨#[]⟩, z10.1, z12.1, [], s.1, n.1⟩ (z12.2)) := Lib.hid (by rw [rdE_pick, HF.out])
  have HSE9 : Hid (SmE ⟨a.1, k.1, ⟨z8.1.toArray⟩, ⟨#[]⟩, z10.1, z12.1, [], s.1, n.1⟩) := Lib.hid (by have h := HSM.out; rw [HF.out] at h; exact h)
  obtain ⟨s9, hs9⟩ : ∃ s, s = (z12.2) := ⟨_, rfl⟩
  rw [← hs9] at HE HR13
  clear hs9 HF
  cases s9 with
  | none =>
   go_wp2_with (first | (refine wpList_store_box (by rfl) 25 _ _ rfl rfl r 9 rfl _ #[.int .i64 z12.1.kind, .int .i64 z12.1.num, .string z12.1.text, .slice V12A z12.1.items.length v12a, .slice V12B z12.1.names.length v12b] rfl rfl HR13.out.box ⟨a.1, k.1, ⟨z8.1.toArray⟩, ⟨#[]⟩, z10.1, z12.1, [], s.1, n.1⟩ V10A v10a V10B v10b V12A v12a V12B v12b none 0 (by simp) (by kernel_rfl) (by simp [Value.oneCell']) (by kernel_rfl) ?_; intro w14 HK14 HO14; have HR14 := Lib.hid (HR13.out.store HK14.out HO14.out.1 HO14.out.2 HR13.out.id HV12.out HR13.out.dels HR13.out.cap HR13.out.nil HR13.out.len); clear HR13 HK14 HO14; clear HV12; have b1 := rs_c1 HR14.out.src; have f1 := rs_f1 HR14.out.src; simp only [Option.isNone_none] at b1) | (have HR91 := Lib.hid HR14.out.spoil; refine wpList_store_zent (by rfl) _ _ rfl rfl w.heap.size rfl rfl HR91.out.zero ?_; intro w92 HK92 HO92))
   refine bodyPost_ret (results_cell_e rfl _ _ w.heap.size _ _ _ rfl HK92.out rfl) rfl ?_
   unfold ReadRR
   rw [HE.out]
   obtain ⟨f1, f2, f3⟩ := HR91.out.fin0 HO92.out
   exact ⟨_, rfl, f1, f2, f3⟩
  | some r9 =>
   go_wp2_with (first | (refine wpList_store_box (by rfl) 25 _ _ rfl rfl r 9 rfl _ #[.int .i64 z12.1.kind, .int .i64 z12.1.num, .string z12.1.text, .slice V12A z12.1.items.length v12a, .slice V12B z12.1.names.length v12b] rfl rfl HR13.out.box ⟨a.1, k.1, ⟨z8.1.toArray⟩, ⟨#[]⟩, z10.1, z12.1, [], s.1, n.1⟩ V10A v10a V10B v10b V12A v12a V12B v12b none 0 (by simp) (by kernel_rfl) (by simp [Value.oneCell']) (by kernel_rfl) ?_; intro w14 HK14 HO14; have HR14 := Lib.hid (HR13.out.store HK14.out HO14.out.1 HO14.out.2 HR13.out.id HV12.out HR13.out.dels HR13.out.cap HR13.out.nil HR13.out.len); clear HR13 HK14 HO14; clear HV12; have b1 := rs_c1 HR14.out.src; have f1 := rs_f1 HR14.out.src; simp only [Option.isNone_some] at b1) | (refine wpList_load_ent (by rfl) _ rfl r rfl _ _ HR14.out.box rfl ?_; simp only [acR, Act.put]))
   refine (r13may_any (Beh r w14) _ _ w14 (fun b hb => hb.2) (HR14.out.ent HNK.out) HSE9.out).mono ?_
   rintro q w90 ⟨rfl, hb⟩
   have HR90 := Lib.hid (HR14.out.below hb)
   clear hb b1 f1 HR14
   have f1 := rs_f1 HR90.out.src
   have b1 := rs_c1 HR90.out.src
   simp only [Option.isNone_some] at b1
   cases hm : mayE ⟨a.1, k.1, ⟨z8.1.toArray⟩, ⟨#[]⟩, z10.1, z12.1, [], s.1, n.1⟩ with
   | false =>
    have HE2 : Hid (rdE st = (emptyE, none)) := Lib.hid (by rw [HE.out]; unfold pickE; rw [hm]; rfl)
    go_wp2_with (have HR91 := Lib.hid HR90.out.spoil; refine wpList_store_zent (by rfl) _ _ rfl rfl w.heap.size rfl rfl HR91.out.zero ?_; intro w92 HK92 HO92)
    refine bodyPost_ret (results_cell_e rfl _ _ w.heap.size _ _ _ rfl HK92.out rfl) rfl ?_
    unfold ReadRR
    rw [HE2.out]
    obtain ⟨f1, f2, f3⟩ := HR91.out.fin0 HO92.out
    exact ⟨_, rfl, f1, f2, f3⟩
   | true =>
    have HE2 : Hid (rdE st = (⟨a.1, k.1, ⟨z8.1.toArray⟩, ⟨#[]⟩, z10.1, z12.1, [], s.1, n.1⟩, some r9)) := Lib.hid (by rw [HE.out]; show (if mayE _ = true then _ else _) = _; rw [if_pos hm])
    clear b1 f1
    go_wp2_with (first | (refine wpList_load_ent (by rfl) _ rfl r rfl _ _ HR90.out.box rfl ?_; simp only [acR, Act.put]) | (refine wpList_store_all (by rfl) _ _ rfl rfl w.heap.size rfl ⟨a.1, k.1, ⟨z8.1.toArray⟩, ⟨#[]⟩, z10.1, z12.1, [], s.1, n.1⟩ V10A v10a V10B v10b V12A v12a V12B v12b none 0 rfl HR90.out.zero ?_; intro w92 HK92 HO92))
    refine bodyPost_ret (results_cell_e rfl _ _ w.heap.size _ _ _ rfl HK92.out rfl) rfl ?_
    unfold ReadRR
    rw [HE2.out]
    obtain ⟨f1, f2, f3⟩ := HR90.out.fin HNK.out HO92.out.1 HO92.out.2
    exact ⟨_, rfl, f1, f2, f3⟩
 ·have HF : Hid (rdE1 st = (⟨a.1, k.1, ⟨(rdText 32 (n.2)).1.toArray⟩, ⟨#[]⟩, (readO ((rdText 32 (n.2)).2)).1, noneV, (rdDl ((readO ((rdText 32 (n.2)).2)).2)).1, s.1, n.1⟩, (rdDl ((readO ((rdText 32 (n.2)).2)).2)).2)) := Lib.hid (by rw [HDEF.out, c1, c2, c3, c4, c5]; rfl)
  rw [c1, c2, c3, c4, c5]
  clear c1 c2 c3 c4 c5
  go_wp2_with fail
  refine (rstext_any g BB 32 (n.2) _ HR8.out.src HBB.out (by omega)).mono ?_
  rintro q w9 ⟨rfl, hs, ho⟩
  have HR9 := Lib.hid (HR8.out.call ho hs)
  clear hs ho HR8
  obtain ⟨z8, hz8⟩ : ∃ z, z = rdText 32 (n.2) := ⟨_, rfl⟩
  have HT8 : Hid (z8.1.length ≤ 32) := Lib.hid (by rw [hz8]; exact rdText_le 32 _ (by omega))
  rw [← hz8] at HR9 HF ⊢
  clear hz8
  go_wp2_with (refine wpList_store_box (by rfl) 9 _ _ rfl rfl r 2 rfl _ #[.string ⟨z8.1.toArray⟩] rfl rfl HR9.out.box ⟨a.1, k.1, ⟨z8.1.toArray⟩, ⟨#[]⟩, noneV, noneV, [], s.1, n.1⟩ none 0 none 0 none 0 none 0 none 0 (by simp) (by kernel_rfl) (by simp [Value.oneCell']) (by kernel_rfl) ?_; intro w10 HK10 HO10; have HR10 := Lib.hid (HR9.out.store HK10.out HO10.out.1 HO10.out.2 HR9.out.id HR9.out.doc HR9.out.dels HR9.out.cap HR9.out.nil HR9.out.len); clear HR9 HK10 HO10)
  refine (rread_any g BB (z8.2) _ HR10.out.src HBB.out).mono ?_
  rintro q w11 ⟨v, rfl, hs, ho, hv⟩
  have HR11 := Lib.hid (HR10.out.call ho hs)
  have HV10 : Hid (LV w11 (Beh r w11) (readO (z8.2)).1 v) := Lib.hid (hv.imp fun b hb => ⟨by have h1 := hb.1; have h2 := (Array.getElem?_eq_some_iff.1 HR10.out.box).1; omega, hb.2⟩)
  obtain ⟨V10A, v10a, V10B, v10b, rfl, -⟩ := hv.shape
  obtain ⟨z10, hz10⟩ : ∃ z, z = readO (z8.2) := ⟨_, rfl⟩
  rw [← hz10] at HR11 HV10 HF ⊢
  clear hz10 hs ho hv HR10
  go_wp2_with (refine wpList_store_box (by rfl) 25 _ _ rfl rfl r 4 rfl _ #[.int .i64 z10.1.kind, .int .i64 z10.1.num, .string z10.1.text, .slice V10A z10.1.items.length v10a, .slice V10B z10.1.names.length v10b] rfl rfl HR11.out.box ⟨a.1, k.1, ⟨z8.1.toArray⟩, ⟨#[]⟩, z10.1, noneV, [], s.1, n.1⟩ V10A v10a V10B v10b none 0 none 0 none 0 (by simp) (by kernel_rfl) (by simp [Value.oneCell']) (by kernel_rfl) ?_; intro w12 HK12 HO12; have HR12 := Lib.hid (HR11.out.store HK12.out HO12.out.1 HO12.out.2 HV10.out HR11.out.doc HR11.out.dels HR11.out.cap HR11.out.nil HR11.out.len); clear HR11 HK12 HO12; clear HV10)
  refine (r6read_any g BB (z10.2) _ HR12.out.src HBB.out).mono ?_
  rintro q w13 ⟨QA, qc, rfl, hd, hs, ho, hqc, hq0⟩
  have HR13 := Lib.hid (HR12.out.call ho hs)
  have HV12 : Hid (DelsL w13 (Beh r w13) QA (rdDl (z10.2)).1 ∧ (rdDl (z10.2)).1.length ≤ qc ∧ (QA = none → qc = 0) ∧ (rdDl (z10.2)).1.length ≤ 64) := Lib.hid ⟨hd.imp fun b hb => ⟨by have h1 := hb.1; have h2 := (Array.getElem?_eq_some_iff.1 HR12.out.box).1; omega, hb.2⟩, hqc, hq0, rdDl_le _⟩
  obtain ⟨z12, hz12⟩ : ∃ z, z = rdDl (z10.2) := ⟨_, rfl⟩
  rw [← hz12] at HR13 HV12 HF ⊢
  clear hz12 hs ho hd hq0 hqc HR12
  have HNK : Hid (NumOk ⟨a.1, k.1, ⟨z8.1.toArray⟩, ⟨#[]⟩, z10.1, noneV, z12.1, s.1, n.1⟩) := Lib.hid ⟨by have := HNUM.out; unfold Rng; simp only; omega, by have := HNUM.out; unfold Rng; simp only; omega, by have := HNUM.out; unfold Rng; simp only; omega, by have := HNUM.out; unfold Rng; simp only; omega, by have := HT8.out; simp [ByteArray.size]; omega, show (⟨#[]⟩ : ByteArray).size ≤ 140737488351232 by decide⟩
  have HE : Hid (rdE st = pickE ⟨a.1, k.1, ⟨z8.1.toArray⟩, ⟨#[]⟩, z10.1, noneV, z12.1, s.1, n.1⟩ (z12.2)) := Lib.hid (by rw [rdE_pick, HF.out])
  have HSE9 : Hid (SmE ⟨a.1, k.1, ⟨z8.1.toArray⟩, ⟨#[]⟩, z10.1, noneV, z12.1, s.1, n.1⟩) := Lib.hid (by have h := HSM.out; rw [HF.out] at h; exact h)
  obtain ⟨s9, hs9⟩ : ∃ s, s = (z12.2) := ⟨_, rfl⟩
  rw [← hs9] at HE HR13
  clear hs9 HF
  cases s9 with
  | none =>
   go_wp2_with (first | (refine wpList_store_box (by rfl) 26 _ _ rfl rfl r 14 rfl _ #[.slice QA z12.1.length qc] rfl rfl HR13.out.box ⟨a.1, k.1, ⟨z8.1.toArray⟩, ⟨#[]⟩, z10.1, noneV, z12.1, s.1, n.1⟩ V10A v10a V10B v10b none 0 none 0 QA qc (by simp) (by kernel_rfl) (by simp [Value.oneCell']) (by kernel_rfl) ?_; intro w14 HK14 HO14; have HR14 := Lib.hid (HR13.out.store HK14.out HO14.out.1 HO14.out.2 HR13.out.id HR13.out.doc HV12.out.1 HV12.out.2.1 HV12.out.2.2.1 HV12.out.2.2.2); clear HR13 HK14 HO14; clear HV12; have b1 := rs_c1 HR14.out.src; have f1 := rs_f1 HR14.out.src; simp only [Option.isNone_none] at b1) | (have HR91 := Lib.hid HR14.out.spoil; refine wpList_store_zent (by rfl) _ _ rfl rfl w.heap.size rfl rfl HR91.out.zero ?_; intro w92 HK92 HO92))
   refine bodyPost_ret (results_cell_e rfl _ _ w.heap.size _ _ _ rfl HK92.out rfl) rfl ?_
   unfold ReadRR
   rw [HE.out]
   obtain ⟨f1, f2, f3⟩ := HR91.out.fin0 HO92.out
   exact ⟨_, rfl, f1, f2, f3⟩
  | some r9 =>
   go_wp2_with (first | (refine wpList_store_box (by rfl) 26 _ _ rfl rfl r 14 rfl _ #[.slice QA z12.1.length qc] rfl rfl HR13.out.box ⟨a.1, k.1, ⟨z8.1.toArray⟩, ⟨#[]⟩, z10.1, noneV, z12.1, s.1, n.1⟩ V10A v10a V10B v10b none 0 none 0 QA qc (by simp) (by kernel_rfl) (by simp [Value.oneCell']) (by kernel_rfl) ?_; intro w14 HK14 HO14; have HR14 := Lib.hid (HR13.out.store HK14.out HO14.out.1 HO14.out.2 HR13.out.id HR13.out.doc HV12.out.1 HV12.out.2.1 HV12.out.2.2.1 HV12.out.2.2.2); clear HR13 HK14 HO14; clear HV12; have b1 := rs_c1 HR14.out.src; have f1 := rs_f1 HR14.out.src; simp only [Option.isNone_some] at b1) | (refine wpList_load_ent (by rfl) _ rfl r rfl _ _ HR14.out.box rfl ?_; simp only [acR, Act.put]))
   refine (r13may_any (Beh r w14) _ _ w14 (fun b hb => hb.2) (HR14.out.ent HNK.out) HSE9.out).mono ?_
   rintro q w90 ⟨rfl, hb⟩
   have HR90 := Lib.hid (HR14.out.below hb)
   clear hb b1 f1 HR14
   have f1 := rs_f1 HR90.out.src
   have b1 := rs_c1 HR90.out.src
   simp only [Option.isNone_some] at b1
   cases hm : mayE ⟨a.1, k.1, ⟨z8.1.toArray⟩, ⟨#[]⟩, z10.1, noneV, z12.1, s.1, n.1⟩ with
   | false =>
    have HE2 : Hid (rdE st = (emptyE, none)) := Lib.hid (by rw [HE.out]; unfold pickE; rw [hm]; rfl)
    go_wp2_with (have HR91 := Lib.hid HR90.out.spoil; refine wpList_store_zent (by rfl) _ _ rfl rfl w.heap.size rfl rfl HR91.out.zero ?_; intro w92 HK92 HO92)
    refine bodyPost_ret (results_cell_e rfl _ _ w.heap.size _ _ _ rfl HK92.out rfl) rfl ?_
    unfold ReadRR
    rw [HE2.out]
    obtain ⟨f1, f2, f3⟩ := HR91.out.fin0 HO92.out
    exact ⟨_, rfl, f1, f2, f3⟩
   | true =>
    have HE2 : Hid (rdE st = (⟨a.1, k.1, ⟨z8.1.toArray⟩, ⟨#[]⟩, z10.1, noneV, z12.1, s.1, n.1⟩, some r9)) := Lib.hid (by rw [HE.out]; show (if mayE _ = true then _ else _) = _; rw [if_pos hm])
    clear b1 f1
    go_wp2_with (first | (refine wpList_load_ent (by rfl) _ rfl r rfl _ _ HR90.out.box rfl ?_; simp only [acR, Act.put]) | (refine wpList_store_all (by rfl) _ _ rfl rfl w.heap.size rfl ⟨a.1, k.1, ⟨z8.1.toArray⟩, ⟨#[]⟩, z10.1, noneV, z12.1, s.1, n.1⟩ V10A v10a V10B v10b none 0 none 0 QA qc rfl HR90.out.zero ?_; intro w92 HK92 HO92))
    refine bodyPost_ret (results_cell_e rfl _ _ w.heap.size _ _ _ rfl HK92.out rfl) rfl ?_
    unfold ReadRR
    rw [HE2.out]
    obtain ⟨f1, f2, f3⟩ := HR90.out.fin HNK.out HO92.out.1 HO92.out.2
    exact ⟨_, rfl, f1, f2, f3⟩
 ·have HF : Hid (rdE1 st = (⟨a.1, k.1, ⟨(rdText 32 (n.2)).1.toArray⟩, ⟨#[]⟩, (readO ((rdText 32 (n.2)).2)).1, noneV, [], s.1, n.1⟩, (readO ((rdText 32 (n.2)).2)).2)) := Lib.hid (by rw [HDEF.out, c1, c2, c3, c4, c5]; rfl)
  rw [c1, c2, c3, c4, c5]
  clear c1 c2 c3 c4 c5
  go_wp2_with fail
  refine (rstext_any g BB 32 (n.2) _ HR8.out.src HBB.out (by omega)).mono ?_
  rintro q w9 ⟨rfl, hs, ho⟩
  have HR9 := Lib.hid (HR8.out.call ho hs)
  clear hs ho HR8
  obtain ⟨z8, hz8⟩ : ∃ z, z = rdText 32 (n.2) := ⟨_, rfl⟩
  have HT8 : Hid (z8.1.length ≤ 32) := Lib.hid (by rw [hz8]; exact rdText_le 32 _ (by omega))
  rw [← hz8] at HR9 HF ⊢
  clear hz8
  go_wp2_with (refine wpList_store_box (by rfl) 9 _ _ rfl rfl r 2 rfl _ #[.string ⟨z8.1.toArray⟩] rfl rfl HR9.out.box ⟨a.1, k.1, ⟨z8.1.toArray⟩, ⟨#[]⟩, noneV, noneV, [], s.1, n.1⟩ none 0 none 0 none 0 none 0 none 0 (by simp) (by kernel_rfl) (by simp [Value.oneCell']) (by kernel_rfl) ?_; intro w10 HK10 HO10; have HR10 := Lib.hid (HR9.out.store HK10.out HO10.out.1 HO10.out.2 HR9.out.id HR9.out.doc HR9.out.dels HR9.out.cap HR9.out.nil HR9.out.len); clear HR9 HK10 HO10)
  refine (rread_any g BB (z8.2) _ HR10.out.src HBB.out).mono ?_
  rintro q w11 ⟨v, rfl, hs, ho, hv⟩
  have HR11 := Lib.hid (HR10.out.call ho hs)
  have HV10 : Hid (LV w11 (Beh r w11) (readO (z8.2)).1 v) := Lib.hid (hv.imp fun b hb => ⟨by have h1 := hb.1; have h2 := (Array.getElem?_eq_some_iff.1 HR10.out.box).1; omega, hb.2⟩)
  obtain ⟨V10A, v10a, V10B, v10b, rfl, -⟩ := hv.shape
  obtain ⟨z10, hz10⟩ : ∃ z, z = readO (z8.2) := ⟨_, rfl⟩
  rw [← hz10] at HR11 HV10 HF ⊢
  clear hz10 hs ho hv HR10
  have HNK : Hid (NumOk ⟨a.1, k.1, ⟨z8.1.toArray⟩, ⟨#[]⟩, z10.1, noneV, [], s.1, n.1⟩) := Lib.hid ⟨by have := HNUM.out; unfold Rng; simp only; omega, by have := HNUM.out; unfold Rng; simp only; omega, by have := HNUM.out; unfold Rng; simp only; omega, by have := HNUM.out; unfold Rng; simp only; omega, by have := HT8.out; simp [ByteArray.size]; omega, show (⟨#[]⟩ : ByteArray).size ≤ 140737488351232 by decide⟩
  have HE : Hid (rdE st = pickE ⟨a.1, k.1, ⟨z8.1.toArray⟩, ⟨#[]⟩, z10.1, noneV, [], s.1, n.1⟩ (z10.2)) := Lib.hid (by rw [rdE_pick, HF.out])
  have HSE9 : Hid (SmE ⟨a.1, k.1, ⟨z8.1.toArray⟩, ⟨#[]⟩, z10.1, noneV, [], s.1, n.1⟩) := Lib.hid (by have h := HSM.out; rw [HF.out] at h; exact h)
  obtain ⟨s9, hs9⟩ : ∃ s, s = (z10.2) := ⟨_, rfl⟩
  rw [← hs9] at HE HR11
  clear hs9 HF
  cases s9 with
  | none =>
   go_wp2_with (first | (refine wpList_store_box (by rfl) 25 _ _ rfl rfl r 4 rfl _ #[.int .i64 z10.1.kind, .int .i64 z10.1.num, .string z10.1.text, .slice V10A z10.1.items.length v10a, .slice V10B z10.1.names.length v10b] rfl rfl HR11.out.box ⟨a.1, k.1, ⟨z8.1.toArray⟩, ⟨#[]⟩, z10.1, noneV, [], s.1, n.1⟩ V10A v10a V10B v10b none 0 none 0 none 0 (by simp) (by kernel_rfl) (by simp [Value.oneCell']) (by kernel_rfl) ?_; intro w12 HK12 HO12; have HR12 := Lib.hid (HR11.out.store HK12.out HO12.out.1 HO12.out.2 HV10.out HR11.out.doc HR11.out.dels HR11.out.cap HR11.out.nil HR11.out.len); clear HR11 HK12 HO12; clear HV10; have b1 := rs_c1 HR12.out.src; have f1 := rs_f1 HR12.out.src; simp only [Option.isNone_none] at b1) | (have HR91 := Lib.hid HR12.out.spoil; refine wpList_store_zent (by rfl) _ _ rfl rfl w.heap.size rfl rfl HR91.out.zero ?_; intro w92 HK92 HO92))
   refine bodyPost_ret (results_cell_e rfl _ _ w.heap.size _ _ _ rfl HK92.out rfl) rfl ?_
   unfold ReadRR
   rw [HE.out]
   obtain ⟨f1, f2, f3⟩ := HR91.out.fin0 HO92.out
   exact ⟨_, rfl, f1, f2, f3⟩
  | some r9 =>
   go_wp2_with (first | (refine wpList_store_box (by rfl) 25 _ _ rfl rfl r 4 rfl _ #[.int .i64 z10.1.kind, .int .i64 z10.1.num, .string z10.1.text, .slice V10A z10.1.items.length v10a, .slice V10B z10.1.names.length v10b] rfl rfl HR11.out.box ⟨a.1, k.1, ⟨z8.1.toArray⟩, ⟨#[]⟩, z10.1, noneV, [], s.1, n.1⟩ V10A v10a V10B v10b none 0 none 0 none 0 (by simp) (by kernel_rfl) (by simp [Value.oneCell']) (by kernel_rfl) ?_; intro w12 HK12 HO12; have HR12 := Lib.hid (HR11.out.store HK12.out HO12.out.1 HO12.out.2 HV10.out HR11.out.doc HR11.out.dels HR11.out.cap HR11.out.nil HR11.out.len); clear HR11 HK12 HO12; clear HV10; have b1 := rs_c1 HR12.out.src; have f1 := rs_f1 HR12.out.src; simp only [Option.isNone_some] at b1) | (refine wpList_load_ent (by rfl) _ rfl r rfl _ _ HR12.out.box rfl ?_; simp only [acR, Act.put]))
   refine (r13may_any (Beh r w12) _ _ w12 (fun b hb => hb.2) (HR12.out.ent HNK.out) HSE9.out).mono ?_
   rintro q w90 ⟨rfl, hb⟩
   have HR90 := Lib.hid (HR12.out.below hb)
   clear hb b1 f1 HR12
   have f1 := rs_f1 HR90.out.src
   have b1 := rs_c1 HR90.out.src
   simp only [Option.isNone_some] at b1
   cases hm : mayE ⟨a.1, k.1, ⟨z8.1.toArray⟩, ⟨#[]⟩, z10.1, noneV, [], s.1, n.1⟩ with
   | false =>
    have HE2 : Hid (rdE st = (emptyE, none)) := Lib.hid (by rw [HE.out]; unfold pickE; rw [hm]; rfl)
    go_wp2_with (have HR91 := Lib.hid HR90.out.spoil; refine wpList_store_zent (by rfl) _ _ rfl rfl w.heap.size rfl rfl HR91.out.zero ?_; intro w92 HK92 HO92)
    refine bodyPost_ret (results_cell_e rfl _ _ w.heap.size _ _ _ rfl HK92.out rfl) rfl ?_
    unfold ReadRR
    rw [HE2.out]
    obtain ⟨f1, f2, f3⟩ := HR91.out.fin0 HO92.out
    exact ⟨_, rfl, f1, f2, f3⟩
   | true =>
    have HE2 : Hid (rdE st = (⟨a.1, k.1, ⟨z8.1.toArray⟩, ⟨#[]⟩, z10.1, noneV, [], s.1, n.1⟩, some r9)) := Lib.hid (by rw [HE.out]; show (if mayE _ = true then _ else _) = _; rw [if_pos hm])
    clear b1 f1
    go_wp2_with (first | (refine wpList_load_ent (by rfl) _ rfl r rfl _ _ HR90.out.box rfl ?_; simp only [acR, Act.put]) | (refine wpList_store_all (by rfl) _ _ rfl rfl w.heap.size rfl ⟨a.1, k.1, ⟨z8.1.toArray⟩, ⟨#[]⟩, z10.1, noneV, [], s.1, n.1⟩ V10A v10a V10B v10b none 0 none 0 none 0 rfl HR90.out.zero ?_; intro w92 HK92 HO92))
    refine bodyPost_ret (results_cell_e rfl _ _ w.heap.size _ _ _ rfl HK92.out rfl) rfl ?_
    unfold ReadRR
    rw [HE2.out]
    obtain ⟨f1, f2, f3⟩ := HR90.out.fin HNK.out HO92.out.1 HO92.out.2
    exact ⟨_, rfl, f1, f2, f3⟩
 ·have HF : Hid (rdE1 st = (⟨a.1, k.1, ⟨(rdText 32 (n.2)).1.toArray⟩, ⟨#[]⟩, noneV, noneV, [], s.1, n.1⟩, (rdText 32 (n.2)).2)) := Lib.hid (by rw [HDEF.out, c1, c2, c3, c4, c5]; rfl)
  rw [c1, c2, c3, c4, c5]
  clear c1 c2 c3 c4 c5
  go_wp2_with fail
  refine (rstext_any g BB 32 (n.2) _ HR8.out.src HBB.out (by omega)).mono ?_
  rintro q w9 ⟨rfl, hs, ho⟩
  have HR9 := Lib.hid (HR8.out.call ho hs)
  clear hs ho HR8
  obtain ⟨z8, hz8⟩ : ∃ z, z = rdText 32 (n.2) := ⟨_, rfl⟩
  have HT8 : Hid (z8.1.length ≤ 32) := Lib.hid (by rw [hz8]; exact rdText_le 32 _ (by omega))
  rw [← hz8] at HR9 HF ⊢
  clear hz8
  have HNK : Hid (NumOk ⟨a.1, k.1, ⟨z8.1.toArray⟩, ⟨#[]⟩, noneV, noneV, [], s.1, n.1⟩) := Lib.hid ⟨by have := HNUM.out; unfold Rng; simp only; omega, by have := HNUM.out; unfold Rng; simp only; omega, by have := HNUM.out; unfold Rng; simp only; omega, by have := HNUM.out; unfold Rng; simp only; omega, by have := HT8.out; simp [ByteArray.size]; omega, show (⟨#[]⟩ : ByteArray).size ≤ 140737488351232 by decide⟩
  have HE : Hid (rdE st = pickE ⟨a.1, k.1, ⟨z8.1.toArray⟩, ⟨#[]⟩, noneV, noneV, [], s.1, n.1⟩ (z8.2)) := Lib.hid (by rw [rdE_pick, HF.out])
  have HSE9 : Hid (SmE ⟨a.1, k.1, ⟨z8.1.toArray⟩, ⟨#[]⟩, noneV, noneV, [], s.1, n.1⟩) := Lib.hid (by have h := HSM.out; rw [HF.out] at h; exact h)
  obtain ⟨s9, hs9⟩ : ∃ s, s = (z8.2) := ⟨_, rfl⟩
  rw [← hs9] at HE HR9
  clear hs9 HF
  cases s9 with
  | none =>
   go_wp2_with (first | (refine wpList_store_box (by rfl) 9 _ _ rfl rfl r 2 rfl _ #[.string ⟨z8.1.toArray⟩] rfl rfl HR9.out.box ⟨a.1, k.1, ⟨z8.1.toArray⟩, ⟨#[]⟩, noneV, noneV, [], s.1, n.1⟩ none 0 none 0 none 0 none 0 none 0 (by simp) (by kernel_rfl) (by simp [Value.oneCell']) (by kernel_rfl) ?_; intro w10 HK10 HO10; have HR10 := Lib.hid (HR9.out.store HK10.out HO10.out.1 HO10.out.2 HR9.out.id HR9.out.doc HR9.out.dels HR9.out.cap HR9.out.nil HR9.out.len); clear HR9 HK10 HO10; have b1 := rs_c1 HR10.out.src; have f1 := rs_f1 HR10.out.src; simp only [Option.isNone_none] at b1) | (have HR91 := Lib.hid HR10.out.spoil; refine wpList_store_zent (by rfl) _ _ rfl rfl w.heap.size rfl rfl HR91.out.zero ?_; intro w92 HK92 HO92))
   refine bodyPost_ret (results_cell_e rfl _ _ w.heap.size _ _ _ rfl HK92.out rfl) rfl ?_
   unfold ReadRR
   rw [HE.out]
   obtain ⟨f1, f2, f3⟩ := HR91.out.fin0 HO92.out
   exact ⟨_, rfl, f1, f2, f3⟩
  | some r9 =>
   go_wp2_with (first | (refine wpList_store_box (by rfl) 9 _ _ rfl rfl r 2 rfl _ #[.string ⟨z8.1.toArray⟩] rfl rfl HR9.out.box ⟨a.1, k.1, ⟨z8.1.toArray⟩, ⟨#[]⟩, noneV, noneV, [], s.1, n.1⟩ none 0 none 0 none 0 none 0 none 0 (by simp) (by kernel_rfl) (by simp [Value.oneCell']) (by kernel_rfl) ?_; intro w10 HK10 HO10; have HR10 := Lib.hid (HR9.out.store HK10.out HO10.out.1 HO10.out.2 HR9.out.id HR9.out.doc HR9.out.dels HR9.out.cap HR9.out.nil HR9.out.len); clear HR9 HK10 HO10; have b1 := rs_c1 HR10.out.src; have f1 := rs_f1 HR10.out.src; simp only [Option.isNone_some] at b1) | (refine wpList_load_ent (by rfl) _ rfl r rfl _ _ HR10.out.box rfl ?_; simp only [acR, Act.put]))
   refine (r13may_any (Beh r w10) _ _ w10 (fun b hb => hb.2) (HR10.out.ent HNK.out) HSE9.out).mono ?_
   rintro q w90 ⟨rfl, hb⟩
   have HR90 := Lib.hid (HR10.out.below hb)
   clear hb b1 f1 HR10
   have f1 := rs_f1 HR90.out.src
   have b1 := rs_c1 HR90.out.src
   simp only [Option.isNone_some] at b1
   cases hm : mayE ⟨a.1, k.1, ⟨z8.1.toArray⟩, ⟨#[]⟩, noneV, noneV, [], s.1, n.1⟩ with
   | false =>
    have HE2 : Hid (rdE st = (emptyE, none)) := Lib.hid (by rw [HE.out]; unfold pickE; rw [hm]; rfl)
    go_wp2_with (have HR91 := Lib.hid HR90.out.spoil; refine wpList_store_zent (by rfl) _ _ rfl rfl w.heap.size rfl rfl HR91.out.zero ?_; intro w92 HK92 HO92)
    refine bodyPost_ret (results_cell_e rfl _ _ w.heap.size _ _ _ rfl HK92.out rfl) rfl ?_
    unfold ReadRR
    rw [HE2.out]
    obtain ⟨f1, f2, f3⟩ := HR91.out.fin0 HO92.out
    exact ⟨_, rfl, f1, f2, f3⟩
   | true =>
    have HE2 : Hid (rdE st = (⟨a.1, k.1, ⟨z8.1.toArray⟩, ⟨#[]⟩, noneV, noneV, [], s.1, n.1⟩, some r9)) := Lib.hid (by rw [HE.out]; show (if mayE _ = true then _ else _) = _; rw [if_pos hm])
    clear b1 f1
    go_wp2_with (first | (refine wpList_load_ent (by rfl) _ rfl r rfl _ _ HR90.out.box rfl ?_; simp only [acR, Act.put]) | (refine wpList_store_all (by rfl) _ _ rfl rfl w.heap.size rfl ⟨a.1, k.1, ⟨z8.1.toArray⟩, ⟨#[]⟩, noneV, noneV, [], s.1, n.1⟩ none 0 none 0 none 0 none 0 none 0 rfl HR90.out.zero ?_; intro w92 HK92 HO92))
    refine bodyPost_ret (results_cell_e rfl _ _ w.heap.size _ _ _ rfl HK92.out rfl) rfl ?_
    unfold ReadRR
    rw [HE2.out]
    obtain ⟨f1, f2, f3⟩ := HR90.out.fin HNK.out HO92.out.1 HO92.out.2
    exact ⟨_, rfl, f1, f2, f3⟩
 ·have HF : Hid (rdE1 st = (⟨a.1, k.1, ⟨(rdText 32 (n.2)).1.toArray⟩, ⟨(rdText 32 ((rdText 32 (n.2)).2)).1.toArray⟩, noneV, noneV, [], s.1, n.1⟩, (rdText 32 ((rdText 32 (n.2)).2)).2)) := Lib.hid (by rw [HDEF.out, c1, c2, c3, c4, c5]; rfl)
  rw [c1, c2, c3, c4, c5]
  clear c1 c2 c3 c4 c5
  go_wp2_with fail
  refine (rstext_any g BB 32 (n.2) _ HR8.out.src HBB.out (by omega)).mono ?_
  rintro q w9 ⟨rfl, hs, ho⟩
  have HR9 := Lib.hid (HR8.out.call ho hs)
  clear hs ho HR8
  obtain ⟨z8, hz8⟩ : ∃ z, z = rdText 32 (n.2) := ⟨_, rfl⟩
  have HT8 : Hid (z8.1.length ≤ 32) := Lib.hid (by rw [hz8]; exact rdText_le 32 _ (by omega))
  rw [← hz8] at HR9 HF ⊢
  clear hz8
  go_wp2_with (refine wpList_store_box (by rfl) 9 _ _ rfl rfl r 2 rfl _ #[.string ⟨z8.1.toArray⟩] rfl rfl HR9.out.box ⟨a.1, k.1, ⟨z8.1.toArray⟩, ⟨#[]⟩, noneV, noneV, [], s.1, n.1⟩ none 0 none 0 none 0 none 0 none 0 (by simp) (by kernel_rfl) (by simp [Value.oneCell']) (by kernel_rfl) ?_; intro w10 HK10 HO10; have HR10 := Lib.hid (HR9.out.store HK10.out HO10.out.1 HO10.out.2 HR9.out.id HR9.out.doc HR9.out.dels HR9.out.cap HR9.out.nil HR9.out.len); clear HR9 HK10 HO10)
  refine (rstext_any g BB 32 (z8.2) _ HR10.out.src HBB.out (by omega)).mono ?_
  rintro q w11 ⟨rfl, hs, ho⟩
  have HR11 := Lib.hid (HR10.out.call ho hs)
  clear hs ho HR10
  obtain ⟨z10, hz10⟩ : ∃ z, z = rdText 32 (z8.2) := ⟨_, rfl⟩
  have HT10 : Hid (z10.1.length ≤ 32) := Lib.hid (by rw [hz10]; exact rdText_le 32 _ (by omega))
  rw [← hz10] at HR11 HF ⊢
  clear hz10
  have HNK : Hid (NumOk ⟨a.1, k.1, ⟨z8.1.toArray⟩, ⟨z10.1.toArray⟩, noneV, noneV, [], s.1, n.1⟩) := Lib.hid ⟨by have := HNUM.out; unfold Rng; simp only; omega, by have := HNUM.out; unfold Rng; simp only; omega, by have := HNUM.out; unfold Rng; simp only; omega, by have := HNUM.out; unfold Rng; simp only; omega, by have := HT8.out; simp [ByteArray.size]; omega, by have := HT10.out; simp [ByteArray.size]; omega⟩
  have HE : Hid (rdE st = pickE ⟨a.1, k.1, ⟨z8.1.toArray⟩, ⟨z10.1.toArray⟩, noneV, noneV, [], s.1, n.1⟩ (z10.2)) := Lib.hid (by rw [rdE_pick, HF.out])
  have HSE9 : Hid (SmE ⟨a.1, k.1, ⟨z8.1.toArray⟩, ⟨z10.1.toArray⟩, noneV, noneV, [], s.1, n.1⟩) := Lib.hid (by have h := HSM.out; rw [HF.out] at h; exact h)
  obtain ⟨s9, hs9⟩ : ∃ s, s = (z10.2) := ⟨_, rfl⟩
  rw [← hs9] at HE HR11
  clear hs9 HF
  cases s9 with
  | none =>
   go_wp2_with (first | (refine wpList_store_box (by rfl) 9 _ _ rfl rfl r 3 rfl _ #[.string ⟨z10.1.toArray⟩] rfl rfl HR11.out.box ⟨a.1, k.1, ⟨z8.1.toArray⟩, ⟨z10.1.toArray⟩, noneV, noneV, [], s.1, n.1⟩ none 0 none 0 none 0 none 0 none 0 (by simp) (by kernel_rfl) (by simp [Value.oneCell']) (by kernel_rfl) ?_; intro w12 HK12 HO12; have HR12 := Lib.hid (HR11.out.store HK12.out HO12.out.1 HO12.out.2 HR11.out.id HR11.out.doc HR11.out.dels HR11.out.cap HR11.out.nil HR11.out.len); clear HR11 HK12 HO12; have b1 := rs_c1 HR12.out.src; have f1 := rs_f1 HR12.out.src; simp only [Option.isNone_none] at b1) | (have HR91 := Lib.hid HR12.out.spoil; refine wpList_store_zent (by rfl) _ _ rfl rfl w.heap.size rfl rfl HR91.out.zero ?_; intro w92 HK92 HO92))
   refine bodyPost_ret (results_cell_e rfl _ _ w.heap.size _ _ _ rfl HK92.out rfl) rfl ?_
   unfold ReadRR
   rw [HE.out]
   obtain ⟨f1, f2, f3⟩ := HR91.out.fin0 HO92.out
   exact ⟨_, rfl, f1, f2, f3⟩
  | some r9 =>
   go_wp2_with (first | (refine wpList_store_box (by rfl) 9 _ _ rfl rfl r 3 rfl _ #[.string ⟨z10.1.toArray⟩] rfl rfl HR11.out.box ⟨a.1, k.1, ⟨z8.1.toArray⟩, ⟨z10.1.toArray⟩, noneV, noneV, [], s.1, n.1⟩ none 0 none 0 none 0 none 0 none 0 (by simp) (by kernel_rfl) (by simp [Value.oneCell']) (by kernel_rfl) ?_; intro w12 HK12 HO12; have HR12 := Lib.hid (HR11.out.store HK12.out HO12.out.1 HO12.out.2 HR11.out.id HR11.out.doc HR11.out.dels HR11.out.cap HR11.out.nil HR11.out.len); clear HR11 HK12 HO12; have b1 := rs_c1 HR12.out.src; have f1 := rs_f1 HR12.out.src; simp only [Option.isNone_some] at b1) | (refine wpList_load_ent (by rfl) _ rfl r rfl _ _ HR12.out.box rfl ?_; simp only [acR, Act.put]))
   refine (r13may_any (Beh r w12) _ _ w12 (fun b hb => hb.2) (HR12.out.ent HNK.out) HSE9.out).mono ?_
   rintro q w90 ⟨rfl, hb⟩
   have HR90 := Lib.hid (HR12.out.below hb)
   clear hb b1 f1 HR12
   have f1 := rs_f1 HR90.out.src
   have b1 := rs_c1 HR90.out.src
   simp only [Option.isNone_some] at b1
   cases hm : mayE ⟨a.1, k.1, ⟨z8.1.toArray⟩, ⟨z10.1.toArray⟩, noneV, noneV, [], s.1, n.1⟩ with
   | false =>
    have HE2 : Hid (rdE st = (emptyE, none)) := Lib.hid (by rw [HE.out]; unfold pickE; rw [hm]; rfl)
    go_wp2_with (have HR91 := Lib.hid HR90.out.spoil; refine wpList_store_zent (by rfl) _ _ rfl rfl w.heap.size rfl rfl HR91.out.zero ?_; intro w92 HK92 HO92)
    refine bodyPost_ret (results_cell_e rfl _ _ w.heap.size _ _ _ rfl HK92.out rfl) rfl ?_
    unfold ReadRR
    rw [HE2.out]
    obtain ⟨f1, f2, f3⟩ := HR91.out.fin0 HO92.out
    exact ⟨_, rfl, f1, f2, f3⟩
   | true =>
    have HE2 : Hid (rdE st = (⟨a.1, k.1, ⟨z8.1.toArray⟩, ⟨z10.1.toArray⟩, noneV, noneV, [], s.1, n.1⟩, some r9)) := Lib.hid (by rw [HE.out]; show (if mayE _ = true then _ else _) = _; rw [if_pos hm])
    clear b1 f1
    go_wp2_with (first | (refine wpList_load_ent (by rfl) _ rfl r rfl _ _ HR90.out.box rfl ?_; simp only [acR, Act.put]) | (refine wpList_store_all (by rfl) _ _ rfl rfl w.heap.size rfl ⟨a.1, k.1, ⟨z8.1.toArray⟩, ⟨z10.1.toArray⟩, noneV, noneV, [], s.1, n.1⟩ none 0 none 0 none 0 none 0 none 0 rfl HR90.out.zero ?_; intro w92 HK92 HO92))
    refine bodyPost_ret (results_cell_e rfl _ _ w.heap.size _ _ _ rfl HK92.out rfl) rfl ?_
    unfold ReadRR
    rw [HE2.out]
    obtain ⟨f1, f2, f3⟩ := HR90.out.fin HNK.out HO92.out.1 HO92.out.2
    exact ⟨_, rfl, f1, f2, f3⟩
theorem addr_addY (b off i : Nat) : ((⟨b, off, none⟩ : Addr).add i) = ⟨b, off + i, none⟩ := by
 unfold Addr.add
 split
 ·next h => simp [h]
 ·rfl
theorem OwnB.rdY {w : World} {B : Nat} {v : Value} {l : List UInt8} (h : OwnB w B v l) : Rd w w.heap.size v l := by
 have hc := fun g hg => World.ownsRow.cells (g := g) h hg
 have hlt := World.ownsRow.lt h
 rcases h.2 with ⟨rfl, h0⟩ | ⟨g, cap, cur, rfl, hB, hh, hcap, hm, -⟩
 ·have hl : l = [] := List.eq_nil_of_length_eq_zero h0
  subst hl
  exact ⟨none, 0, rfl, Nat.le_refl _, ⟨by omega, fun _ => rfl⟩, fun h => absurd h (by simp)⟩
 ·refine ⟨some ⟨g, 0, none⟩, cap, rfl, hcap, ⟨by unfold maxLen at hm; omega, fun h => by cases h⟩, fun hp => ⟨g, 0, rfl, (hlt g rfl).2, fun i hi => ?_⟩⟩
  have h1 := hc g rfl i (.int .u8 (l[i].toNat : Int)) (by simp [bcells, hi])
  rw [addr_addY] at h1
  exact h1
theorem Rd.strY {w : World} {B : Nat} {v : Value} {l : List UInt8} (h : Rd w B v l) : (convert 35 9 v).run Tryz.prog w = .ok (.string ⟨l.toArray⟩) w := by
 obtain ⟨A, cap, hv, -⟩ := id h
 rw [hv] at h ⊢
 have := h.conv (Nat.le_refl _) cap
 rw [List.take_length] at this
 exact this
open Lib (hid)
theorem ba_toList (l : List UInt8) : (⟨l.toArray⟩ : ByteArray).toList = l := by rw [ByteArray.toList_eq]
theorem ba_beq (l m : List UInt8) : ((⟨l.toArray⟩ : ByteArray).toList == (⟨m.toArray⟩ : ByteArray).toList) = decide (l = m) := by
 rw [ba_toList, ba_toList]
 by_cases h : l = m
 ·subst h; simp
 ·rw [decide_eq_false h]
  exact beq_eq_false_iff_ne.2 h
set_option maxHeartbeats 4000000 in
theorem byequal_any (B B' : Nat) (vx vy : Value) (l m : List UInt8) (w : World) (hx : Rd w B vx l) (hy : Rd w B' vy m) : Calls Tryz.prog 71 #[vx, vy] w fun e w' => e = .returned (.bool (decide (l = m))) ∧ w = w' := by
 have hx1 := hx.strY
 have hy1 := hy.strY
 have he := ba_beq l m
 have HE := hid he
 obtain ⟨x, hx2⟩ : ∃ x : ByteArray, x = ⟨l.toArray⟩ := ⟨_, rfl⟩
 obtain ⟨y, hy2⟩ : ∃ y : ByteArray, y = ⟨m.toArray⟩ := ⟨_, rfl⟩
 rw [← hx2] at hx1 HE
 rw [← hy2] at hy1 HE
 clear hx hy hx2 hy2 he
 go_enter Tryz.func71, Tryz.ntmps71
 go_wp2_with fail
 go_ret
 have e := HE.out
 refine ⟨?_, rfl⟩
 rw [← e]
 rfl
def encE (e : EntT) : List UInt8 := if mayE e = true then codeE e else []
def errE (e : EntT) : Int := if mayE e = true then 0 else 1
def EncR (e : EntT) (w : World) (q : Ending) (w' : World) : Prop := ∃ v, q = .returned (.tuple #[v, .int .i64 (errE e)]) ∧ OwnB w' w.heap.size v (encE e) ∧ Below w.heap.size w w'
set_option maxHeartbeats 8000000 in
theorem eencode_any (S : Nat → Prop) (e : EntT) (cs : Array Value) (w : World) (hS : ∀ b, S b → b < w.heap.size) (h : EntL w S e cs) (hd : SmE e) :
  Calls Tryz.prog 20 #[.agg cs] w (EncR e w) := by
 obtain ⟨IA, ic, IA', ic', DA, dc, DA', dc', LA, lc, rfl, hat⟩ := h.at
 obtain ⟨w1, hw1⟩ : ∃ W, W = w.alloc (.cells #[.int .i64 e.term, .int .i64 e.kind, .string e.coll, .string e.to, .int .i64 e.id.kind, .int .i64 e.id.num, .string e.id.text, .slice IA e.id.items.length ic, .slice IA' e.id.names.length ic', .int .i64 e.doc.kind, .int .i64 e.doc.num, .string e.doc.text, .slice DA e.doc.items.length dc, .slice DA' e.doc.names.length dc', .slice LA e.dels.length lc, .int .i64 e.session, .int .i64 e.number] 28) := ⟨_, rfl⟩
 have hbk : EBox w1 w.heap.size e IA ic IA' ic' DA dc DA' dc' LA lc := by rw [hw1]; exact heap_alloc_new w _
 have hb1 : Below w.heap.size w w1 := by rw [hw1]; exact below_box _
 have HB1 := hid hb1
 have HK1 := hid hbk
 have HM := hid (emay_any S e _ w1 (fun b hb => Nat.lt_of_lt_of_le (hS b hb) hb1.size) (hat.below hS hb1).l hd)
 have HP := hid (fun (w2 : World) (hm : mayE e = true) (hb : Below w.heap.size w w2) => eput_any S e #[.int .i64 e.term, .int .i64 e.kind, .string e.coll, .string e.to, .int .i64 e.id.kind, .int .i64 e.id.num, .string e.id.text, .slice IA e.id.items.length ic, .slice IA' e.id.names.length ic', .int .i64 e.doc.kind, .int .i64 e.doc.num, .string e.doc.text, .slice DA e.doc.items.length dc, .slice DA' e.doc.names.length dc', .slice LA e.dels.length lc, .int .i64 e.session, .int .i64 e.number] w2 (fun b hb' => Nat.lt_of_lt_of_le (hS b hb') hb.size) (hat.below hS hb).l hd hm)
 clear hb1 hbk hS h hat
 go_enter Tryz.func20, Tryz.ntmps20
 go_wp2_with fail
 rw [← hw1]
 clear hw1
 go_wp2_with (refine wpList_load_ent (by rfl) _ rfl w.heap.size rfl _ _ HK1.out rfl ?_; simp only [acR, Act.put])
 refine HM.out.mono ?_
 rintro q w2 ⟨rfl, hb⟩
 have HK2 := hid (HK1.out.below hb)
 have HB2 := hid (HB1.out.trans (hb.mono HB1.out.size))
 clear HM hb HB1 HK1
 cases hm : mayE e with
 | false =>
  have HF : Hid (encE e = [] ∧ errE e = 1) := hid ⟨by unfold encE; rw [hm]; rfl, by unfold errE; rw [hm]; rfl⟩
  clear hm
  go_wp2_with fail
  go_ret2
  exact ⟨_, by rw [HF.out.2]; rfl, by rw [HF.out.1]; exact World.ownsRow_nil _ _ _ _, HB2.out⟩
 | true =>
  have HF : Hid (encE e = codeE e ∧ errE e = 0) := hid ⟨by unfold encE; rw [if_pos hm], by unfold errE; rw [if_pos hm]⟩
  have HP2 := hid (HP.out w2 hm HB2.out)
  clear hm HP
  go_wp2_with (refine wpList_load_ent (by rfl) _ rfl w.heap.size rfl _ _ HK2.out rfl ?_; simp only [acR, Act.put])
  refine HP2.out.mono ?_
  rintro q w3 ⟨v, rfl, ho, hb⟩
  have HO := hid ho
  have HB3 := hid (HB2.out.trans (hb.mono HB2.out.size))
  have HZ := hid HB2.out.size
  clear ho hb
  go_wp2_with fail
  go_ret2
  exact ⟨_, by rw [HF.out.2]; rfl, by rw [HF.out.1]; exact HO.out.base HZ.out, HB3.out⟩
end Go.Proofs.YtpcdngpppjdgcaaGreat
