/- What comes next in a source as an entry, by the program. (Written by mkenr.py.) -/
import Derived.Test.YtpcdngpppjdgcaaGreatKEnT
import Derived.Test.YtpcdngpppjdgcaaGreatKEnO
import Derived.Test.YtpcdngpppjdgcaaGreatKDlU
import Derived.Test.YtpcdngpppjdgcaaGreatKCodS
namespace Go.Proofs.YtpcdngpppjdgcaaGreat
set_option linter.unusedVariables false
set_option linter.unusedSimpArgs false
open Go.RowKit
set_option maxRecDepth 100000
def Beh (r : Nat) (W : World) : Nat → Prop := fun b => r < b ∧ b < W.heap.size
structure RdSt (w0 W : World) (g r : Nat) (e : EntT) (IA : Option Addr) (ic : Nat) (IA' : Option Addr) (ic' : Nat) (DA : Option Addr) (dc : Nat) (DA' : Option Addr) (dc' : Nat) (LA : Option Addr) (lc : Nat) (st : Option (List UInt8)) : Prop where
 box : EBox W r e IA ic IA' ic' DA dc DA' dc' LA lc
 zero : W.heap[w0.heap.size]? = some (.cells #[.int .i64 0, .int .i64 0, .string ⟨#[]⟩, .string ⟨#[]⟩, .int .i64 0, .int .i64 0, .string ⟨#[]⟩, .slice none 0 0, .slice none 0 0, .int .i64 0, .int .i64 0, .string ⟨#[]⟩, .slice none 0 0, .slice none 0 0, .slice none 0 0, .int .i64 0, .int .i64 0] 28 (0, 0))
 src : SrcL W g st
 only : Only w0 W g
 pr : w0.heap.size < r
 gl : g < w0.heap.size
 id : LV W (Beh r W) e.id (.agg #[.int .i64 e.id.kind, .int .i64 e.id.num, .string e.id.text, .slice IA e.id.items.length ic, .slice IA' e.id.names.length ic'])
 doc : LV W (Beh r W) e.doc (.agg #[.int .i64 e.doc.kind, .int .i64 e.doc.num, .string e.doc.text, .slice DA e.doc.items.length dc, .slice DA' e.doc.names.length dc'])
 dels : DelsL W (Beh r W) LA e.dels
 cap : e.dels.length ≤ lc
 nil : LA = none → lc = 0
 len : e.dels.length ≤ 64
section
variable {w0 W W' : World} {g r : Nat} {e e' : EntT} {IA : Option Addr} {ic : Nat} {IA' : Option Addr} {ic' : Nat} {DA : Option Addr} {dc : Nat} {DA' : Option Addr} {dc' : Nat} {LA : Option Addr} {lc : Nat} {st st' : Option (List UInt8)}
theorem RdSt.call (h : RdSt w0 W g r e IA ic IA' ic' DA dc DA' dc' LA lc st) (ho : Only W W' g) (hs : SrcL W' g st') : RdSt w0 W' g r e IA ic IA' ic' DA dc DA' dc' LA lc st' := by
 have hpr := h.pr
 have hgl := h.gl
 have hk : ∀ b, Beh r W b → W'.heap[b]? = W.heap[b]? := only_keep ho fun b hb => ⟨hb.2, by have := hb.1; omega⟩
 have hi : ∀ b, Beh r W b → Beh r W' b := fun b hb => ⟨hb.1, Nat.lt_of_lt_of_le hb.2 ho.size⟩
 exact ⟨only_at ho h.box (by omega), only_at ho h.zero (by omega), hs, h.only.trans ho, hpr, hgl, (h.id.keep hk).imp hi, (h.doc.keep hk).imp hi, (h.dels.keep hk).imp hi, h.cap, h.nil, h.len⟩
theorem RdSt.store (h : RdSt w0 W g r e IA ic IA' ic' DA dc DA' dc' LA lc st) {JA : Option Addr} {jc : Nat} {JA' : Option Addr} {jc' : Nat} {EA : Option Addr} {ec : Nat} {EA' : Option Addr} {ec' : Nat} {MA : Option Addr} {mc : Nat}
  (hb : EBox W' r e' JA jc JA' jc' EA ec EA' ec' MA mc) (ho : Only W W' r) (hz : W'.heap.size = W.heap.size)
  (hid : LV W (Beh r W) e'.id (.agg #[.int .i64 e'.id.kind, .int .i64 e'.id.num, .string e'.id.text, .slice JA e'.id.items.length jc, .slice JA' e'.id.names.length jc'])) (hdoc : LV W (Beh r W) e'.doc (.agg #[.int .i64 e'.doc.kind, .int .i64 e'.doc.num, .string e'.doc.text, .slice EA e'.doc.items.length ec, .slice EA' e'.doc.names.length ec']))
  (hd : DelsL W (Beh r W) MA e'.dels) (hc : e'.dels.length ≤ mc) (hn : MA = none → mc = 0) (hl : e'.dels.length ≤ 64) : RdSt w0 W' g r e' JA jc JA' jc' EA ec EA' ec' MA mc st := by
 have hpr := h.pr
 have hgl := h.gl
 have hk : ∀ b, Beh r W b → W'.heap[b]? = W.heap[b]? := only_keep ho fun b hb => ⟨hb.2, by have := hb.1; omega⟩
 have hi : ∀ b, Beh r W b → Beh r W' b := fun b hb => ⟨hb.1, by rw [hz]; exact hb.2⟩
 have hsz := h.only.size
 exact ⟨hb, only_at ho h.zero (by omega), h.src.of (ho.block g (by omega) (by intro e; injection e; omega)), ⟨ho.os.trans h.only.os, ho.tape.trans h.only.tape, ho.output.trans h.only.output, by rw [hz]; exact hsz, fun b hb hne => (ho.block b (by omega) (by intro e; injection e; omega)).trans (h.only.block b hb hne)⟩, hpr, hgl, (hid.keep hk).imp hi, (hdoc.keep hk).imp hi, (hd.keep hk).imp hi, hc, hn, hl⟩
theorem RdSt.fin (h : RdSt w0 W g r e IA ic IA' ic' DA dc DA' dc' LA lc st) (ho : Only W W' w0.heap.size) (hz : W'.heap.size = W.heap.size) (hrt : Rng e.term) (hrk : Rng e.kind) (hrs : Rng e.session) (hrn : Rng e.number) (hcz : e.coll.size ≤ 140737488351232) (htz : e.to.size ≤ 140737488351232) :
  EntL W' (NewB w0.heap.size W') e #[.int .i64 e.term, .int .i64 e.kind, .string e.coll, .string e.to, .int .i64 e.id.kind, .int .i64 e.id.num, .string e.id.text, .slice IA e.id.items.length ic, .slice IA' e.id.names.length ic', .int .i64 e.doc.kind, .int .i64 e.doc.num, .string e.doc.text, .slice DA e.doc.items.length dc, .slice DA' e.doc.names.length dc', .slice LA e.dels.length lc, .int .i64 e.session, .int .i64 e.number] ∧ SrcL W' g st ∧ Only w0 W' g := by
 have hpr := h.pr
 have hgl := h.gl
 have hsz := h.only.size
 have hk : ∀ b, Beh r W b → W'.heap[b]? = W.heap[b]? := only_keep ho fun b hb => ⟨hb.2, by have := hb.1; omega⟩
 have hi : ∀ b, Beh r W b → NewB w0.heap.size W' b := fun b hb => ⟨by have := hb.1; omega, by rw [hz]; exact hb.2⟩
 exact ⟨⟨IA, ic, IA', ic', DA, dc, DA', dc', LA, lc, rfl, (h.id.keep hk).imp hi, (h.doc.keep hk).imp hi, (h.dels.keep hk).imp hi, h.cap, h.nil, by have := h.len; omega, hrt, hrk, hrs, hrn, hcz, htz⟩,
  h.src.of (ho.block g (by omega) (by intro e; injection e; omega)), ⟨ho.os.trans h.only.os, ho.tape.trans h.only.tape, ho.output.trans h.only.output, by rw [hz]; exact hsz, fun b hb hne => (ho.block b (by omega) (by intro e; injection e; omega)).trans (h.only.block b hb hne)⟩⟩
end
theorem heap_alloc_size' (w : World) (ob : Obj) : (w.alloc ob).heap.size = w.heap.size + 1 := by simp
theorem rdByte_le (st : Option (List UInt8)) : (rdByte st).1 ≤ 255 := by
 rcases st with _ | _ | ⟨b, r⟩
 ·show 0 ≤ 255; omega
 ·show 0 ≤ 255; omega
 ·show b.toNat ≤ 255
  have := b.toNat_lt; omega
theorem rdDl_le (st : Option (List UInt8)) : (rdDl st).1.length ≤ 64 := by
 unfold rdDl
 split
 ·simp
 ·split
  ·rw [rdDK_len]; exact rdCount_le 64 st (by omega)
  ·simp
theorem nil_dels (w : World) (S : Nat → Prop) : DelsL w S none [] := fun h => absurd h (by simp)
set_option maxHeartbeats 32000000 in
theorem eread1_any (g : Nat) (st : Option (List UInt8)) (w : World) (hs : SrcL w g st) : Calls Tryz.prog 64 #[.pointer (some ⟨g, 0, none⟩)] w fun q w' => ∃ cs, q = .returned (.agg cs) ∧ EntL w' (NewB w.heap.size w') (rdE1 st).1 cs ∧ SrcL w' g (rdE1 st).2 ∧ Only w w' g := by
 obtain ⟨w0, hw0⟩ : ∃ W, W = w.alloc (.cells #[.int .i64 0, .int .i64 0, .string ⟨#[]⟩, .string ⟨#[]⟩, .int .i64 0, .int .i64 0, .string ⟨#[]⟩, .slice none 0 0, .slice none 0 0, .int .i64 0, .int .i64 0, .string ⟨#[]⟩, .slice none 0 0, .slice none 0 0, .slice none 0 0, .int .i64 0, .int .i64 0] 28) := ⟨_, rfl⟩
 have hz0 : w0.heap[w.heap.size]? = some (.cells #[.int .i64 0, .int .i64 0, .string ⟨#[]⟩, .string ⟨#[]⟩, .int .i64 0, .int .i64 0, .string ⟨#[]⟩, .slice none 0 0, .slice none 0 0, .int .i64 0, .int .i64 0, .string ⟨#[]⟩, .slice none 0 0, .slice none 0 0, .slice none 0 0, .int .i64 0, .int .i64 0] 28 (0, 0)) := by rw [hw0]; exact heap_alloc_new w _
 have hs0 : SrcL w0 g st := by rw [hw0]; exact hs.alloc _
 have ho0 : Only w w0 g := by rw [hw0]; exact (Only.refl w g).alloc _
 have hsz0 : w0.heap.size = w.heap.size + 1 := by rw [hw0]; simp
 obtain ⟨a, ha⟩ : ∃ a, a = rdCount 1099511627776 st := ⟨_, rfl⟩
 obtain ⟨k, hk⟩ : ∃ k, k = rdByte a.2 := ⟨_, rfl⟩
 obtain ⟨s, hse⟩ : ∃ s, s = rdCount 255 k.2 := ⟨_, rfl⟩
 obtain ⟨n, hn⟩ : ∃ n, n = rdCount 1099511627776 s.2 := ⟨_, rfl⟩
 have HDEF : Hid (rdE1 st = (let c := optR (hasColl k.1) ⟨#[]⟩ (rdTextB 32) n.2
   let t := optR (hasTo k.1) ⟨#[]⟩ (rdTextB 32) c.2
   let i := optR (hasId k.1) noneV readO t.2
   let d := optR (hasDoc k.1) noneV readO i.2
   let l := optR (hasDels k.1) [] rdDl d.2
   (⟨a.1, k.1, c.1, t.1, i.1, d.1, l.1, s.1, n.1⟩, l.2))) := Lib.hid (by rw [hn, hse, hk, ha]; rfl)
 have HNUM : Hid (a.1 ≤ 1099511627776 ∧ k.1 ≤ 255 ∧ s.1 ≤ 255 ∧ n.1 ≤ 1099511627776) := Lib.hid ⟨by rw [ha]; exact rdCount_le 1099511627776 st (by omega), by rw [hk]; exact rdByte_le _, by rw [hse]; exact rdCount_le 255 _ (by omega), by rw [hn]; exact rdCount_le 1099511627776 _ (by omega)⟩
 have HC := Lib.hid (scount_any g st 1099511627776 w0 hs0 (by omega))
 rw [← ha] at HC
 have HBY := Lib.hid (fun W h => sbyte_any g a.2 W h)
 rw [← hk] at HBY
 have HSE := Lib.hid (fun W h => scount_any g k.2 255 W h (by omega))
 rw [← hse] at HSE
 have HNU := Lib.hid (fun W h => scount_any g s.2 1099511627776 W h (by omega))
 rw [← hn] at HNU
 have HZ0 := Lib.hid hz0
 have HO0 := Lib.hid ho0
 have HS0 := Lib.hid hsz0
 have HG := Lib.hid hs.lt
 clear hs hz0 hs0 ho0 ha hk hse hn hsz0
 go_enter Tryz.func64, Tryz.ntmps64
 go_wp2_with fail
 rw [← hw0]
 refine HC.out.mono ?_
 rintro q w1 ⟨rfl, hs1, ho1⟩
 have HX1 := Lib.hid (And.intro hs1 ho1)
 clear hw0 HC hs1 ho1
 go_wp2_with (refine wpList_store_ent (by rfl) 28 _ _ rfl rfl w1.heap.size 0 rfl _ #[.int .i64 (a.1 : Int), .int .i64 0, .string ⟨#[]⟩, .string ⟨#[]⟩, .int .i64 0, .int .i64 0, .string ⟨#[]⟩, .slice none 0 0, .slice none 0 0, .int .i64 0, .int .i64 0, .string ⟨#[]⟩, .slice none 0 0, .slice none 0 0, .slice none 0 0, .int .i64 0, .int .i64 0] rfl rfl _ #[.int .i64 (a.1 : Int), .int .i64 0, .string ⟨#[]⟩, .string ⟨#[]⟩, .int .i64 0, .int .i64 0, .string ⟨#[]⟩, .slice none 0 0, .slice none 0 0, .int .i64 0, .int .i64 0, .string ⟨#[]⟩, .slice none 0 0, .slice none 0 0, .slice none 0 0, .int .i64 0, .int .i64 0] 28 (heap_alloc_new w1 _) (by simp) (by kernel_rfl) (by simp [Value.oneCell']) (by kernel_rfl) ?_; intro w2 hk ho hz; have HK2 := Lib.hid hk; have HO2 := Lib.hid (And.intro ho hz); clear hk ho hz)
 have HR2 : Hid (RdSt w w2 g w1.heap.size ⟨a.1, 0, ⟨#[]⟩, ⟨#[]⟩, noneV, noneV, [], 0, 0⟩ none 0 none 0 none 0 none 0 none 0 a.2) := Lib.hid (by
  have h1 := HX1.out.1
  have h2 := HX1.out.2
  have hz := HO2.out.2
  simp only [heap_alloc_size'] at hz
  have hlt := h2.size
  have hh := HS0.out
  have hgg := HG.out
  have hoo : Only w (w1.alloc (.cells #[.int .i64 0, .int .i64 0, .string ⟨#[]⟩, .string ⟨#[]⟩, .int .i64 0, .int .i64 0, .string ⟨#[]⟩, .slice none 0 0, .slice none 0 0, .int .i64 0, .int .i64 0, .string ⟨#[]⟩, .slice none 0 0, .slice none 0 0, .slice none 0 0, .int .i64 0, .int .i64 0] 28)) g := (HO0.out.trans h2).alloc _
  exact ⟨HK2.out, only_at HO2.out.1 (only_at h2 HZ0.out (by omega) |> fun h => (Below.heap_alloc w1 _ _ (Array.getElem?_eq_some_iff.1 h).1).trans h) (by omega), (h1.alloc _).of (HO2.out.1.block g (by simp; omega) (by intro e; injection e; omega)), ⟨HO2.out.1.os.trans hoo.os, HO2.out.1.tape.trans hoo.tape, HO2.out.1.output.trans hoo.output, by omega, fun b hb hne => (HO2.out.1.block b (by simp; omega) (by intro e; injection e; omega)).trans (hoo.block b hb hne)⟩, by omega, HG.out, leaf_lv _ _ _ _ _ (by unfold Rng; omega) (by unfold Rng; omega) (by decide), leaf_lv _ _ _ _ _ (by unfold Rng; omega) (by unfold Rng; omega) (by decide), nil_dels _ _, by simp, fun _ => rfl, by simp⟩)
 clear HK2 HO2 HX1 HZ0 HO0
 obtain ⟨r, hr⟩ : ∃ r, r = w1.heap.size := ⟨_, rfl⟩
 rw [← hr] at HR2 ⊢
 clear hr
 refine (HBY.out _ HR2.out.src).mono ?_
 rintro q w3 ⟨rfl, hs, ho⟩
 have HR3 := Lib.hid (HR2.out.call ho hs)
 clear hs ho HR2
 go_wp2_with (refine wpList_store_box (by rfl) 3 _ _ rfl rfl r 1 rfl _ #[.int .i64 (k.1 : Int)] rfl rfl HR3.out.box ⟨a.1, k.1, ⟨#[]⟩, ⟨#[]⟩, noneV, noneV, [], 0, 0⟩ none 0 none 0 none 0 none 0 none 0 (by simp) (by kernel_rfl) (by simp [Value.oneCell']) (by kernel_rfl) ?_; intro w4 HK4 HO4)
 have HR4 := Lib.hid (HR3.out.store HK4.out HO4.out.1 HO4.out.2 HR3.out.id HR3.out.doc HR3.out.dels HR3.out.cap HR3.out.nil HR3.out.len)
 clear HR3 HK4 HO4
 refine (HSE.out _ HR4.out.src).mono ?_
 rintro q w5 ⟨rfl, hs, ho⟩
 have HR5 := Lib.hid (HR4.out.call ho hs)
 clear hs ho HR4
 go_wp2_with (refine wpList_store_box (by rfl) 3 _ _ rfl rfl r 15 rfl _ #[.int .i64 (s.1 : Int)] rfl rfl HR5.out.box ⟨a.1, k.1, ⟨#[]⟩, ⟨#[]⟩, noneV, noneV, [], s.1, 0⟩ none 0 none 0 none 0 none 0 none 0 (by simp) (by kernel_rfl) (by simp [Value.oneCell']) (by kernel_rfl) ?_; intro w6 HK6 HO6)
 have HR6 := Lib.hid (HR5.out.store HK6.out HO6.out.1 HO6.out.2 HR5.out.id HR5.out.doc HR5.out.dels HR5.out.cap HR5.out.nil HR5.out.len)
 clear HR5 HK6 HO6
 refine (HNU.out _ HR6.out.src).mono ?_
 rintro q w7 ⟨rfl, hs, ho⟩
 have HR7 := Lib.hid (HR6.out.call ho hs)
 clear hs ho HR6
 go_wp2_with (refine wpList_store_box (by rfl) 3 _ _ rfl rfl r 16 rfl _ #[.int .i64 (n.1 : Int)] rfl rfl HR7.out.box ⟨a.1, k.1, ⟨#[]⟩, ⟨#[]⟩, noneV, noneV, [], s.1, n.1⟩ none 0 none 0 none 0 none 0 none 0 (by simp) (by kernel_rfl) (by simp [Value.oneCell']) (by kernel_rfl) ?_; intro w8 HK8 HO8; have y1 := HK8.out.g1)
 have HR8 := Lib.hid (HR7.out.store HK8.out HO8.out.1 HO8.out.2 HR7.out.id HR7.out.doc HR7.out.dels HR7.out.cap HR7.out.nil HR7.out.len)
 clear HR7 HK8 HO8
 refine (efields_any (k.1 : Int) _).mono ?_
 rintro q u ⟨rfl, hw⟩
 replace hw := hw.symm
 subst hw
 clear y1
 rcases has_combo (k.1 : Int) with ⟨c1, c2, c3, c4, c5⟩ | ⟨c1, c2, c3, c4, c5⟩ | ⟨c1, c2, c3, c4, c5⟩ | ⟨c1, c2, c3, c4, c5⟩ | ⟨c1, c2, c3, c4, c5⟩ | ⟨c1, c2, c3, c4, c5⟩
 ·have C1 := Lib.hid c1
  have C2 := Lib.hid c2
  have C3 := Lib.hid c3
  have C4 := Lib.hid c4
  have C5 := Lib.hid c5
  have HF : Hid (rdE1 st = (⟨a.1, k.1, ⟨#[]⟩, ⟨#[]⟩, noneV, noneV, [], s.1, n.1⟩, n.2)) := Lib.hid (by rw [HDEF.out, c1, c2, c3, c4, c5]; rfl)
  clear c1 c2 c3 c4 c5
  go_wp2_with fail
  refine (ehas_coll (k.1 : Int) _).mono ?_
  rintro q u ⟨rfl, hw⟩
  replace hw := hw.symm
  subst hw
  rw [C1.out]
  go_wp2_with fail
  refine (ehas_to (k.1 : Int) _).mono ?_
  rintro q u ⟨rfl, hw⟩
  replace hw := hw.symm
  subst hw
  rw [C2.out]
  go_wp2_with fail
  refine (ehas_id (k.1 : Int) _).mono ?_
  rintro q u ⟨rfl, hw⟩
  replace hw := hw.symm
  subst hw
  rw [C3.out]
  go_wp2_with fail
  refine (ehas_doc (k.1 : Int) _).mono ?_
  rintro q u ⟨rfl, hw⟩
  replace hw := hw.symm
  subst hw
  rw [C4.out]
  go_wp2_with fail
  refine (ehas_dels (k.1 : Int) _).mono ?_
  rintro q u ⟨rfl, hw⟩
  replace hw := hw.symm
  subst hw
  rw [C5.out]
  go_wp2_with (first | (refine wpList_load_ent (by rfl) _ rfl r rfl _ _ HR8.out.box rfl ?_; simp only [acR, Act.put]) | (refine wpList_store_all (by rfl) _ _ rfl rfl w.heap.size rfl ⟨a.1, k.1, ⟨#[]⟩, ⟨#[]⟩, noneV, noneV, [], s.1, n.1⟩ none 0 none 0 none 0 none 0 none 0 rfl HR8.out.zero ?_; intro w90 HK90 HO90))
  refine bodyPost_ret (results_cell_e rfl _ _ w.heap.size _ _ _ rfl HK90.out rfl) rfl ?_
  rw [HF.out]
  obtain ⟨f1, f2, f3⟩ := HR8.out.fin HO90.out.1 HO90.out.2 (by have := HNUM.out; unfold Rng; simp only; omega) (by have := HNUM.out; unfold Rng; simp only; omega) (by have := HNUM.out; unfold Rng; simp only; omega) (by have := HNUM.out; unfold Rng; simp only; omega) (show (⟨#[]⟩ : ByteArray).size ≤ 140737488351232 by decide) (show (⟨#[]⟩ : ByteArray).size ≤ 140737488351232 by decide)
  exact ⟨_, rfl, f1, f2, f3⟩
 ·have C1 := Lib.hid c1
  have C2 := Lib.hid c2
  have C3 := Lib.hid c3
  have C4 := Lib.hid c4
  have C5 := Lib.hid c5
  have HF : Hid (rdE1 st = (⟨a.1, k.1, ⟨(rdText 32 (n.2)).1.toArray⟩, ⟨#[]⟩, (readO ((rdText 32 (n.2)).2)).1, (readO ((readO ((rdText 32 (n.2)).2)).2)).1, [], s.1, n.1⟩, (readO ((readO ((rdText 32 (n.2)).2)).2)).2)) := Lib.hid (by rw [HDEF.out, c1, c2, c3, c4, c5]; rfl)
  clear c1 c2 c3 c4 c5
  go_wp2_with fail
  refine (ehas_coll (k.1 : Int) _).mono ?_
  rintro q u ⟨rfl, hw⟩
  replace hw := hw.symm
  subst hw
  rw [C1.out]
  go_wp2_with fail
  refine (stext_any g (n.2) 32 _ HR8.out.src (by omega)).mono ?_
  rintro q w9 ⟨rfl, hs, ho⟩
  have HR9 := Lib.hid (HR8.out.call ho hs)
  clear hs ho HR8
  obtain ⟨z8, hz8⟩ : ∃ z, z = rdText 32 (n.2) := ⟨_, rfl⟩
  have HT8 : Hid (z8.1.length ≤ 32) := Lib.hid (by rw [hz8]; exact rdText_le 32 _ (by omega))
  rw [← hz8] at HR9 HF ⊢
  clear hz8
  go_wp2_with (refine wpList_store_box (by rfl) 9 _ _ rfl rfl r 2 rfl _ #[.string ⟨z8.1.toArray⟩] rfl rfl HR9.out.box ⟨a.1, k.1, ⟨z8.1.toArray⟩, ⟨#[]⟩, noneV, noneV, [], s.1, n.1⟩ none 0 none 0 none 0 none 0 none 0 (by simp) (by kernel_rfl) (by simp [Value.oneCell']) (by kernel_rfl) ?_; intro w10 HK10 HO10)
  have HR10 := Lib.hid (HR9.out.store HK10.out HO10.out.1 HO10.out.2 HR9.out.id HR9.out.doc HR9.out.dels HR9.out.cap HR9.out.nil HR9.out.len)
  clear HR9 HK10 HO10
  go_wp2_with fail
  refine (ehas_to (k.1 : Int) _).mono ?_
  rintro q u ⟨rfl, hw⟩
  replace hw := hw.symm
  subst hw
  rw [C2.out]
  go_wp2_with fail
  refine (ehas_id (k.1 : Int) _).mono ?_
  rintro q u ⟨rfl, hw⟩
  replace hw := hw.symm
  subst hw
  rw [C3.out]
  go_wp2_with fail
  refine (cread_any g (z8.2) _ HR10.out.src).mono ?_
  rintro q w11 ⟨v, rfl, hs, ho, hv⟩
  have HR11 := Lib.hid (HR10.out.call ho hs)
  have HV10 : Hid (LV w11 (Beh r w11) (readO (z8.2)).1 v) := Lib.hid (hv.imp fun b hb => ⟨by have h1 := hb.1; have h2 := (Array.getElem?_eq_some_iff.1 HR10.out.box).1; omega, hb.2⟩)
  obtain ⟨V10A, v10a, V10B, v10b, rfl, -⟩ := hv.shape
  obtain ⟨z10, hz10⟩ : ∃ z, z = readO (z8.2) := ⟨_, rfl⟩
  rw [← hz10] at HR11 HV10 HF ⊢
  clear hz10 hs ho hv HR10
  go_wp2_with (refine wpList_store_box (by rfl) 25 _ _ rfl rfl r 4 rfl _ #[.int .i64 z10.1.kind, .int .i64 z10.1.num, .string z10.1.text, .slice V10A z10.1.items.length v10a, .slice V10B z10.1.names.length v10b] rfl rfl HR11.out.box ⟨a.1, k.1, ⟨z8.1.toArray⟩, ⟨#[]⟩, z10.1, noneV, [], s.1, n.1⟩ V10A v10a V10B v10b none 0 none 0 none 0 (by simp) (by kernel_rfl) (by simp [Value.oneCell']) (by kernel_rfl) ?_; intro w12 HK12 HO12)
  have HR12 := Lib.hid (HR11.out.store HK12.out HO12.out.1 HO12.out.2 HV10.out HR11.out.doc HR11.out.dels HR11.out.cap HR11.out.nil HR11.out.len)
  clear HR11 HK12 HO12 HV10
  go_wp2_with fail
  refine (ehas_doc (k.1 : Int) _).mono ?_
  rintro q u ⟨rfl, hw⟩
  replace hw := hw.symm
  subst hw
  rw [C4.out]
  go_wp2_with fail
  refine (cread_any g (z10.2) _ HR12.out.src).mono ?_
  rintro q w13 ⟨v, rfl, hs, ho, hv⟩
  have HR13 := Lib.hid (HR12.out.call ho hs)
  have HV12 : Hid (LV w13 (Beh r w13) (readO (z10.2)).1 v) := Lib.hid (hv.imp fun b hb => ⟨by have h1 := hb.1; have h2 := (Array.getElem?_eq_some_iff.1 HR12.out.box).1; omega, hb.2⟩)
  obtain ⟨V12A, v12a, V12B, v12b, rfl, -⟩ := hv.shape
  obtain ⟨z12, hz12⟩ : ∃ z, z = readO (z10.2) := ⟨_, rfl⟩
  rw [← hz12] at HR13 HV12 HF ⊢
  clear hz12 hs ho hv HR12
  go_wp2_with (refine wpList_store_box (by rfl) 25 _ _ rfl rfl r 9 rfl _ #[.int .i64 z12.1.kind, .int .i64 z12.1.num, .string z12.1.text, .slice V12A z12.1.items.length v12a, .slice V12B z12.1.names.length v12b] rfl rfl HR13.out.box ⟨a.1, k.1, ⟨z8.1.toArray⟩, ⟨#[]⟩, z10.1, z12.1, [], s.1, n.1⟩ V10A v10a V10B v10b V12A v12a V12B v12b none 0 (by simp) (by kernel_rfl) (by simp [Value.oneCell']) (by kernel_rfl) ?_; intro w14 HK14 HO14)
  have HR14 := Lib.hid (HR13.out.store HK14.out HO14.out.1 HO14.out.2 HR13.out.id HV12.out HR13.out.dels HR13.out.cap HR13.out.nil HR13.out.len)
  clear HR13 HK14 HO14 HV12
  go_wp2_with fail
  refine (ehas_dels (k.1 : Int) _).mono ?_
  rintro q u ⟨rfl, hw⟩
  replace hw := hw.symm
  subst hw
  rw [C5.out]
  go_wp2_with (first | (refine wpList_load_ent (by rfl) _ rfl r rfl _ _ HR14.out.box rfl ?_; simp only [acR, Act.put]) | (refine wpList_store_all (by rfl) _ _ rfl rfl w.heap.size rfl ⟨a.1, k.1, ⟨z8.1.toArray⟩, ⟨#[]⟩, z10.1, z12.1, [], s.1, n.1⟩ V10A v10a V10B v10b V12A v12a V12B v12b none 0 rfl HR14.out.zero ?_; intro w90 HK90 HO90))
  refine bodyPost_ret (results_cell_e rfl _ _ w.heap.size _ _ _ rfl HK90.out rfl) rfl ?_
  rw [HF.out]
  obtain ⟨f1, f2, f3⟩ := HR14.out.fin HO90.out.1 HO90.out.2 (by have := HNUM.out; unfold Rng; simp only; omega) (by have := HNUM.out; unfold Rng; simp only; omega) (by have := HNUM.out; unfold Rng; simp only; omega) (by have := HNUM.out; unfold Rng; simp only; omega) (by have := HT8.out; simp [ByteArray.size]; omega) (show (⟨#[]⟩ : ByteArray).size ≤ 140737488351232 by decide)
  exact ⟨_, rfl, f1, f2, f3⟩
 ·have C1 := Lib.hid c1
  have C2 := Lib.hid c2
  have C3 := Lib.hid c3
  have C4 := Lib.hid c4
  have C5 := Lib.hid c5
  have HF : Hid (rdE1 st = (⟨a.1, k.1, ⟨(rdText 32 (n.2)).1.toArray⟩, ⟨#[]⟩, (readO ((rdText 32 (n.2)).2)).1, noneV, (rdDl ((readO ((rdText 32 (n.2)).2)).2)).1, s.1, n.1⟩, (rdDl ((readO ((rdText 32 (n.2)).2)).2)).2)) := Lib.hid (by rw [HDEF.out, c1, c2, c3, c4, c5]; rfl)
  clear c1 c2 c3 c4 c5
  go_wp2_with fail
  refine (ehas_coll (k.1 : Int) _).mono ?_
  rintro q u ⟨rfl, hw⟩
  replace hw := hw.symm
  subst hw
  rw [C1.out]
  go_wp2_with fail
  refine (stext_any g (n.2) 32 _ HR8.out.src (by omega)).mono ?_
  rintro q w9 ⟨rfl, hs, ho⟩
  have HR9 := Lib.hid (HR8.out.call ho hs)
  clear hs ho HR8
  obtain ⟨z8, hz8⟩ : ∃ z, z = rdText 32 (n.2) := ⟨_, rfl⟩
  have HT8 : Hid (z8.1.length ≤ 32) := Lib.hid (by rw [hz8]; exact rdText_le 32 _ (by omega))
  rw [← hz8] at HR9 HF ⊢
  clear hz8
  go_wp2_with (refine wpList_store_box (by rfl) 9 _ _ rfl rfl r 2 rfl _ #[.string ⟨z8.1.toArray⟩] rfl rfl HR9.out.box ⟨a.1, k.1, ⟨z8.1.toArray⟩, ⟨#[]⟩, noneV, noneV, [], s.1, n.1⟩ none 0 none 0 none 0 none 0 none 0 (by simp) (by kernel_rfl) (by simp [Value.oneCell']) (by kernel_rfl) ?_; intro w10 HK10 HO10)
  have HR10 := Lib.hid (HR9.out.store HK10.out HO10.out.1 HO10.out.2 HR9.out.id HR9.out.doc HR9.out.dels HR9.out.cap HR9.out.nil HR9.out.len)
  clear HR9 HK10 HO10
  go_wp2_with fail
  refine (ehas_to (k.1 : Int) _).mono ?_
  rintro q u ⟨rfl, hw⟩
  replace hw := hw.symm
  subst hw
  rw [C2.out]
  go_wp2_with fail
  refine (ehas_id (k.1 : Int) _).mono ?_
  rintro q u ⟨rfl, hw⟩
  replace hw := hw.symm
  subst hw
  rw [C3.out]
  go_wp2_with fail
  refine (cread_any g (z8.2) _ HR10.out.src).mono ?_
  rintro q w11 ⟨v, rfl, hs, ho, hv⟩
  have HR11 := Lib.hid (HR10.out.call ho hs)
  have HV10 : Hid (LV w11 (Beh r w11) (readO (z8.2)).1 v) := Lib.hid (hv.imp fun b hb => ⟨by have h1 := hb.1; have h2 := (Array.getElem?_eq_some_iff.1 HR10.out.box).1; omega, hb.2⟩)
  obtain ⟨V10A, v10a, V10B, v10b, rfl, -⟩ := hv.shape
  obtain ⟨z10, hz10⟩ : ∃ z, z = readO (z8.2) := ⟨_, rfl⟩
  rw [← hz10] at HR11 HV10 HF ⊢
  clear hz10 hs ho hv HR10
  go_wp2_with (refine wpList_store_box (by rfl) 25 _ _ rfl rfl r 4 rfl _ #[.int .i64 z10.1.kind, .int .i64 z10.1.num, .string z10.1.text, .slice V10A z10.1.items.length v10a, .slice V10B z10.1.names.length v10b] rfl rfl HR11.out.box ⟨a.1, k.1, ⟨z8.1.toArray⟩, ⟨#[]⟩, z10.1, noneV, [], s.1, n.1⟩ V10A v10a V10B v10b none 0 none 0 none 0 (by simp) (by kernel_rfl) (by simp [Value.oneCell']) (by kernel_rfl) ?_; intro w12 HK12 HO12)
  have HR12 := Lib.hid (HR11.out.store HK12.out HO12.out.1 HO12.out.2 HV10.out HR11.out.doc HR11.out.dels HR11.out.cap HR11.out.nil HR11.out.len)
  clear HR11 HK12 HO12 HV10
  go_wp2_with fail
  refine (ehas_doc (k.1 : Int) _).mono ?_
  rintro q u ⟨rfl, hw⟩
  replace hw := hw.symm
  subst hw
  rw [C4.out]
  go_wp2_with fail
  refine (ehas_dels (k.1 : Int) _).mono ?_
  rintro q u ⟨rfl, hw⟩
  replace hw := hw.symm
  subst hw
  rw [C5.out]
  go_wp2_with fail
  refine (dlread_any g (z10.2) _ HR12.out.src).mono ?_
  rintro q w13 ⟨QA, qc, rfl, hd, hq0, hqc, hs, ho⟩
  have HR13 := Lib.hid (HR12.out.call ho hs)
  have HV12 : Hid (DelsL w13 (Beh r w13) QA (rdDl (z10.2)).1 ∧ (rdDl (z10.2)).1.length ≤ qc ∧ (QA = none → qc = 0) ∧ (rdDl (z10.2)).1.length ≤ 64) := Lib.hid ⟨hd.imp fun b hb => ⟨by have h1 := hb.1; have h2 := (Array.getElem?_eq_some_iff.1 HR12.out.box).1; omega, hb.2⟩, hqc, fun h => (hq0 h).1, rdDl_le _⟩
  obtain ⟨z12, hz12⟩ : ∃ z, z = rdDl (z10.2) := ⟨_, rfl⟩
  rw [← hz12] at HR13 HV12 HF ⊢
  clear hz12 hs ho hd hq0 hqc HR12
  go_wp2_with (first | (refine wpList_store_box (by rfl) 26 _ _ rfl rfl r 14 rfl _ #[.slice QA z12.1.length qc] rfl rfl HR13.out.box ⟨a.1, k.1, ⟨z8.1.toArray⟩, ⟨#[]⟩, z10.1, noneV, z12.1, s.1, n.1⟩ V10A v10a V10B v10b none 0 none 0 QA qc (by simp) (by kernel_rfl) (by simp [Value.oneCell']) (by kernel_rfl) ?_; intro w14 HK14 HO14; have HR14 := Lib.hid (HR13.out.store HK14.out HO14.out.1 HO14.out.2 HR13.out.id HR13.out.doc HV12.out.1 HV12.out.2.1 HV12.out.2.2.1 HV12.out.2.2.2); clear HR13 HK14 HO14 HV12) | (refine wpList_load_ent (by rfl) _ rfl r rfl _ _ HR14.out.box rfl ?_; simp only [acR, Act.put]) | (refine wpList_store_all (by rfl) _ _ rfl rfl w.heap.size rfl ⟨a.1, k.1, ⟨z8.1.toArray⟩, ⟨#[]⟩, z10.1, noneV, z12.1, s.1, n.1⟩ V10A v10a V10B v10b none 0 none 0 QA qc rfl HR14.out.zero ?_; intro w90 HK90 HO90))
  refine bodyPost_ret (results_cell_e rfl _ _ w.heap.size _ _ _ rfl HK90.out rfl) rfl ?_
  rw [HF.out]
  obtain ⟨f1, f2, f3⟩ := HR14.out.fin HO90.out.1 HO90.out.2 (by have := HNUM.out; unfold Rng; simp only; omega) (by have := HNUM.out; unfold Rng; simp only; omega) (by have := HNUM.out; unfold Rng; simp only; omega) (by have := HNUM.out; unfold Rng; simp only; omega) (by have := HT8.out; simp [ByteArray.size]; omega) (show (⟨#[]⟩ : ByteArray).size ≤ 140737488351232 by decide)
  exact ⟨_, rfl, f1, f2, f3⟩
 ·have C1 := Lib.hid c1
  have C2 := Lib.hid c2
  have C3 := Lib.hid c3
  have C4 := Lib.hid c4
  have C5 := Lib.hid c5
  have HF : Hid (rdE1 st = (⟨a.1, k.1, ⟨(rdText 32 (n.2)).1.toArray⟩, ⟨#[]⟩, (readO ((rdText 32 (n.2)).2)).1, noneV, [], s.1, n.1⟩, (readO ((rdText 32 (n.2)).2)).2)) := Lib.hid (by rw [HDEF.out, c1, c2, c3, c4, c5]; rfl)
  clear c1 c2 c3 c4 c5
  go_wp2_with fail
  refine (ehas_coll (k.1 : Int) _).mono ?_
  rintro q u ⟨rfl, hw⟩
  replace hw := hw.symm
  subst hw
  rw [C1.out]
  go_wp2_with fail
  refine (stext_any g (n.2) 32 _ HR8.out.src (by omega)).mono ?_
  rintro q w9 ⟨rfl, hs, ho⟩
  have HR9 := Lib.hid (HR8.out.call ho hs)
  clear hs ho HR8
  obtain ⟨z8, hz8⟩ : ∃ z, z = rdText 32 (n.2) := ⟨_, rfl⟩
  have HT8 : Hid (z8.1.length ≤ 32) := Lib.hid (by rw [hz8]; exact rdText_le 32 _ (by omega))
  rw [← hz8] at HR9 HF ⊢
  clear hz8
  go_wp2_with (refine wpList_store_box (by rfl) 9 _ _ rfl rfl r 2 rfl _ #[.string ⟨z8.1.toArray⟩] rfl rfl HR9.out.box ⟨a.1, k.1, ⟨z8.1.toArray⟩, ⟨#[]⟩, noneV, noneV, [], s.1, n.1⟩ none 0 none 0 none 0 none 0 none 0 (by simp) (by kernel_rfl) (by simp [Value.oneCell']) (by kernel_rfl) ?_; intro w10 HK10 HO10)
  have HR10 := Lib.hid (HR9.out.store HK10.out HO10.out.1 HO10.out.2 HR9.out.id HR9.out.doc HR9.out.dels HR9.out.cap HR9.out.nil HR9.out.len)
  clear HR9 HK10 HO10
  go_wp2_with fail
  refine (ehas_to (k.1 : Int) _).mono ?_
  rintro q u ⟨rfl, hw⟩
  replace hw := hw.symm
  subst hw
  rw [C2.out]
  go_wp2_with fail
  refine (ehas_id (k.1 : Int) _).mono ?_
  rintro q u ⟨rfl, hw⟩
  replace hw := hw.symm
  subst hw
  rw [C3.out]
  go_wp2_with fail
  refine (cread_any g (z8.2) _ HR10.out.src).mono ?_
  rintro q w11 ⟨v, rfl, hs, ho, hv⟩
  have HR11 := Lib.hid (HR10.out.call ho hs)
  have HV10 : Hid (LV w11 (Beh r w11) (readO (z8.2)).1 v) := Lib.hid (hv.imp fun b hb => ⟨by have h1 := hb.1; have h2 := (Array.getElem?_eq_some_iff.1 HR10.out.box).1; omega, hb.2⟩)
  obtain ⟨V10A, v10a, V10B, v10b, rfl, -⟩ := hv.shape
  obtain ⟨z10, hz10⟩ : ∃ z, z = readO (z8.2) := ⟨_, rfl⟩
  rw [← hz10] at HR11 HV10 HF ⊢
  clear hz10 hs ho hv HR10
  go_wp2_with (refine wpList_store_box (by rfl) 25 _ _ rfl rfl r 4 rfl _ #[.int .i64 z10.1.kind, .int .i64 z10.1.num, .string z10.1.text, .slice V10A z10.1.items.length v10a, .slice V10B z10.1.names.length v10b] rfl rfl HR11.out.box ⟨a.1, k.1, ⟨z8.1.toArray⟩, ⟨#[]⟩, z10.1, noneV, [], s.1, n.1⟩ V10A v10a V10B v10b none 0 none 0 none 0 (by simp) (by kernel_rfl) (by simp [Value.oneCell']) (by kernel_rfl) ?_; intro w12 HK12 HO12)
  have HR12 := Lib.hid (HR11.out.store HK12.out HO12.out.1 HO12.out.2 HV10.out HR11.out.doc HR11.out.dels HR11.out.cap HR11.out.nil HR11.out.len)
  clear HR11 HK12 HO12 HV10
  go_wp2_with fail
  refine (ehas_doc (k.1 : Int) _).mono ?_
  rintro q u ⟨rfl, hw⟩
  replace hw := hw.symm
  subst hw
  rw [C4.out]
  go_wp2_with fail
  refine (ehas_dels (k.1 : Int) _).mono ?_
  rintro q u ⟨rfl, hw⟩
  replace hw := hw.symm
  subst hw
  rw [C5.out]
  go_wp2_with (first | (refine wpList_load_ent (by rfl) _ rfl r rfl _ _ HR12.out.box rfl ?_; simp only [acR, Act.put]) | (refine wpList_store_all (by rfl) _ _ rfl rfl w.heap.size rfl ⟨a.1, k.1, ⟨z8.1.toArray⟩, ⟨#[]⟩, z10.1, noneV, [], s.1, n.1⟩ V10A v10a V10B v10b none 0 none 0 none 0 rfl HR12.out.zero ?_; intro w90 HK90 HO90))
  refine bodyPost_ret (results_cell_e rfl _ _ w.heap.size _ _ _ rfl HK90.out rfl) rfl ?_
  rw [HF.out]
  obtain ⟨f1, f2, f3⟩ := HR12.out.fin HO90.out.1 HO90.out.2 (by have := HNUM.out; unfold Rng; simp only; omega) (by have := HNUM.out; unfold Rng; simp only; omega) (by have := HNUM.out; unfold Rng; simp only; omega) (by have := HNUM.out; unfold Rng; simp only; omega) (by have := HT8.out; simp [ByteArray.size]; omega) (show (⟨#[]⟩ : ByteArray).size ≤ 140737488351232 by decide)
  exact ⟨_, rfl, f1, f2, f3⟩
 ·have C1 := Lib.hid c1
  have C2 := Lib.hid c2
  have C3 := Lib.hid c3
  have C4 := Lib.hid c4
  have C5 := Lib.hid c5
  have HF : Hid (rdE1 st = (⟨a.1, k.1, ⟨(rdText 32 (n.2)).1.toArray⟩, ⟨#[]⟩, noneV, noneV, [], s.1, n.1⟩, (rdText 32 (n.2)).2)) := Lib.hid (by rw [HDEF.out, c1, c2, c3, c4, c5]; rfl)
  clear c1 c2 c3 c4 c5
  go_wp2_with fail
  refine (ehas_coll (k.1 : Int) _).mono ?_
  rintro q u ⟨rfl, hw⟩
  replace hw := hw.symm
  subst hw
  rw [C1.out]
  go_wp2_with fail
  refine (stext_any g (n.2) 32 _ HR8.out.src (by omega)).mono ?_
  rintro q w9 ⟨rfl, hs, ho⟩
  have HR9 := Lib.hid (HR8.out.call ho hs)
  clear hs ho HR8
  obtain ⟨z8, hz8⟩ : ∃ z, z = rdText 32 (n.2) := ⟨_, rfl⟩
  have HT8 : Hid (z8.1.length ≤ 32) := Lib.hid (by rw [hz8]; exact rdText_le 32 _ (by omega))
  rw [← hz8] at HR9 HF ⊢
  clear hz8
  go_wp2_with (refine wpList_store_box (by rfl) 9 _ _ rfl rfl r 2 rfl _ #[.string ⟨z8.1.toArray⟩] rfl rfl HR9.out.box ⟨a.1, k.1, ⟨z8.1.toArray⟩, ⟨#[]⟩, noneV, noneV, [], s.1, n.1⟩ none 0 none 0 none 0 none 0 none 0 (by simp) (by kernel_rfl) (by simp [Value.oneCell']) (by kernel_rfl) ?_; intro w10 HK10 HO10)
  have HR10 := Lib.hid (HR9.out.store HK10.out HO10.out.1 HO10.out.2 HR9.out.id HR9.out.doc HR9.out.dels HR9.out.cap HR9.out.nil HR9.out.len)
  clear HR9 HK10 HO10
  go_wp2_with fail
  refine (ehas_to (k.1 : Int) _).mono ?_
  rintro q u ⟨rfl, hw⟩
  replace hw := hw.symm
  subst hw
  rw [C2.out]
  go_wp2_with fail
  refine (ehas_id (k.1 : Int) _).mono ?_
  rintro q u ⟨rfl, hw⟩
  replace hw := hw.symm
  subst hw
  rw [C3.out]
  go_wp2_with fail
  refine (ehas_doc (k.1 : Int) _).mono ?_
  rintro q u ⟨rfl, hw⟩
  replace hw := hw.symm
  subst hw
  rw [C4.out]
  go_wp2_with fail
  refine (ehas_dels (k.1 : Int) _).mono ?_
  rintro q u ⟨rfl, hw⟩
  replace hw := hw.symm
  subst hw
  rw [C5.out]
  go_wp2_with (first | (refine wpList_load_ent (by rfl) _ rfl r rfl _ _ HR10.out.box rfl ?_; simp only [acR, Act.put]) | (refine wpList_store_all (by rfl) _ _ rfl rfl w.heap.size rfl ⟨a.1, k.1, ⟨z8.1.toArray⟩, ⟨#[]⟩, noneV, noneV, [], s.1, n.1⟩ none 0 none 0 none 0 none 0 none 0 rfl HR10.out.zero ?_; intro w90 HK90 HO90))
  refine bodyPost_ret (results_cell_e rfl _ _ w.heap.size _ _ _ rfl HK90.out rfl) rfl ?_
  rw [HF.out]
  obtain ⟨f1, f2, f3⟩ := HR10.out.fin HO90.out.1 HO90.out.2 (by have := HNUM.out; unfold Rng; simp only; omega) (by have := HNUM.out; unfold Rng; simp only; omega) (by have := HNUM.out; unfold Rng; simp only; omega) (by have := HNUM.out; unfold Rng; simp only; omega) (by have := HT8.out; simp [ByteArray.size]; omega) (show (⟨#[]⟩ : ByteArray).size ≤ 140737488351232 by decide)
  exact ⟨_, rfl, f1, f2, f3⟩
 ·have C1 := Lib.hid c1
  have C2 := Lib.hid c2
  have C3 := Lib.hid c3
  have C4 := Lib.hid c4
  have C5 := Lib.hid c5
  have HF : Hid (rdE1 st = (⟨a.1, k.1, ⟨(rdText 32 (n.2)).1.toArray⟩, ⟨(rdText 32 ((rdText 32 (n.2)).2)).1.toArray⟩, noneV, noneV, [], s.1, n.1⟩, (rdText 32 ((rdText 32 (n.2)).2)).2)) := Lib.hid (by rw [HDEF.out, c1, c2, c3, c4, c5]; rfl)
  clear c1 c2 c3 c4 c5
  go_wp2_with fail
  refine (ehas_coll (k.1 : Int) _).mono ?_
  rintro q u ⟨rfl, hw⟩
  replace hw := hw.symm
  subst hw
  rw [C1.out]
  go_wp2_with fail
  refine (stext_any g (n.2) 32 _ HR8.out.src (by omega)).mono ?_
  rintro q w9 ⟨rfl, hs, ho⟩
  have HR9 := Lib.hid (HR8.out.call ho hs)
  clear hs ho HR8
  obtain ⟨z8, hz8⟩ : ∃ z, z = rdText 32 (n.2) := ⟨_, rfl⟩
  have HT8 : Hid (z8.1.length ≤ 32) := Lib.hid (by rw [hz8]; exact rdText_le 32 _ (by omega))
  rw [← hz8] at HR9 HF ⊢
  clear hz8
  go_wp2_with (refine wpList_store_box (by rfl) 9 _ _ rfl rfl r 2 rfl _ #[.string ⟨z8.1.toArray⟩] rfl rfl HR9.out.box ⟨a.1, k.1, ⟨z8.1.toArray⟩, ⟨#[]⟩, noneV, noneV, [], s.1, n.1⟩ none 0 none 0 none 0 none 0 none 0 (by simp) (by kernel_rfl) (by simp [Value.oneCell']) (by kernel_rfl) ?_; intro w10 HK10 HO10)
  have HR10 := Lib.hid (HR9.out.store HK10.out HO10.out.1 HO10.out.2 HR9.out.id HR9.out.doc HR9.out.dels HR9.out.cap HR9.out.nil HR9.out.len)
  clear HR9 HK10 HO10
  go_wp2_with fail
  refine (ehas_to (k.1 : Int) _).mono ?_
  rintro q u ⟨rfl, hw⟩
  replace hw := hw.symm
  subst hw
  rw [C2.out]
  go_wp2_with fail
  refine (stext_any g (z8.2) 32 _ HR10.out.src (by omega)).mono ?_
  rintro q w11 ⟨rfl, hs, ho⟩
  have HR11 := Lib.hid (HR10.out.call ho hs)
  clear hs ho HR10
  obtain ⟨z10, hz10⟩ : ∃ z, z = rdText 32 (z8.2) := ⟨_, rfl⟩
  have HT10 : Hid (z10.1.length ≤ 32) := Lib.hid (by rw [hz10]; exact rdText_le 32 _ (by omega))
  rw [← hz10] at HR11 HF ⊢
  clear hz10
  go_wp2_with (refine wpList_store_box (by rfl) 9 _ _ rfl rfl r 3 rfl _ #[.string ⟨z10.1.toArray⟩] rfl rfl HR11.out.box ⟨a.1, k.1, ⟨z8.1.toArray⟩, ⟨z10.1.toArray⟩, noneV, noneV, [], s.1, n.1⟩ none 0 none 0 none 0 none 0 none 0 (by simp) (by kernel_rfl) (by simp [Value.oneCell']) (by kernel_rfl) ?_; intro w12 HK12 HO12)
  have HR12 := Lib.hid (HR11.out.store HK12.out HO12.out.1 HO12.out.2 HR11.out.id HR11.out.doc HR11.out.dels HR11.out.cap HR11.out.nil HR11.out.len)
  clear HR11 HK12 HO12
  go_wp2_with fail
  refine (ehas_id (k.1 : Int) _).mono ?_
  rintro q u ⟨rfl, hw⟩
  replace hw := hw.symm
  subst hw
  rw [C3.out]
  go_wp2_with fail
  refine (ehas_doc (k.1 : Int) _).mono ?_
  rintro q u ⟨rfl, hw⟩
  replace hw := hw.symm
  subst hw
  rw [C4.out]
  go_wp2_with fail
  refine (ehas_dels (k.1 : Int) _).mono ?_
  rintro q u ⟨rfl, hw⟩
  replace hw := hw.symm
  subst hw
  rw [C5.out]
  go_wp2_with (first | (refine wpList_load_ent (by rfl) _ rfl r rfl _ _ HR12.out.box rfl ?_; simp only [acR, Act.put]) | (refine wpList_store_all (by rfl) _ _ rfl rfl w.heap.size rfl ⟨a.1, k.1, ⟨z8.1.toArray⟩, ⟨z10.1.toArray⟩, noneV, noneV, [], s.1, n.1⟩ none 0 none 0 none 0 none 0 none 0 rfl HR12.out.zero ?_; intro w90 HK90 HO90))
  refine bodyPost_ret (results_cell_e rfl _ _ w.heap.size _ _ _ rfl HK90.out rfl) rfl ?_
  rw [HF.out]
  obtain ⟨f1, f2, f3⟩ := HR12.out.fin HO90.out.1 HO90.out.2 (by have := HNUM.out; unfold Rng; simp only; omega) (by have := HNUM.out; unfold Rng; simp only; omega) (by have := HNUM.out; unfold Rng; simp only; omega) (by have := HNUM.out; unfold Rng; simp only; omega) (by have := HT8.out; simp [ByteArray.size]; omega) (by have := HT10.out; simp [ByteArray.size]; omega)
  exact ⟨_, rfl, f1, f2, f3⟩
end Go.Proofs.YtpcdngpppjdgcaaGreat

/- What was read of an entry is not too large to be asked about: plain. -/
namespace Go.Proofs.YtpcdngpppjdgcaaGreat
set_option linter.unusedVariables false
set_option linter.unusedSimpArgs false
set_option maxRecDepth 100000
def LenO (st : Option (List UInt8)) : Prop := ∀ l, st = some l → l.length ≤ 9223372036854775807
theorem LenO.step {α : Type} {f : Option (List UInt8) → α × Option (List UInt8)} {c : α → List UInt8} (h : RdI f c) {st : Option (List UInt8)} (hl : LenO st) : LenO (f st).2 := fun r hr => by
 obtain ⟨l, rfl, hc⟩ := h.back hr
 have h1 := hl l rfl
 have h2 := congrArg List.length (hc h1)
 rw [List.length_append] at h2
 omega
theorem readO_sz {st : Option (List UInt8)} (hl : LenO st) : sizeT (readO st).1 ≤ 9223372036854775807 := by
 rcases st with _ | l
 ·decide
 ·rw [readO_some]
  cases hr : readS l with
  | none => decide
  | some p =>
   obtain ⟨t, r⟩ := p
   obtain ⟨hw, -⟩ := readS_some hr (hl l rfl)
   have : sizeT t ≤ 4096 := hw.size
   show sizeT t ≤ _
   omega
theorem rdPath_len {st : Option (List UInt8)} (hl : LenO st) : LenO (rdPathO st).2 := fun r hr => by
 rcases st with _ | l
 ·rw [rdPath_nn] at hr; cases hr
 ·have h1 := rdPath_inv (l := l) (r := r) (p := (rdPathO (some l)).1) (Prod.ext rfl hr)
  have h2 := congrArg List.length h1
  have h3 := hl l rfl
  rw [List.length_append] at h2
  omega
theorem rdD_sz {st : Option (List UInt8)} (hl : LenO st) : sizeT (rdD st).1.val ≤ 9223372036854775807 ∧ LenO (rdD st).2 := by
 have h1 := hl.step rdi_byte
 have h2 := rdPath_len h1
 unfold rdD
 split
 ·exact ⟨readO_sz h2, h2.step rdi_val⟩
 split
 ·exact ⟨by show sizeT noneV ≤ _; decide, h2.step (rdi_count (m := 999) (by omega))⟩
 ·exact ⟨by show sizeT noneV ≤ _; decide, h2⟩
theorem rdDK_sz {st : Option (List UInt8)} (hl : LenO st) : ∀ k, SmallZD (rdDK st k).1 ∧ LenO (rdDK st k).2
 | 0 => ⟨fun d hd => absurd hd (by simp [rdDK]), hl⟩
 | k + 1 => by
  obtain ⟨h1, h2⟩ := rdDK_sz hl k
  obtain ⟨h3, h4⟩ := rdD_sz h2
  refine ⟨fun d hd => ?_, h4⟩
  simp only [rdDK, List.mem_append, List.mem_singleton] at hd
  rcases hd with hd | rfl
  ·exact h1 d hd
  ·exact h3
theorem rdDl_sz {st : Option (List UInt8)} (hl : LenO st) : SmallD (rdDl st).1 ∧ SmallZD (rdDl st).1 := by
 have h1 := hl.step (rdi_count (m := 64) (by omega))
 have h2 := rdDK_sz h1 (rdCount 64 st).1
 have h3 := rdDK_small (rdCount 64 st).2 (rdCount 64 st).1
 unfold rdDl
 split
 ·exact ⟨fun d hd => absurd hd (by simp), fun d hd => absurd hd (by simp)⟩
 ·split
  ·exact ⟨h3, h2.1⟩
  ·exact ⟨fun d hd => absurd hd (by simp), fun d hd => absurd hd (by simp)⟩
theorem opt_sz {b : Bool} {st : Option (List UInt8)} (hl : LenO st) : sizeT (optR b noneV readO st).1 ≤ 9223372036854775807 ∧ depthT (optR b noneV readO st).1 ≤ 8 := by
 unfold optR
 cases b with
 | true => exact ⟨readO_sz hl, readO_deep st⟩
 | false => exact ⟨by show sizeT noneV ≤ _; decide, by show depthT noneV ≤ 8; decide⟩
theorem sm_read {st : Option (List UInt8)} (hl : LenO st) : SmE (rdE1 st).1 := by
 have h1 := hl.step (rdi_count (m := 1099511627776) (by omega))
 have h2 := h1.step rdi_byte
 have h3 := h2.step (rdi_count (m := 255) (by omega))
 have h4 := h3.step (rdi_count (m := 1099511627776) (by omega))
 have h5 := h4.step (rdi_opt (b := hasColl (rdByte (rdCount 1099511627776 st).2).1) (z := ⟨#[]⟩) rdi_text)
 have h6 := h5.step (rdi_opt (b := hasTo (rdByte (rdCount 1099511627776 st).2).1) (z := ⟨#[]⟩) rdi_text)
 have h7 := h6.step (rdi_opt (b := hasId (rdByte (rdCount 1099511627776 st).2).1) (z := noneV) rdi_val)
 have h8 := h7.step (rdi_opt (b := hasDoc (rdByte (rdCount 1099511627776 st).2).1) (z := noneV) rdi_val)
 refine ⟨?_, ?_, ?_, ?_, fun _ => ?_⟩
 ·exact Nat.le_trans (opt_sz (b := hasId (rdByte (rdCount 1099511627776 st).2).1) h6).2 (by omega)
 ·exact Nat.le_trans (opt_sz (b := hasDoc (rdByte (rdCount 1099511627776 st).2).1) h7).2 (by omega)
 ·exact (opt_sz (b := hasId (rdByte (rdCount 1099511627776 st).2).1) h6).1
 ·exact (opt_sz (b := hasDoc (rdByte (rdCount 1099511627776 st).2).1) h7).1
 ·show SmallD (optR (hasDels (rdByte (rdCount 1099511627776 st).2).1) [] rdDl _).1 ∧ SmallZD (optR (hasDels (rdByte (rdCount 1099511627776 st).2).1) [] rdDl _).1
  unfold optR
  split
  ·exact rdDl_sz h8
  ·exact ⟨fun d hd => absurd hd (by simp), fun d hd => absurd hd (by simp)⟩
theorem SrcL.len {w : Go.World} {g : Nat} {st : Option (List UInt8)} (h : SrcL w g st) : LenO st := fun l hl => by subst hl; exact h.2
end Go.Proofs.YtpcdngpppjdgcaaGreat

/- The entry that comes next, by the program; the code of an entry that may be. -/
namespace Go.Proofs.YtpcdngpppjdgcaaGreat
open Lib (hid)
set_option linter.unusedVariables false
set_option linter.unusedSimpArgs false
open Go.RowKit
set_option maxRecDepth 100000
theorem emptyE_at (w : World) (S : Nat → Prop) : EntL w S emptyE #[.int .i64 0, .int .i64 0, .string ⟨#[]⟩, .string ⟨#[]⟩, .int .i64 0, .int .i64 0, .string ⟨#[]⟩, .slice none 0 0, .slice none 0 0, .int .i64 0, .int .i64 0, .string ⟨#[]⟩, .slice none 0 0, .slice none 0 0, .slice none 0 0, .int .i64 0, .int .i64 0] :=
 ⟨none, 0, none, 0, none, 0, none, 0, none, 0, rfl, leaf_lv _ _ _ _ _ (by unfold Rng; omega) (by unfold Rng; omega) (by decide), leaf_lv _ _ _ _ _ (by unfold Rng; omega) (by unfold Rng; omega) (by decide), nil_dels _ _, by show 0 ≤ 0; omega, fun _ => rfl, by show 0 ≤ _; omega, by unfold Rng emptyE; simp only; omega, by unfold Rng emptyE; simp only; omega, by unfold Rng emptyE; simp only; omega, by unfold Rng emptyE; simp only; omega, by show (⟨#[]⟩ : ByteArray).size ≤ _; decide, by show (⟨#[]⟩ : ByteArray).size ≤ _; decide⟩
def pickE (E : EntT) : Option (List UInt8) → EntT × Option (List UInt8)
 | none => (emptyE, none)
 | some r => if mayE E = true then (E, some r) else (emptyE, none)
theorem rdE_pick (st : Option (List UInt8)) : rdE st = pickE (rdE1 st).1 (rdE1 st).2 := rfl
def ReadER (g : Nat) (st : Option (List UInt8)) (w : World) (q : Ending) (w' : World) : Prop := ∃ cs, q = .returned (.agg cs) ∧ EntL w' (NewB w.heap.size w') (rdE st).1 cs ∧ SrcL w' g (rdE st).2 ∧ Only w w' g
theorem only_near {a b c : World} {g p : Nat} (h : Only a b g) (k : Only b c p) (hp : a.heap.size ≤ p) : Only a c g := ⟨k.os.trans h.os, k.tape.trans h.tape, k.output.trans h.output, Nat.le_trans h.size k.size, fun b' hb hne => (k.block b' (Nat.lt_of_lt_of_le hb h.size) (by intro e; injection e; omega)).trans (h.block b' hb hne)⟩
set_option maxHeartbeats 16000000 in
theorem eread_any (g : Nat) (st : Option (List UInt8)) (w : World) (hs : SrcL w g st) : Calls Tryz.prog 25 #[.pointer (some ⟨g, 0, none⟩)] w (ReadER g st w) := by
 have HSM := hid (sm_read hs.len)
 obtain ⟨w0, hw0⟩ : ∃ W, W = w.alloc (.cells #[.int .i64 0, .int .i64 0, .string ⟨#[]⟩, .string ⟨#[]⟩, .int .i64 0, .int .i64 0, .string ⟨#[]⟩, .slice none 0 0, .slice none 0 0, .int .i64 0, .int .i64 0, .string ⟨#[]⟩, .slice none 0 0, .slice none 0 0, .slice none 0 0, .int .i64 0, .int .i64 0] 28) := ⟨_, rfl⟩
 have hz0 : w0.heap[w.heap.size]? = some (.cells #[.int .i64 0, .int .i64 0, .string ⟨#[]⟩, .string ⟨#[]⟩, .int .i64 0, .int .i64 0, .string ⟨#[]⟩, .slice none 0 0, .slice none 0 0, .int .i64 0, .int .i64 0, .string ⟨#[]⟩, .slice none 0 0, .slice none 0 0, .slice none 0 0, .int .i64 0, .int .i64 0] 28 (0, 0)) := by rw [hw0]; exact heap_alloc_new w _
 have hs0 : SrcL w0 g st := by rw [hw0]; exact hs.alloc _
 have ho0 : Only w w0 g := by rw [hw0]; exact (Only.refl w g).alloc _
 have hsz0 : w0.heap.size = w.heap.size + 1 := by rw [hw0]; simp
 have HC := hid (eread1_any g st w0 hs0)
 have HZ0 := hid hz0
 have HO0 := hid ho0
 have HSZ := hid hsz0
 have HG := hid hs.lt
 obtain ⟨E, hE⟩ : ∃ E, E = (rdE1 st).1 := ⟨_, rfl⟩
 obtain ⟨st2, hst2⟩ : ∃ s, s = (rdE1 st).2 := ⟨_, rfl⟩
 have HDEF : Hid (rdE st = pickE E st2) := hid (by rw [hE, hst2]; exact rdE_pick st)
 rw [← hE, ← hst2] at HC
 rw [← hE] at HSM
 clear hs hz0 hs0 ho0 hsz0 hE hst2
 go_enter Tryz.func25, Tryz.ntmps25
 go_wp2_with fail
 rw [← hw0]
 clear hw0
 refine HC.out.mono ?_
 rintro q w1 ⟨cs, rfl, he, hs1, ho1⟩
 obtain ⟨IA, ic, IA', ic', DA, dc, DA', dc', LA, lc, rfl, hat⟩ := he.at
 obtain ⟨w2, hw2⟩ : ∃ W, W = w1.alloc (.cells #[.int .i64 E.term, .int .i64 E.kind, .string E.coll, .string E.to, .int .i64 E.id.kind, .int .i64 E.id.num, .string E.id.text, .slice IA E.id.items.length ic, .slice IA' E.id.names.length ic', .int .i64 E.doc.kind, .int .i64 E.doc.num, .string E.doc.text, .slice DA E.doc.items.length dc, .slice DA' E.doc.names.length dc', .slice LA E.dels.length lc, .int .i64 E.session, .int .i64 E.number] 28) := ⟨_, rfl⟩
 have hb2 : Below w1.heap.size w1 w2 := by rw [hw2]; exact below_box _
 have HK2 : Hid (EBox w2 w1.heap.size E IA ic IA' ic' DA dc DA' dc' LA lc) := hid (by rw [hw2]; exact heap_alloc_new w1 _)
 have hgl := HG.out
 have hsz := ho1.size
 have hss := HSZ.out
 have hsz2 : w2.heap.size = w1.heap.size + 1 := by rw [hw2]; simp
 have HX2 : Hid (EntAt w2 (fun b => w.heap.size + 1 ≤ b ∧ b < w1.heap.size) E IA ic IA' ic' DA dc DA' dc' LA lc ∧ SrcL w2 g st2 ∧ Only w w2 g ∧ w2.heap[w.heap.size]? = some (.cells #[.int .i64 0, .int .i64 0, .string ⟨#[]⟩, .string ⟨#[]⟩, .int .i64 0, .int .i64 0, .string ⟨#[]⟩, .slice none 0 0, .slice none 0 0, .int .i64 0, .int .i64 0, .string ⟨#[]⟩, .slice none 0 0, .slice none 0 0, .slice none 0 0, .int .i64 0, .int .i64 0] 28 (0, 0)) ∧ w.heap.size + 1 ≤ w1.heap.size ∧ w2.heap.size = w1.heap.size + 1) := hid
  ⟨(hat.imp fun b hb => ⟨by have := hb.1; omega, hb.2⟩).keep fun b hb => hb2.block b hb.2, hs1.of (hb2.block g (by omega)), only_near (HO0.out.trans ho1) (Only.ofBelow (g := w1.heap.size) hb2) (by omega), (hb2.block _ (by omega)).trans (only_at ho1 HZ0.out (by omega)), by omega, hsz2⟩
 have HB := hid (fun W h => sbad_any g st2 W h)
 clear he hs1 ho1 hat hb2 hgl hsz hss hsz2 HC HZ0 HO0
 go_wp2_with fail
 rw [← hw2]
 clear hw2
 refine (HB.out _ HX2.out.2.1).mono ?_
 rintro q u ⟨rfl, hw⟩
 subst hw
 clear HB
 cases st2 with
 | none =>
  have HF : Hid (rdE st = (emptyE, none)) := hid HDEF.out
  go_wp2_with fail
  refine (cspoil_st g none _ HX2.out.2.1).mono ?_
  rintro q w5 ⟨rfl, hs5, ho5⟩
  have HX5 : Hid (SrcL w5 g none ∧ Only w w5 g ∧ w5.heap[w.heap.size]? = some (.cells #[.int .i64 0, .int .i64 0, .string ⟨#[]⟩, .string ⟨#[]⟩, .int .i64 0, .int .i64 0, .string ⟨#[]⟩, .slice none 0 0, .slice none 0 0, .int .i64 0, .int .i64 0, .string ⟨#[]⟩, .slice none 0 0, .slice none 0 0, .slice none 0 0, .int .i64 0, .int .i64 0] 28 (0, 0))) := hid ⟨hs5, HX2.out.2.2.1.trans ho5, only_at ho5 HX2.out.2.2.2.1 (by have := HG.out; omega)⟩
  clear hs5 ho5
  go_wp2_with (refine wpList_store_ent (by rfl) 28 _ _ rfl rfl w.heap.size 0 rfl _ #[.int .i64 0, .int .i64 0, .string ⟨#[]⟩, .string ⟨#[]⟩, .int .i64 0, .int .i64 0, .string ⟨#[]⟩, .slice none 0 0, .slice none 0 0, .int .i64 0, .int .i64 0, .string ⟨#[]⟩, .slice none 0 0, .slice none 0 0, .slice none 0 0, .int .i64 0, .int .i64 0] rfl rfl _ #[.int .i64 0, .int .i64 0, .string ⟨#[]⟩, .string ⟨#[]⟩, .int .i64 0, .int .i64 0, .string ⟨#[]⟩, .slice none 0 0, .slice none 0 0, .int .i64 0, .int .i64 0, .string ⟨#[]⟩, .slice none 0 0, .slice none 0 0, .slice none 0 0, .int .i64 0, .int .i64 0] 28 HX5.out.2.2 (by simp) (by kernel_rfl) (by simp [Value.oneCell']) (by kernel_rfl) ?_; intro w6 hk ho hz; have HK6 := hid hk; have HO6 := hid (And.intro ho hz); clear hk ho hz)
  refine bodyPost_ret (results_cell_e rfl _ _ w.heap.size _ _ _ rfl HK6.out rfl) rfl ?_
  unfold ReadER
  rw [HF.out]
  exact ⟨_, rfl, emptyE_at _ _, HX5.out.1.of (HO6.out.1.block g (by have := HX5.out.2.1.size; have := HG.out; omega) (by intro e; injection e; have := HG.out; omega)), only_near HX5.out.2.1 HO6.out.1 (Nat.le_refl _)⟩
 | some r =>
  have HM := hid (emay_any (fun b => w.heap.size + 1 ≤ b ∧ b < w1.heap.size) E _ w2 (fun b hb => by have := HX2.out.2.2.2.2.2; have := hb.2; omega) HX2.out.1.l HSM.out)
  go_wp2_with (refine wpList_load_ent (by rfl) _ rfl w1.heap.size rfl _ _ HK2.out rfl ?_; simp only [acR, Act.put])
  refine HM.out.mono ?_
  rintro q w3 ⟨rfl, hb⟩
  have HK3 := hid (HK2.out.below hb)
  have HX3 : Hid (EntAt w3 (fun b => w.heap.size + 1 ≤ b ∧ b < w1.heap.size) E IA ic IA' ic' DA dc DA' dc' LA lc ∧ SrcL w3 g (some r) ∧ Only w w3 g ∧ w3.heap[w.heap.size]? = some (.cells #[.int .i64 0, .int .i64 0, .string ⟨#[]⟩, .string ⟨#[]⟩, .int .i64 0, .int .i64 0, .string ⟨#[]⟩, .slice none 0 0, .slice none 0 0, .int .i64 0, .int .i64 0, .string ⟨#[]⟩, .slice none 0 0, .slice none 0 0, .slice none 0 0, .int .i64 0, .int .i64 0] 28 (0, 0)) ∧ w1.heap.size ≤ w3.heap.size) := hid (by
   have h2 := HX2.out
   have hg := HG.out
   have hz := h2.2.2.2.2.1
   have hz2 := h2.2.2.2.2.2
   exact ⟨h2.1.keep fun b hb' => hb.block b (by have := hb'.2; omega), h2.2.1.of (hb.block g (by omega)), h2.2.2.1.trans (Only.ofBelow hb), (hb.block _ (by omega)).trans h2.2.2.2.1, by have := hb.size; omega⟩)
  clear hb HM
  cases hm : mayE E with
  | false =>
   have HF : Hid (rdE st = (emptyE, none)) := hid (by rw [HDEF.out]; unfold pickE; rw [hm]; rfl)
   go_wp2_with fail
   refine (cspoil_st g (some r) _ HX3.out.2.1).mono ?_
   rintro q w5 ⟨rfl, hs5, ho5⟩
   have HX5 : Hid (SrcL w5 g none ∧ Only w w5 g ∧ w5.heap[w.heap.size]? = some (.cells #[.int .i64 0, .int .i64 0, .string ⟨#[]⟩, .string ⟨#[]⟩, .int .i64 0, .int .i64 0, .string ⟨#[]⟩, .slice none 0 0, .slice none 0 0, .int .i64 0, .int .i64 0, .string ⟨#[]⟩, .slice none 0 0, .slice none 0 0, .slice none 0 0, .int .i64 0, .int .i64 0] 28 (0, 0))) := hid ⟨hs5, HX3.out.2.2.1.trans ho5, only_at ho5 HX3.out.2.2.2.1 (by have := HG.out; omega)⟩
   clear hs5 ho5
   go_wp2_with (refine wpList_store_ent (by rfl) 28 _ _ rfl rfl w.heap.size 0 rfl _ #[.int .i64 0, .int .i64 0, .string ⟨#[]⟩, .string ⟨#[]⟩, .int .i64 0, .int .i64 0, .string ⟨#[]⟩, .slice none 0 0, .slice none 0 0, .int .i64 0, .int .i64 0, .string ⟨#[]⟩, .slice none 0 0, .slice none 0 0, .slice none 0 0, .int .i64 0, .int .i64 0] rfl rfl _ #[.int .i64 0, .int .i64 0, .string ⟨#[]⟩, .string ⟨#[]⟩, .int .i64 0, .int .i64 0, .string ⟨#[]⟩, .slice none 0 0, .slice none 0 0, .int .i64 0, .int .i64 0, .string ⟨#[]⟩, .slice none 0 0, .slice none 0 0, .slice none 0 0, .int .i64 0, .int .i64 0] 28 HX5.out.2.2 (by simp) (by kernel_rfl) (by simp [Value.oneCell']) (by kernel_rfl) ?_; intro w6 hk ho hz; have HK6 := hid hk; have HO6 := hid (And.intro ho hz); clear hk ho hz)
   refine bodyPost_ret (results_cell_e rfl _ _ w.heap.size _ _ _ rfl HK6.out rfl) rfl ?_
   unfold ReadER
   rw [HF.out]
   exact ⟨_, rfl, emptyE_at _ _, HX5.out.1.of (HO6.out.1.block g (by have := HX5.out.2.1.size; have := HG.out; omega) (by intro e; injection e; have := HG.out; omega)), only_near HX5.out.2.1 HO6.out.1 (Nat.le_refl _)⟩
  | true =>
   have HF : Hid (rdE st = (E, some r)) := hid (by rw [HDEF.out]; show (if mayE E = true then (E, some r) else (emptyE, none)) = _; rw [if_pos hm])
   clear hm
   go_wp2_with (first | (refine wpList_load_ent (by rfl) _ rfl w1.heap.size rfl _ _ HK3.out rfl ?_; simp only [acR, Act.put]) | (refine wpList_store_ent (by rfl) 28 _ _ rfl rfl w.heap.size 0 rfl _ #[.int .i64 E.term, .int .i64 E.kind, .string E.coll, .string E.to, .int .i64 E.id.kind, .int .i64 E.id.num, .string E.id.text, .slice IA E.id.items.length ic, .slice IA' E.id.names.length ic', .int .i64 E.doc.kind, .int .i64 E.doc.num, .string E.doc.text, .slice DA E.doc.items.length dc, .slice DA' E.doc.names.length dc', .slice LA E.dels.length lc, .int .i64 E.session, .int .i64 E.number] rfl rfl _ #[.int .i64 E.term, .int .i64 E.kind, .string E.coll, .string E.to, .int .i64 E.id.kind, .int .i64 E.id.num, .string E.id.text, .slice IA E.id.items.length ic, .slice IA' E.id.names.length ic', .int .i64 E.doc.kind, .int .i64 E.doc.num, .string E.doc.text, .slice DA E.doc.items.length dc, .slice DA' E.doc.names.length dc', .slice LA E.dels.length lc, .int .i64 E.session, .int .i64 E.number] 28 HX3.out.2.2.2.1 (by simp) (by kernel_rfl) (by simp [Value.oneCell']) (by kernel_rfl) ?_; intro w6 hk ho hz; have HK6 := hid hk; have HO6 := hid (And.intro ho hz); clear hk ho hz))
   refine bodyPost_ret (results_cell_e rfl _ _ w.heap.size _ _ _ rfl HK6.out rfl) rfl ?_
   unfold ReadER
   rw [HF.out]
   have hz6 := HO6.out.2
   have hx := HX3.out
   exact ⟨_, rfl, ((hx.1.keep (only_keep HO6.out.1 fun b hb => ⟨by have := hb.2; have := hx.2.2.2.2; omega, by have := hb.1; omega⟩)).imp fun b hb => ⟨by have := hb.1; omega, by have := hb.2; have := hx.2.2.2.2; omega⟩).l, hx.2.1.of (HO6.out.1.block g (by have := hx.2.2.1.size; have := HG.out; omega) (by intro e; injection e; have := HG.out; omega)), only_near hx.2.2.1 HO6.out.1 (Nat.le_refl _)⟩
end Go.Proofs.YtpcdngpppjdgcaaGreat
