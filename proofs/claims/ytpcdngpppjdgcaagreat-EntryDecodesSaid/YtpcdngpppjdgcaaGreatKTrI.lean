/- A value copied is owned. -/
import Derived.Test.YtpcdngpppjdgcaaGreatKRdK
import Derived.Test.YtpcdngpppjdgcaaGreatKRegR
namespace Go.Proofs.YtpcdngpppjdgcaaGreat
open Lib (hid)
set_option linter.unusedVariables false
set_option linter.unusedSimpArgs false
open Go.RowKit
def Iv (m n : Nat) : Nat → Prop := fun b => m ≤ b ∧ b < n
def OVA (w : World) (F : Nat → Prop) (A : Option Addr) (c : Nat) (l : List VT) : Prop := ∃ xs, w.ownsRow 0 25 5 (.slice A l.length c) l.length xs ∧ (∀ a, A = some a → F a.block) ∧ OVs w (fun b => F b ∧ ∀ a, A = some a → a.block ≠ b) l xs
def ONS (w : World) (F : Nat → Prop) (A : Option Addr) (c : Nat) (ns : List ByteArray) : Prop := w.ownsRow 0 9 1 (.slice A ns.length c) ns.length (ns.map Value.string) ∧ (∀ a, A = some a → F a.block) ∧ ∀ s ∈ ns, s.size ≤ 140737488351232
theorem OVA.keep {w w' : World} {F : Nat → Prop} {A : Option Addr} {c : Nat} {l : List VT} (h : OVA w F A c l) (hk : ∀ b, F b → w'.heap[b]? = w.heap[b]?) : OVA w' F A c l := by
 obtain ⟨xs, h1, h2, h3⟩ := h
 exact ⟨xs, row_keep h1 fun a ha => hk _ (h2 a ha), h2, h3.keep fun b hb => hk b hb.1⟩
theorem OVA.imp {w : World} {F F' : Nat → Prop} {A : Option Addr} {c : Nat} {l : List VT} (h : OVA w F A c l) (hF : ∀ b, F b → F' b) : OVA w F' A c l := by
 obtain ⟨xs, h1, h2, h3⟩ := h
 exact ⟨xs, h1, fun a ha => hF _ (h2 a ha), h3.imp fun b hb => ⟨hF b hb.1, hb.2⟩⟩
theorem ONS.keep {w w' : World} {F : Nat → Prop} {A : Option Addr} {c : Nat} {l : List ByteArray} (h : ONS w F A c l) (hk : ∀ b, F b → w'.heap[b]? = w.heap[b]?) : ONS w' F A c l :=
 ⟨row_keep h.1 fun a ha => hk _ (h.2.1 a ha), h.2⟩
theorem ONS.imp {w : World} {F F' : Nat → Prop} {A : Option Addr} {c : Nat} {l : List ByteArray} (h : ONS w F A c l) (hF : ∀ b, F b → F' b) : ONS w F' A c l := ⟨h.1, fun a ha => hF _ (h.2.1 a ha), h.2.2⟩
theorem ova_nil (w : World) (F : Nat → Prop) : OVA w F none 0 [] := ⟨[], World.ownsRow_nil _ _ _ _, fun _ h => (by cases h), ovs_nil _ _⟩
theorem ons_nil (w : World) (F : Nat → Prop) : ONS w F none 0 [] := ⟨World.ownsRow_nil _ _ _ _, fun _ h => (by cases h), fun _ h => absurd h (by simp)⟩
theorem ons_of_row {w : World} {B : Nat} {v : Value} {ns : List ByteArray} (h : w.ownsRow B 9 1 v ns.length (ns.map Value.string)) (hs : ∀ s ∈ ns, s.size ≤ 140737488351232) : ∃ A c, v = .slice A ns.length c ∧ ONS w (Iv B w.heap.size) A c ns := by
 obtain ⟨h1, h2⟩ := h
 rcases h2 with ⟨rfl, h2⟩ | ⟨g, cap, cur, rfl, hg, hh, r⟩
 ·exact ⟨none, 0, by rw [h2], ⟨h1, .inl ⟨by rw [h2], h2⟩⟩, fun _ h => (by cases h), hs⟩
 ·exact ⟨_, _, rfl, ⟨h1, .inr ⟨g, cap, cur, rfl, Nat.zero_le _, hh, r⟩⟩, fun a ha => (by cases ha; exact ⟨hg, (Array.getElem?_eq_some_iff.1 hh).1⟩), hs⟩
set_option maxHeartbeats 400000 in
theorem copyNames_own (S : Nat → Prop) (A : Option Addr) (c : Nat) (ns : List ByteArray) (w : World) (h : StrsAt w S A ns) (hl : ns.length ≤ 8796093021952) :
  Calls Tryz.prog 93 #[.slice A ns.length c] w fun e w' => ∃ A' c', e = .returned (.slice A' ns.length c') ∧ ONS w' (Iv w.heap.size w'.heap.size) A' c' ns ∧ Below w.heap.size w w' := by
 rcases ns with _ | ⟨n0, r⟩
 ·go_enter Tryz.func93, Tryz.ntmps93
  go_wp2_with (at_builtin; go_must (refine wpList_append_nothing rfl _ _ rfl rfl A c rfl ?_))
  go_ret
  exact ⟨none, 0, rfl, ons_nil _ _, Below.refl _ _⟩
 ·obtain ⟨b, off, rfl, hb, hc⟩ := h (by simp)
  generalize hns : n0 :: r = ns at *
  obtain ⟨i0, hi, hz0, hz1, hz2⟩ := info_parts Tryz.infoStr
  have HL := hid hl
  have HC := hid hc
  clear hl hc h
  have hnw : ∀ j u, (ns.map Value.string)[j]? = some u → w.cell? ((⟨b, off, none⟩ : Addr).add j) = some u := by
   intro j u hj
   have hjl : j < ns.length := by have := (List.getElem?_eq_some_iff.1 hj).1; simpa using this
   rw [addr_at, (HC.out j hjl).1]
   simpa [List.getElem?_map, List.getElem?_eq_getElem hjl] using hj
  have HNW := hid hnw
  clear hnw
  go_enter Tryz.func93, Tryz.ntmps93
  go_wp2_with (at_builtin; go_must (refine wpList_append_own _ rfl _ _ 23 rfl w.heap.size 9 i0 (.string ⟨#[]⟩) 1 16 Tryz.underlying23 hi hz0 hz1 hz2 rfl (by decide) _ 0 [] rfl (World.ownsRow_nil _ _ _ _) ⟨b, off, none⟩ ns.length c (ns.map Value.string) rfl ?d0 HNW.out ?d1 ?d2 ?d3 ?d4 ?_))
  case d0 => simp
  case d1 => intro u hu; obtain ⟨_, _, rfl⟩ := List.mem_map.1 hu; rfl
  case d2 => have := HL.out; unfold maxLen; omega
  case d3 => have := HL.out; omega
  case d4 => exact Nat.le_refl _
  intro v' w' hown hg _
  obtain ⟨A', c', rfl, hst⟩ := ons_of_row hown (fun s hs => by obtain ⟨i, hi, rfl⟩ := List.mem_iff_getElem.1 hs; exact (HC.out i hi).2)
  have HST := hid hst
  have HB := hid (below_of_grown (B := w.heap.size) hg (Nat.le_refl _) (fun k hk => by cases hk))
  clear hown hg hst
  go_wp2_with fail
  go_ret
  exact ⟨_, _, rfl, HST.out, HB.out⟩
def PartO (w : World) (G : Nat) (l : List VT) (f : Nat → Value) (j : Nat) : Prop := ∃ Fs : Nat → Nat → Prop, (∀ i i' b, i ≠ i' → Fs i b → Fs i' b → False) ∧ (∀ i b, Fs i b → G < b ∧ b < w.heap.size) ∧
 ∀ i (h : i < l.length), i < j → OV w (Fs i) l[i] (.agg #[f (i * 5), f (i * 5 + 1), f (i * 5 + 2), f (i * 5 + 3), f (i * 5 + 4)])
theorem PartO.next {w w3 : World} {G j : Nat} {l : List VT} {f : Nat → Value} {v0 v1 v2 v3 v4 : Value} (h : PartO w G l f j) (hj : j < l.length) (hs : w.heap.size ≤ w3.heap.size) (hG : G < w.heap.size) (hb : ∀ b, b < w.heap.size → b ≠ G → w3.heap[b]? = w.heap[b]?)
  (hx : OV w3 (Iv w.heap.size w3.heap.size) l[j] (.agg #[v0, v1, v2, v3, v4])) : PartO (set5 w3 G (j * 5) v0 v1 v2 v3 v4) G l (put5 f (j * 5) v0 v1 v2 v3 v4) (j + 1) := by
 obtain ⟨Fs, k1, k2, k3⟩ := h
 refine ⟨fun i b => (i = j ∧ Iv w.heap.size w3.heap.size b) ∨ (i < j ∧ Fs i b), ?_, ?_, fun i hi hij => ?_⟩
 ·rintro i i' b hne (⟨h1, h2⟩ | ⟨h1, h2⟩) (⟨h3, h4⟩ | ⟨h3, h4⟩)
  ·omega
  ·have := (k2 _ _ h4).2; have := h2.1; omega
  ·have := (k2 _ _ h2).2; have := h4.1; omega
  ·exact k1 i i' b hne h2 h4
 ·rintro i b (⟨h1, h2⟩ | ⟨h1, h2⟩)
  ·have := h2.1; have := h2.2; rw [set5_size]; omega
  ·have := k2 _ _ h2; rw [set5_size]; omega
 ·have hkeep : ∀ {S : Nat → Prop} {t : VT} {v : Value}, (∀ b, S b → b ≠ G) → OV w3 S t v → OV (set5 w3 G (j * 5) v0 v1 v2 v3 v4) S t v := fun hS hv => hv.keep fun b hb => set5_block v0 v1 v2 v3 v4 (hS b hb)
  by_cases e : i = j
  ·subst e
   obtain ⟨e0, e1, e2, e3, e4⟩ := put5_new f (i * 5) v0 v1 v2 v3 v4
   rw [e0, e1, e2, e3, e4]
   exact (hkeep (fun b hb => by have := hb.1; omega) hx).imp fun b hb => .inl ⟨rfl, hb⟩
  ·rw [put5_old (by omega), put5_old (by omega), put5_old (by omega), put5_old (by omega), put5_old (by omega)]
   have h1 := k3 i hi (by omega)
   have h2 := h1.keep (w' := w3) fun b hb' => hb b (k2 _ _ hb').2 (by have := (k2 _ _ hb').1; omega)
   exact (hkeep (fun b hb => by have := (k2 _ _ hb).1; omega) h2).imp fun b hb => .inr ⟨by omega, hb⟩
theorem ova_of_part {w : World} {G : Nat} {l : List VT} {f : Nat → Value} (hr : w.rowIs G 25 (l.length * 5) f) (hp : PartO w G l f l.length) (hl : l.length ≤ 1759218604390) : OVA w (fun b => G ≤ b ∧ b < w.heap.size) (some ⟨G, 0, none⟩) l.length l := by
 obtain ⟨cur, hh, hsz, hc⟩ := hr
 obtain ⟨Fs, k1, k2, k3⟩ := hp
 have hG := (Array.getElem?_eq_some_iff.1 hh).1
 have hlen : cur.toList.length = l.length * 5 := by simpa using hsz
 refine ⟨cur.toList, ⟨hlen, .inr ⟨G, l.length, cur, rfl, Nat.zero_le _, hh, Nat.le_refl _, by unfold maxLen; omega, hsz, by rw [← hlen, List.take_length]⟩⟩, fun a ha => (by cases ha; exact ⟨Nat.le_refl _, hG⟩), ?_⟩
 refine OVs.of Fs hlen k1 (fun j b hb => ⟨⟨by have := (k2 _ _ hb).1; omega, (k2 _ _ hb).2⟩, fun a ha => (by cases ha; have := (k2 _ _ hb).1; show G ≠ b; omega)⟩) fun j hj => ?_
 have hcc : ∀ i, i < l.length * 5 → cur.toList[i]? = some (f i) := fun i hi => by rw [Array.getElem?_toList]; exact hc i hi
 exact ⟨_, _, _, _, _, hcc _ (by omega), hcc _ (by omega), hcc _ (by omega), hcc _ (by omega), hcc _ (by omega), k3 j hj hj⟩
def CloneO (n : Nat) : Prop := ∀ (S : Nat → Prop) (t : VT) (v : Value) (w : World), depthT t ≤ n → (∀ b, S b → b < w.heap.size) → LV w S t v →
 Calls Tryz.prog 55 #[v] w fun e w' => ∃ v', e = .returned v' ∧ OV w' (Iv w.heap.size w'.heap.size) t v' ∧ Below w.heap.size w w'
set_option maxHeartbeats 2000000 in
set_option maxRecDepth 100000 in
theorem all_own {n : Nat} (hcl : CloneO n) (S : Nat → Prop) (A : Option Addr) (c : Nat) (l : List VT) (w : World) (hd : depthL l ≤ n) (hS : ∀ b, S b → b < w.heap.size) (h : LVA w S A l) (hl : l.length ≤ 1759218604390) :
  Calls Tryz.prog 92 #[.slice A l.length c] w fun e w' => ∃ A' c', e = .returned (.slice A' l.length c') ∧ OVA w' (Iv w.heap.size w'.heap.size) A' c' l ∧ Below w.heap.size w w' := by
 by_cases hl0 : l.length = 0
 ·have hnil := List.eq_nil_of_length_eq_zero hl0
  subst hnil
  go_enter Tryz.func92, Tryz.ntmps92
  go_wp2_with fail
  go_ret
  exact ⟨none, 0, rfl, ova_nil _ _, Below.refl _ _⟩
 ·obtain ⟨b, off, rfl, hb, hls⟩ := h (by omega)
  obtain ⟨i0, hi, hz0, hz1, hz2⟩ := info_parts Tryz.infoVal
  have HL := hid hl
  have HLS := hid hls
  have hne : ((l.length : Int) == 0) = false := by simp; intro h; simp [h] at hl0
  have hlb : l.length ≤ 4611686018427387904 := by omega
  clear h hls hl
  go_enter Tryz.func92, Tryz.ntmps92
  go_wp2_with (at_make; go_must (refine wpList_make_full _ rfl _ _ 22 rfl w.heap.size 25 i0 _ 5 Tryz.underlying22 hi hz0 hz1 .i64 .i64 _ _ l.length rfl rfl rfl rfl ?b0 ?b1 ?b2 ?_))
  case b0 => have := HL.out; rw [hz2]; omega
  case b1 => have := HL.out; unfold maxLen; omega
  case b2 => exact Nat.le_refl _
  intro w1 hown hg
  obtain ⟨f0, hrow⟩ := row_of_made hown (v := .slice none 0 0)
  have hb1 : Below w.heap.size w w1 := below_of_grown hg (Nat.le_refl _) (fun k hk => by cases hk)
  have HROW := hid hrow
  have HB1 := hid hb1
  clear hown hg hrow hb1
  obtain ⟨G, hG⟩ : ∃ G, G = w.heap.size := ⟨_, rfl⟩
  rw [← hG] at HROW ⊢
  have HG := hid hG
  clear hG
  go_wp2_with fail
  have hGlt := HROW.out.lt
  go_loopw [14] (fun i wr => ∃ (j : Nat) (f : Nat → Value), i = .int .i64 j ∧ j ≤ l.length ∧ Hid (wr.rowIs G 25 (l.length * 5) f ∧ PartO wr G l f j ∧ Below w.heap.size w wr)) (fun i _ => l.length - (intOf i).toNat)
  case atStart => exact ⟨0, f0, rfl, Nat.zero_le _, HROW.out, ⟨fun _ _ => False, fun _ _ _ _ h _ => h, fun _ _ h => h.elim, fun i _ h => absurd h (by omega)⟩, HB1.out⟩
  case round =>
   obtain ⟨j, f, rfl, hj, HI⟩ := hrel
   by_cases hlt : j < l.length
   ·obtain ⟨c0, c1, c2, c3, c4, h0, h1, h2, h3, h4, hx⟩ := HLS.out.at j hlt
    obtain ⟨A2, e2, A3, e3, hag, -⟩ := hx.shape
    injection hag with hag; injection hag with hag
    injection hag with y0 hag; injection hag with y1 hag; injection hag with y2 hag; injection hag with y3 hag; injection hag with y4 hag
    subst y0 y1 y2 y3 y4
    have hw : ∀ o, wr.cell? ⟨b, o, none⟩ = w.cell? ⟨b, o, none⟩ := fun o => HI.out.2.2.cell (p := ⟨b, o, none⟩) (hS b hb)
    rw [← hw] at h0 h1 h2 h3 h4
    have hS1 := sub_below hS HI.out.2.2
    have hS2 : ∀ b, S b → b < (wr.alloc (.cells #[.int .i64 l[j].kind, .int .i64 l[j].num, .string l[j].text, .slice A2 l[j].items.length e2, .slice A3 l[j].names.length e3] 25)).heap.size := sub_alloc hS1 _
    have IH := hid (hcl S l[j] _ _ (Nat.le_trans (depthL_le (List.getElem_mem hlt)) hd) hS2 ((hx.below hS HI.out.2.2).alloc hS1 _))
    have hGr := HI.out.1.lt
    clear hx hw hS1 hS2
    go_wp2_with fail
    refine IH.out.mono ?_
    rintro e w3 ⟨v', rfl, hv, hb3⟩
    obtain ⟨A4, e4, A5, e5, xs4, rfl, -⟩ := hv.shape
    have hb3' : Below wr.heap.size wr w3 := toStart (below_box _) hb3
    have hrow3 : w3.rowIs G 25 (l.length * 5) f := HI.out.1.of_block (hb3'.block G hGr)
    have hpart := HI.out.2.1.next hlt hb3'.size hGr (fun b hb _ => hb3'.block b hb) (hv.imp fun b hb => ⟨Nat.le_trans (by simp) hb.1, hb.2⟩)
    have HF : Hid ((set5 w3 G (j * 5) (.int .i64 l[j].kind) (.int .i64 l[j].num) (.string l[j].text) (.slice A4 l[j].items.length e4) (.slice A5 l[j].names.length e5)).rowIs G 25 (l.length * 5) _ ∧ PartO _ G l _ (j + 1) ∧ Below w.heap.size w (set5 w3 G (j * 5) (.int .i64 l[j].kind) (.int .i64 l[j].num) (.string l[j].text) (.slice A4 l[j].items.length e4) (.slice A5 l[j].names.length e5))) :=
     hid ⟨row_set5 hrow3 _ _ _ _ _, hpart, set5_below _ _ _ _ _ (HI.out.2.2.trans (hb3'.mono HI.out.2.2.size)) (by have := HG.out; omega)⟩
    have m0 := hrow3.cell (i := j * 5) (by omega)
    have m1 := hrow3.cell (i := j * 5 + 1) (by omega)
    have m2 := hrow3.cell (i := j * 5 + 2) (by omega)
    have m3 := hrow3.cell (i := j * 5 + 3) (by omega)
    have m4 := hrow3.cell (i := j * 5 + 4) (by omega)
    have n0 := hrow3.frozen (j * 5)
    have n1 := hrow3.frozen (j * 5 + 1)
    have n2 := hrow3.frozen (j * 5 + 2)
    have n3 := hrow3.frozen (j * 5 + 3)
    have n4 := hrow3.frozen (j * 5 + 4)
    have hlb2 := HL.out
    clear hv hb3 hb3' hrow3 hpart IH h0 h1 h2 h3 h4
    go_wp2_with fail
    go_roundw
    case rel => exact ⟨j + 1, _, by go_num, by omega, HF.out⟩
    case measure => simp [intOf]; omega
   ·go_wp2_with fail
    go_ret
    obtain rfl : j = l.length := by omega
    exact ⟨some ⟨G, 0, none⟩, l.length, rfl, (ova_of_part HI.out.1 HI.out.2.1 HL.out).imp fun b hb => ⟨by have := hb.1; have := HG.out; omega, hb.2⟩, HI.out.2.2⟩
set_option maxHeartbeats 1000000 in
set_option maxRecDepth 100000 in
theorem own_of_all {n : Nat} (hcl : CloneO n) : CloneO (n + 1) := by
 intro S t v w hd hS h
 have HLEN := hid h.lens
 obtain ⟨A, c, A', c', rfl, k1, k2, k3, k4, k5, k6, k7⟩ := h.shape
 clear h
 cases t with
 | mk k i s l ns =>
 simp only [VT.kind, VT.num, VT.text, VT.items, VT.names] at *
 have HK := hid (And.intro k1 (And.intro k2 k3))
 have hdl : depthL l ≤ n := by rw [depthT_mk] at hd; omega
 have hb0 : Below w.heap.size w ((w.alloc (.cells #[.int .i64 k, .int .i64 i, .string s, .slice A l.length c, .slice A' ns.length c'] 25)).alloc (.cells #[.int .i64 0, .int .i64 0, .string ⟨#[]⟩, .slice none 0 0, .slice none 0 0] 25)) := (below_box _).alloc (by simp) _
 have hX : Box ((w.alloc (.cells #[.int .i64 k, .int .i64 i, .string s, .slice A l.length c, .slice A' ns.length c'] 25)).alloc (.cells #[.int .i64 0, .int .i64 0, .string ⟨#[]⟩, .slice none 0 0, .slice none 0 0] 25)) w.heap.size (.int .i64 k) (.int .i64 i) (.string s) (.slice A l.length c) (.slice A' ns.length c') := (Box.new _ _ _ _ _).alloc _
 have hY : Box ((w.alloc (.cells #[.int .i64 k, .int .i64 i, .string s, .slice A l.length c, .slice A' ns.length c'] 25)).alloc (.cells #[.int .i64 0, .int .i64 0, .string ⟨#[]⟩, .slice none 0 0, .slice none 0 0] 25)) (w.heap.size + 1) (.int .i64 0) (.int .i64 0) (.string ⟨#[]⟩) (.slice none 0 0) (.slice none 0 0) := by
  have := Box.new (w := (w.alloc (.cells #[.int .i64 k, .int .i64 i, .string s, .slice A l.length c, .slice A' ns.length c'] 25))) (.int .i64 0) (.int .i64 0) (.string ⟨#[]⟩) (.slice none 0 0) (.slice none 0 0)
  simpa using this
 have HA := hid (all_own hcl S A c l _ hdl (sub_below hS hb0) (k7.keep fun b hb => hb0.block b (hS b hb)) HLEN.out.1)
 have K6 := hid k6
 have HB0 := hid hb0
 have HX := hid hX
 have HY := hid hY
 clear k1 k2 k3 k4 k5 k6 k7 hb0 hX hY
 go_enter Tryz.func55, Tryz.ntmps55
 go_wp2_with fail
 refine HA.out.mono ?_
 rintro e w1 ⟨A2, c2, rfl, hla, hb1⟩
 have hx := HX.out.call hb1
 have HX1 := hid hx
 have HY1 := hid (HY.out.call hb1)
 have HB1 := hid (toStart HB0.out hb1)
 have HLA := hid hla
 have x3 := hx.c3
 have x4 := hx.c4
 have xf := hx.free 3
 clear hx hla hb1 HA HX HY
 go_wp2_with fail
 obtain ⟨h, hh⟩ : ∃ h, h = w.heap.size := ⟨_, rfl⟩
 rw [← hh] at HX1 HY1 x3 x4 xf ⊢
 have HH := hid hh
 clear hh
 obtain ⟨W1, hW1⟩ : ∃ W1 : World, W1 = w1.setCell ⟨h, 3, none⟩ (.slice A2 l.length c2) := ⟨_, rfl⟩
 rw [← hW1]
 have sz1 : W1.heap.size = w1.heap.size := by rw [hW1]; simp [World.setCell]
 have bk1 : ∀ b, b ≠ h → W1.heap[b]? = w1.heap[b]? := fun b hb => by rw [hW1]; exact Below.heap_setCell _ _ _ _ hb
 have BX1 := HX1.out.set3 (.slice A2 l.length c2)
 rw [← hW1] at BX1
 have BY1 := HY1.out.far (p := ⟨h, 3, none⟩) (by simp) (.slice A2 l.length c2)
 rw [← hW1] at BY1
 have bw1 : Below w.heap.size w W1 := by rw [hW1]; exact HB1.out.setCell (by have := HH.out; simp; omega) _
 have hw1s : h + 1 < w1.heap.size := HY1.out.lt
 have hz1 : h + 2 ≤ W1.heap.size := by rw [sz1]; omega
 have hla1 : OVA W1 (Iv (h + 2) W1.heap.size) A2 c2 l := by
  have e := HH.out
  refine (OVA.keep (w' := W1) HLA.out (fun b hb => bk1 b (by have := hb.1; simp at this; omega))).imp fun b hb => ⟨by have := hb.1; simp at this; omega, by rw [sz1]; exact hb.2⟩
 have HN := hid (copyNames_own S A' c' ns W1 (K6.out.keep fun b hb => bw1.block b (hS b hb)) HLEN.out.2)
 have BX1 := hid BX1
 have BY1 := hid BY1
 have HBW1 := hid bw1
 have HLA1 := hid hla1
 clear hW1 sz1 bk1 bw1 hla1 HX1 HY1 HB1 HLA x3 x4 xf K6 HB0 hw1s
 refine HN.out.mono ?_
 rintro e w2 ⟨A3, c3, rfl, hst, hb2⟩
 have BX2 := hid (BX1.out.call hb2)
 have BY2 := hid (BY1.out.call hb2)
 have HBW2 := hid (toStart HBW1.out hb2)
 have hla2 : OVA w2 (Iv (h + 2) W1.heap.size) A2 c2 l := OVA.keep (w' := w2) HLA1.out (fun b hb => hb2.block b hb.2)
 have hst2 : ONS w2 (Iv W1.heap.size w2.heap.size) A3 c3 ns := hst
 have HLA2 := hid hla2
 have HST2 := hid hst2
 have y0 := BX2.out.c0
 have y1 := BX2.out.c1
 have y2 := BX2.out.c2
 have y3 := BX2.out.c3
 have y4 := BX2.out.c4
 have yf := BX2.out.free 4
 have z0 := BY2.out.c0
 have z1 := BY2.out.c1
 have z2 := BY2.out.c2
 have z3 := BY2.out.c3
 have z4 := BY2.out.c4
 have zf0 := BY2.out.free 0
 have zf1 := BY2.out.free 1
 have zf2 := BY2.out.free 2
 have zf3 := BY2.out.free 3
 have zf4 := BY2.out.free 4
 obtain ⟨W2, hW2⟩ : ∃ W2 : World, W2 = w2.setCell ⟨h, 4, none⟩ (.slice A3 ns.length c3) := ⟨_, rfl⟩
 have BX3 := BX2.out.set4 (.slice A3 ns.length c3)
 rw [← hW2] at BX3
 have BY3 := BY2.out.far (p := ⟨h, 4, none⟩) (by simp) (.slice A3 ns.length c3)
 rw [← hW2] at BY3
 have HBW3 : Hid (Below w.heap.size w W2) := hid (by rw [hW2]; exact HBW2.out.setCell (by have := HH.out; simp; omega) _)
 have sz2 : W2.heap.size = w2.heap.size := by rw [hW2]; simp [World.setCell]
 have bk2 : ∀ b, b ≠ h → W2.heap[b]? = w2.heap[b]? := fun b hb => by rw [hW2]; exact Below.heap_setCell _ _ _ _ hb
 have HLA3 : Hid (OVA W2 (Iv (h + 2) W1.heap.size) A2 c2 l) := hid (OVA.keep (w' := W2) HLA2.out (fun b hb => bk2 b (by have := hb.1; omega)))
 have HST3 : Hid (ONS W2 (Iv W1.heap.size W2.heap.size) A3 c3 ns) := hid ((ONS.keep (w' := W2) HST2.out (fun b hb => bk2 b (by have := hb.1; omega))).imp fun b hb => ⟨hb.1, by rw [sz2]; exact hb.2⟩)
 have hz2 : W1.heap.size ≤ W2.heap.size := by rw [sz2]; exact hb2.size
 have BX3 := hid BX3
 have BY3 := hid BY3
 have EW := hid hW2
 clear hst hb2 hla2 hst2 BX1 BY1 HBW1 HLA1 BX2 BY2 HBW2 HLA2 HST2 hW2 sz2 bk2 HN
 clear hcl hd hdl
 go_wp2_with fail
 rw [← EW.out]
 (try simp only [Exit.inBlock, Exit.then])
 have FIN := ((((BY3.out.set0 (.int .i64 k)).set1 (.int .i64 i)).set2 (.string s)).set3 (.slice A2 l.length c2)).set4 (.slice A3 ns.length c3)
 have hk : ∀ b, h + 2 ≤ b → (set5 W2 (h + 1) 0 (.int .i64 k) (.int .i64 i) (.string s) (.slice A2 l.length c2) (.slice A3 ns.length c3)).heap[b]? = W2.heap[b]? := fun b hb => set5_block _ _ _ _ _ (by omega)
 have hla := OVA.keep HLA3.out fun b hb => hk b hb.1
 have hst := ONS.keep HST3.out fun b hb => hk b (by have := hb.1; omega)
 have hbw := set5_below (p := 0) (.int .i64 k) (.int .i64 i) (.string s) (.slice A2 l.length c2) (.slice A3 ns.length c3) HBW3.out (G := h + 1) (by have := HH.out; omega)
 refine bodyPost_ret (results_cell_row rfl _ _ (h + 1) 25 _ (0, 0) _ rfl FIN Tryz.underlying25 rfl (by kernel_rfl)) rfl ?_
 obtain ⟨xs, y1, y2, y3⟩ := hla
 have hh := HH.out
 have hsz := Nat.le_of_eq (set5_size W2 (h + 1) 0 (.int .i64 k) (.int .i64 i) (.string s) (.slice A2 l.length c2) (.slice A3 ns.length c3)).symm
 refine ⟨_, rfl, OV.mk HK.out.1 HK.out.2.1 HK.out.2.2 HLEN.out.1 HLEN.out.2 hst.2.2 hst.1 y1 (fun a ha => ?_) (fun a ha => ?_) (fun a a' ha ha' => ?_) (y3.imp fun b hb => ?_), hbw⟩
 ·have := hst.2.1 a ha
  exact ⟨by have := this.1; omega, Nat.lt_of_lt_of_le this.2 hsz⟩
 ·have := y2 a ha
  exact ⟨by have := this.1; omega, Nat.lt_of_lt_of_le (Nat.lt_of_lt_of_le this.2 hz2) hsz⟩
 ·have k1 := (y2 a ha).2
  have k2 := (hst.2.1 a' ha').1
  omega
 ·have k1 := hb.1.1
  have k2 := hb.1.2
  exact ⟨⟨by omega, Nat.lt_of_lt_of_le (Nat.lt_of_lt_of_le k2 hz2) hsz⟩, hb.2, fun a ha => by have := (hst.2.1 a ha).1; omega⟩

theorem own_ok : ∀ n, CloneO n
 | 0 => fun S t v w hd _ _ => by cases t; rw [depthT_mk] at hd; omega
 | n + 1 => own_of_all (own_ok n)
theorem clone_own (S : Nat → Prop) (t : VT) (v : Value) (w : World) (hS : ∀ b, S b → b < w.heap.size) (h : LV w S t v) :
  Calls Tryz.prog 55 #[v] w fun e w' => ∃ v', e = .returned v' ∧ OV w' (Iv w.heap.size w'.heap.size) t v' ∧ Below w.heap.size w w' := own_ok (depthT t) S t v w (Nat.le_refl _) hS h
set_option maxRecDepth 100000
def RowD (T : Nat → Prop) (W : World) (g : Nat) (l : List DelT) : Prop := ∃ cur : Array Value, W.heap[g]? = some (.cells cur 95 (0, 0)) ∧ ∀ i (h : i < l.length), ∃ c : Array Value, (∀ j v, c[j]? = some v → cur[i * 8 + j]? = some v) ∧ DelL W (fun b => b < W.heap.size ∧ b ≠ g ∧ T b) l[i] c
theorem RowD.lt {T : Nat → Prop} {W : World} {g : Nat} {l : List DelT} (h : RowD T W g l) : g < W.heap.size := by
 obtain ⟨cur, h1, -⟩ := h
 exact (Array.getElem?_eq_some_iff.1 h1).1
theorem RowD.call {T : Nat → Prop} {W W' : World} {g : Nat} {l : List DelT} (h : RowD T W g l) (hb : Below W.heap.size W W') : RowD T W' g l := by
 have hg := h.lt
 obtain ⟨cur, h1, h2⟩ := h
 refine ⟨cur, (hb.block g hg).trans h1, fun i hi => ?_⟩
 obtain ⟨c, h3, h4⟩ := h2 i hi
 exact ⟨c, h3, (h4.keep fun b hb' => hb.block b hb'.1).imp fun b hb' => ⟨Nat.lt_of_lt_of_le hb'.1 hb.size, hb'.2⟩⟩
theorem RowD.free {T : Nat → Prop} {W : World} {g : Nat} {l : List DelT} (h : RowD T W g l) (i : Nat) : W.frozen? ⟨g, i, none⟩ = false := by
 obtain ⟨cur, h1, -⟩ := h
 exact Go.Joins.unfrozen_of_block h1 i
theorem RowD.cell {T : Nat → Prop} {W : World} {g : Nat} {l : List DelT} (h : RowD T W g l) (i : Nat) (hi : i < l.length) (j : Nat) (hj : j < 8) : ∃ v, W.cell? ⟨g, i * 8 + j, none⟩ = some v := by
 obtain ⟨cur, h1, h2⟩ := h
 obtain ⟨c, h3, h4⟩ := h2 i hi
 have h8 := h4.size
 have hcj : c[j]? = some c[j] := Array.getElem?_eq_getElem (by omega)
 refine ⟨c[j], ?_⟩
 rw [Go.Joins.cell_of_block h1 (i * 8 + j)]
 exact h3 j _ hcj
theorem RowD.rows {T : Nat → Prop} {W : World} {g : Nat} {l : List DelT} (h : RowD T W g l) : DelsL W (fun b => b < W.heap.size ∧ (T b ∨ b = g)) (some ⟨g, 0, none⟩) l := fun hp => by
 have hg := h.lt
 obtain ⟨cur, h1, h2⟩ := h
 refine ⟨g, 0, rfl, ⟨hg, .inr rfl⟩, fun i hi => ?_⟩
 obtain ⟨c, h3, h4⟩ := h2 i hi
 refine ⟨c, fun j v hv => ?_, h4.imp fun b hb => ⟨hb.1, .inl hb.2.2⟩⟩
 rw [Nat.zero_add, Go.Joins.cell_of_block h1 (i * 8 + j)]
 exact h3 j v hv
theorem RowD.store {T : Nat → Prop} {W W' : World} {g k : Nat} {l : List DelT} {cur' : Array Value} (h : RowD T W g l) (hk : ∀ b, b < W.heap.size → b ≠ g → W'.heap[b]? = W.heap[b]?) (hz : W'.heap.size = W.heap.size)
  (hat : ∀ cur, W.heap[g]? = some (.cells cur 95 (0, 0)) → W'.heap[g]? = some (.cells cur' 95 (0, 0)) ∧ (∀ j, (j < k * 8 ∨ k * 8 + 8 ≤ j) → cur'[j]? = cur[j]?)
   ∧ ∀ c : Array Value, (∀ j v, c[j]? = some v → cur[k * 8 + j]? = some v) → (hkl : k < l.length) → DelL W (fun b => b < W.heap.size ∧ b ≠ g ∧ T b) l[k] c → ∃ c' : Array Value, (∀ j v, c'[j]? = some v → cur'[k * 8 + j]? = some v) ∧ DelL W (fun b => b < W.heap.size ∧ b ≠ g ∧ T b) l[k] c') : RowD T W' g l := by
 obtain ⟨cur, h1, h2⟩ := h
 obtain ⟨a1, a2, a3⟩ := hat cur h1
 have kp : ∀ d c, DelL W (fun b => b < W.heap.size ∧ b ≠ g ∧ T b) d c → DelL W' (fun b => b < W'.heap.size ∧ b ≠ g ∧ T b) d c := fun d c h => (h.keep fun b hb => hk b hb.1 hb.2.1).imp fun b hb => ⟨by rw [hz]; exact hb.1, hb.2⟩
 refine ⟨cur', a1, fun i hi => ?_⟩
 obtain ⟨c, h3, h4⟩ := h2 i hi
 by_cases hik : i = k
 ·subst hik
  obtain ⟨c', h5, h6⟩ := a3 c h3 hi h4
  exact ⟨c', h5, kp _ _ h6⟩
 ·refine ⟨c, fun j v hv => ?_, kp _ _ h4⟩
  have hj : j < 8 := by have := (Array.getElem?_eq_some_iff.1 hv).1; have := h4.size; omega
  rw [a2 _ (by omega)]
  exact h3 j v hv
theorem getElem?_set' {α : Type} (a : Array α) (i j : Nat) (v : α) : (a.setIfInBounds i v)[j]? = if i = j then (if j < a.size then some v else none) else a[j]? := by
 rw [Array.getElem?_setIfInBounds]
 by_cases h : i = j
 ·subst h; simp
 ·rw [if_neg h, if_neg h]
theorem RowD.path {T : Nat → Prop} {W : World} {g k : Nat} {l : List DelT} {v : Value} (h : RowD T W g l) (hk : k < l.length) (hv : SlP W (fun b => b < W.heap.size ∧ b ≠ g ∧ T b) v l[k].path) (hv0 : ∀ A n c, v = .slice A n c → A = none → c = 0) : RowD T (W.setCell ⟨g, k * 8 + 1, none⟩ v) g l := by
 have hc := h
 obtain ⟨cur, h1, -⟩ := hc
 refine h.store (k := k) (cur' := cur.setIfInBounds (k * 8 + 1) v) (fun b hb hne => heap_setCell_other _ ⟨g, k * 8 + 1, none⟩ b _ hne) (by simp) fun cur2 h2 => ?_
 rw [h1] at h2
 injection h2 with h2; injection h2 with h2; subst h2
 refine ⟨Go.Joins.block_setCell (i := k * 8 + 1) h1 v, fun j hj => ?_, fun c hc hkl hd => ?_⟩
 ·rw [getElem?_set', if_neg (by omega)]
 ·obtain ⟨PA, pc, VA, vc, VA', vc', rfl, e2, e3, e4, e5, e6⟩ := hd
  obtain ⟨QA, qc, rfl, q1, q2, q3⟩ := hv
  refine ⟨_, fun j u hu => ?_, QA, qc, VA, vc, VA', vc', rfl, e2, q1, q2, fun e => hv0 _ _ _ rfl e, e6.1, e6.2.1, q3⟩
  have hj8 : j < 8 := (Array.getElem?_eq_some_iff.1 hu).1
  rw [getElem?_set']
  by_cases hj : j = 1
  ·subst hj
   have hin : k * 8 + 1 < cur.size := (Array.getElem?_eq_some_iff.1 (hc 1 _ rfl)).1
   rw [if_pos rfl, if_pos hin]
   exact hu
  ·rw [if_neg (by omega)]
   match j, hj8 with
   | 0, _ | 2, _ | 3, _ | 4, _ | 5, _ | 6, _ | 7, _ => exact hc _ _ hu
   | 1, _ => exact absurd rfl hj
theorem five_row {W : World} {g o : Nat} {cur : Array Value} {t : TypeId} {c0 c1 c2 c3 c4 : Value} (h : W.heap[g]? = some (.cells cur t (0, 0))) : (five W g o c0 c1 c2 c3 c4).heap[g]? = some (.cells (((((cur.setIfInBounds o c0).setIfInBounds (o + 1) c1).setIfInBounds (o + 2) c2).setIfInBounds (o + 3) c3).setIfInBounds (o + 4) c4) t (0, 0)) := by
 unfold five
 exact Go.Joins.block_setCell (i := o + 4) (Go.Joins.block_setCell (i := o + 3) (Go.Joins.block_setCell (i := o + 2) (Go.Joins.block_setCell (i := o + 1) (Go.Joins.block_setCell (i := o) h c0) c1) c2) c3) c4
theorem RowD.val {T : Nat → Prop} {W : World} {g k : Nat} {l : List DelT} {VA VA' : Option Addr} {vc vc' : Nat} (h : RowD T W g l) (hk : k < l.length) (hv : LV W (fun b => b < W.heap.size ∧ b ≠ g ∧ T b) l[k].val (.agg #[.int .i64 l[k].val.kind, .int .i64 l[k].val.num, .string l[k].val.text, .slice VA l[k].val.items.length vc, .slice VA' l[k].val.names.length vc'])) :
  RowD T (five W g (k * 8 + 2) (.int .i64 l[k].val.kind) (.int .i64 l[k].val.num) (.string l[k].val.text) (.slice VA l[k].val.items.length vc) (.slice VA' l[k].val.names.length vc')) g l := by
 have hc := h
 obtain ⟨cur, h1, -⟩ := hc
 refine h.store (k := k) (cur' := (((((cur).setIfInBounds (k * 8 + 2) (.int .i64 l[k].val.kind)).setIfInBounds (k * 8 + 2 + 1) (.int .i64 l[k].val.num)).setIfInBounds (k * 8 + 2 + 2) (.string l[k].val.text)).setIfInBounds (k * 8 + 2 + 3) (.slice VA l[k].val.items.length vc)).setIfInBounds (k * 8 + 2 + 4) (.slice VA' l[k].val.names.length vc')) (fun b hb hne => five_other _ _ _ _ _ _ _ _ b hne) (five_size _ _ _ _ _ _ _ _) fun cur2 h2 => ?_
 rw [h1] at h2
 injection h2 with h2; injection h2 with h2; subst h2
 refine ⟨five_row h1, fun j hj => ?_, fun c hc hkl hd => ?_⟩
 ·rw [getElem?_set', if_neg (by omega), getElem?_set', if_neg (by omega), getElem?_set', if_neg (by omega), getElem?_set', if_neg (by omega), getElem?_set', if_neg (by omega)]
 ·obtain ⟨PA, pc, VB, vd, VB', vd', rfl, e2, e3, e4, e5, e6⟩ := hd
  refine ⟨_, fun j u hu => ?_, PA, pc, VA, vc, VA', vc', rfl, hv, e3, e4, e5, e6⟩
  have hj8 : j < 8 := (Array.getElem?_eq_some_iff.1 hu).1
  have hin : k * 8 + 7 < cur.size := (Array.getElem?_eq_some_iff.1 (hc 7 _ rfl)).1
  simp only [getElem?_set', Array.size_setIfInBounds]
  match j, hj8 with
  | 0, _ => rw [if_neg (by omega), if_neg (by omega), if_neg (by omega), if_neg (by omega), if_neg (by omega)]; exact hc 0 _ hu
  | 1, _ => rw [if_neg (by omega), if_neg (by omega), if_neg (by omega), if_neg (by omega), if_neg (by omega)]; exact hc 1 _ hu
  | 2, _ => rw [if_neg (by omega), if_neg (by omega), if_neg (by omega), if_neg (by omega), if_pos rfl, if_pos (by omega)]; exact hu
  | 3, _ => rw [if_neg (by omega), if_neg (by omega), if_neg (by omega), if_pos (by omega), if_pos (by omega)]; exact hu
  | 4, _ => rw [if_neg (by omega), if_neg (by omega), if_pos (by omega), if_pos (by omega)]; exact hu
  | 5, _ => rw [if_neg (by omega), if_pos (by omega), if_pos (by omega)]; exact hu
  | 6, _ => rw [if_pos (by omega), if_pos (by omega)]; exact hu
  | 7, _ => rw [if_neg (by omega), if_neg (by omega), if_neg (by omega), if_neg (by omega), if_neg (by omega)]; exact hc 7 _ hu
theorem RowD.of {T : Nat → Prop} {W : World} {B g n c : Nat} {l : List DelT} {xs : List Value} {S : Nat → Prop} (ho : W.ownsRow B 95 8 (.slice (some ⟨g, 0, none⟩) n c) n xs) (hn : n = l.length) (hx : DelsC W S l xs) (hS : ∀ b, S b → b < W.heap.size ∧ b ≠ g ∧ T b) : RowD T W g l := by
 subst hn
 rcases ho.2 with ⟨e, -⟩ | ⟨q, cap, cur, e, hB, hh, hr⟩
 ·cases e
 ·injection e with e1 e2 e3
  injection e1 with e1; injection e1 with e1
  subst e1
  refine ⟨cur, hh, fun i hi => ?_⟩
  obtain ⟨cs, h4, h5⟩ := hx.at i hi
  refine ⟨cs.toArray, fun j v hv => ?_, h4.imp hS⟩
  have hv' : cs[j]? = some v := by simpa using hv
  have hj : j < 8 := by have := (List.getElem?_eq_some_iff.1 hv').1; have := h4.lenL; omega
  have h6 := ho.cells (g := g) rfl (i * 8 + j) v (by rw [h5 j hj]; exact hv')
  rw [add_at, Nat.zero_add, Go.Joins.cell_of_block hh] at h6
  exact h6
def rdD (st : Option (List UInt8)) : DelT × Option (List UInt8) :=
 if (rdByte st).1 = 1 then (⟨1, (rdPathO (rdByte st).2).1, (readO (rdPathO (rdByte st).2).2).1, 0⟩, (readO (rdPathO (rdByte st).2).2).2)
 else if (rdByte st).1 = 3 then (⟨3, (rdPathO (rdByte st).2).1, noneV, ((rdCount 999 (rdPathO (rdByte st).2).2).1 : Nat)⟩, (rdCount 999 (rdPathO (rdByte st).2).2).2)
 else (⟨(rdByte st).1, (rdPathO (rdByte st).2).1, noneV, 0⟩, (rdPathO (rdByte st).2).2)
theorem results_cell_d {fn : Func} {p : Tmp} (h : fn.results = #[.cell p 95]) (tmps : Array Value) (w : World) (g : Nat) (t : TypeId) (cs : Array Value) (fr : Nat × Nat)
  (hp : tmps.getD p undef = .pointer (some ⟨g, 0, none⟩)) (hg : w.heap[g]? = some (.cells cs t fr)) (hi : (Tryz.prog.info? 95).map (·.size) = some cs.size) :
  (results fn tmps).run Tryz.prog w = .ok (.agg cs) w := by
 have hp' : tmps[p]?.getD undef = .pointer (some ⟨g, 0, none⟩) := by simpa using hp
 have e := run_loadVar_row w g t 95 cs fr _ hg Tryz.underlying95 rfl hi
 simp [results, h, hp', asAddr, Sem.run_bind, Result.andThen, e]
theorem own_none {w : World} {B n k c : Nat} {t : TypeId} {A : Option Addr} {xs : List Value} (h : w.ownsRow B t k (.slice A n c) n xs) : A = none → c = 0 := by
 obtain ⟨A', c', e, h1, -⟩ := own_slice h
 injection e with e1 e2 e3
 subst e1 e3
 exact h1
def ReadDR (g : Nat) (st : Option (List UInt8)) (w : World) (e : Ending) (w' : World) : Prop :=
 ∃ cs : Array Value, e = .returned (.agg cs) ∧ DelL w' (NewB w.heap.size w') (rdD st).1 cs ∧ SrcL w' g (rdD st).2 ∧ Only w w' g
theorem del_end {w W : World} {g : Nat} {st : Option (List UInt8)} {S : Nat → Prop} {c0 c1 c2 c3 c4 c5 c6 c7 : Value} (hs : SrcL W g (rdD st).2) (ho : Only w W g) (hg : g < w.heap.size) (h : DelL W S (rdD st).1 #[c0, c1, c2, c3, c4, c5, c6, c7]) (hS : ∀ b, S b → w.heap.size + 1 ≤ b ∧ b < W.heap.size) :
  ReadDR g st w (.returned (.agg #[c0, c1, c2, c3, c4, c5, c6, c7])) (eightD W w.heap.size c0 c1 c2 c3 c4 c5 c6 c7) := by
 have hz : (eightD W w.heap.size c0 c1 c2 c3 c4 c5 c6 c7).heap.size = W.heap.size := eightD_size
 refine ⟨_, rfl, (h.keep fun b hb => eightD_other b (by have := hS b hb; omega)).imp fun b hb => ?_, hs.of (eightD_other g (by omega)), ?_⟩
 ·have := hS b hb
  exact ⟨by omega, by rw [hz]; omega⟩
 ·exact ⟨eightD_rest.1.trans ho.os, eightD_rest.2.1.trans ho.tape, eightD_rest.2.2.trans ho.output, by rw [hz]; exact ho.size, fun b hb hne => (eightD_other b (by omega)).trans (ho.block b hb hne)⟩
set_option maxHeartbeats 8000000 in
theorem readd_any (g : Nat) (st : Option (List UInt8)) (w : World) (hs : SrcL w g st) : Calls Tryz.prog 140 #[.pointer (some ⟨g, 0, none⟩)] w (ReadDR g st w) := by
 have hgl := hs.lt
 have HC := hid (sbyte_any g st _ (hs.alloc (.cells #[.int .i64 0, .slice none 0 0, .int .i64 0, .int .i64 0, .string ⟨#[]⟩, .slice none 0 0, .slice none 0 0, .int .i64 0] 95)))
 have hr0 : DBox (w.alloc (.cells #[.int .i64 0, .slice none 0 0, .int .i64 0, .int .i64 0, .string ⟨#[]⟩, .slice none 0 0, .slice none 0 0, .int .i64 0] 95)) w.heap.size _ _ _ _ _ _ _ _ := DBox.new w _ _ _ _ _ _ _ _
 have ho0 : Only w (w.alloc (.cells #[.int .i64 0, .slice none 0 0, .int .i64 0, .int .i64 0, .string ⟨#[]⟩, .slice none 0 0, .slice none 0 0, .int .i64 0] 95)) g := ⟨rfl, rfl, rfl, by simp, fun b hb _ => Below.heap_alloc w _ b hb⟩
 have HR0 := hid hr0
 have HO0 := hid ho0
 clear hs hr0 ho0
 go_enter Tryz.func140, Tryz.ntmps140
 go_wp2_with fail
 refine HC.out.mono ?_
 rintro e w1 ⟨rfl, hs1, ho1⟩
 obtain ⟨n, hn⟩ : ∃ n, n = (rdByte st).1 := ⟨_, rfl⟩
 obtain ⟨s1, hs1'⟩ : ∃ s1, s1 = (rdByte st).2 := ⟨_, rfl⟩
 rw [← hs1'] at hs1
 rw [← hn]
 have hn256 : n < 256 := by rw [hn]; exact rdByte_lt st
 have hr1 := HR0.out.only ho1 (by omega)
 have hl1 := hr1.lt
 obtain ⟨X, hX⟩ : ∃ X : Obj, X = .cells #[.int .i64 n, .slice none 0 0, .int .i64 0, .int .i64 0, .string ⟨#[]⟩, .slice none 0 0, .slice none 0 0, .int .i64 0] 95 := ⟨_, rfl⟩
 have hq2 : DBox (w1.alloc X) w1.heap.size (.int .i64 n) (.slice none 0 0) (.int .i64 0) (.int .i64 0) (.string ⟨#[]⟩) (.slice none 0 0) (.slice none 0 0) (.int .i64 0) := by rw [hX]; exact DBox.new w1 _ _ _ _ _ _ _ _
 have HN := hid hn
 have HS1 := hid hs1'
 have HO2 := hid ((HO0.out.trans ho1).trans (show Only w1 (w1.alloc X) g from ⟨rfl, rfl, rfl, by simp, fun b hb _ => Below.heap_alloc w1 _ b hb⟩))
 have HP := hid (readpath_any g s1 (w1.alloc X) (hs1.alloc X))
 have HR2 := hid (hr1.alloc X)
 have HQ2 := hid hq2
 have hz2 : (w1.alloc X).heap.size = w1.heap.size + 1 := by simp
 have HZ2 := hid hz2
 rw [hX] at HP
 rw [hX] at HO2 HR2 HQ2 HZ2
 clear hs1 ho1 hn hs1' HC hX HR0 HO0 hr1 hq2 hz2
 go_wp2_with fail
 refine HP.out.mono ?_
 rintro e w3 ⟨A, c, rfl, hrow3, hs3, ho3⟩
 have hcA : A = none → c = 0 := own_none hrow3
 obtain ⟨hc3, hst3⟩ := strs_own hrow3 (by unfold rdPathO; exact rdK_size _ _)
 have hp8 := rdPathO_len s1
 obtain ⟨P, hP⟩ : ∃ P, P = (rdPathO s1).1 := ⟨_, rfl⟩
 obtain ⟨s2, hs2'⟩ : ∃ s, s = (rdPathO s1).2 := ⟨_, rfl⟩
 rw [← hP] at hc3 hst3 hp8 ⊢
 rw [← hs2'] at hs3
 have hr3 := HR2.out.only ho3 (by omega)
 have hq3 := HQ2.out.only ho3 (by omega)
 have ho4 := HO2.out.trans ho3
 have hz3 : w1.heap.size + 1 ≤ w3.heap.size := by have := ho3.size; have := HZ2.out; omega
 have hst4 := hst3.imp (S' := fun b => w1.heap.size + 1 ≤ b ∧ b < w3.heap.size) fun b hb => by rw [HZ2.out] at hb; exact hb
 obtain ⟨w4, hw4⟩ : ∃ W, W = w3.setCell ⟨w1.heap.size, 1, none⟩ (.slice A P.length c) := ⟨_, rfl⟩
 have k4 : ∀ b, b ≠ w1.heap.size → w4.heap[b]? = w3.heap[b]? := fun b hb => by rw [hw4]; exact heap_setCell_other _ ⟨w1.heap.size, 1, none⟩ b _ hb
 have z4 : w4.heap.size = w3.heap.size := by rw [hw4]; simp
 have hq4 := hq3.set1 (.slice A P.length c)
 rw [← hw4] at hq4
 have hr4 := hr3.other w1.heap.size 1 (.slice A P.length c) (by omega)
 rw [← hw4] at hr4
 have hs4 : SrcL w4 g s2 := hs3.of (k4 g (by omega))
 have ho5 : Only w w4 g := ⟨by rw [hw4]; exact ho4.os, by rw [hw4]; exact ho4.tape, by rw [hw4]; exact ho4.output, by rw [z4]; exact ho4.size, fun b hb hne => (k4 b (by omega)).trans (ho4.block b hb hne)⟩
 have hst5 : StrsAt w4 (fun b => w1.heap.size + 1 ≤ b ∧ b < w4.heap.size) A P := (hst4.keep fun b hb => k4 b (by omega)).imp fun b hb => by rw [z4]; exact hb
 have HQ4 := hid hq4
 have HR4 := hid hr4
 have HS4 := hid hs4
 have HO5 := hid ho5
 have HST := hid hst5
 have HPP := hid (And.intro hP hs2')
 have HC3 := hid (And.intro hc3 hcA)
 have HZ4 := hid (show w1.heap.size + 1 ≤ w4.heap.size by omega)
 have HL := hid (And.intro hl1 hp8)
 have HN256 := hid hn256
 have HP6 := hid (scount_any g s2 999 w4 hs4 (by omega))
 have HV6 := hid (cread_any g s2 w4 hs4)
 have q3f := fun i => hq3.free i
 have q30 := hq3.g0
 have q31 := hq3.g1
 have q32 := hq3.g2
 have q33 := hq3.g3
 have q34 := hq3.g4
 have q35 := hq3.g5
 have q36 := hq3.g6
 have q37 := hq3.g7
 have r3f := fun i => hr3.free i
 clear hrow3 hs3 ho3 hcA hc3 hst3 hP hs2' hr3 hq3 ho4 hst4 k4 z4 hq4 hr4 hs4 ho5 hst5 HP HO2 HR2 HQ2 HZ2 hz3 hp8 hn256
 by_cases h1 : n = 1
 ·have d1 : ((n : Int) == 1) = true := beq_iff_eq.2 (by omega)
  have H6 := hid h1
  rw [hw4] at HV6
  clear HP6 h1
  go_wp2_with fail
  refine HV6.out.mono ?_
  rintro e w5 ⟨v, rfl, hs5, ho5, hv5⟩
  rw [← hw4] at ho5 hv5
  obtain ⟨VA, vc, VA', vc', rfl, -⟩ := hv5.shape
  obtain ⟨t, ht⟩ : ∃ t, t = (readO s2).1 := ⟨_, rfl⟩
  obtain ⟨s3, hs3'⟩ : ∃ s, s = (readO s2).2 := ⟨_, rfl⟩
  rw [← ht] at hv5 ⊢
  rw [← hs3'] at hs5
  have hz4 := HZ4.out
  have hl := HL.out
  have hz5 := ho5.size
  have hq5 := HQ4.out.only ho5 (by omega)
  have hr5 := HR4.out.only ho5 (by omega)
  obtain ⟨w6, hw6⟩ : ∃ W, W = five w5 w1.heap.size 2 (.int .i64 t.kind) (.int .i64 t.num) (.string t.text) (.slice VA t.items.length vc) (.slice VA' t.names.length vc') := ⟨_, rfl⟩
  have k6 : ∀ b, b ≠ w1.heap.size → w6.heap[b]? = w5.heap[b]? := fun b hb => by rw [hw6]; exact five_other _ _ _ _ _ _ _ _ b hb
  have z6 : w6.heap.size = w5.heap.size := by rw [hw6]; exact five_size _ _ _ _ _ _ _ _
  have hq6 : DBox (five w5 w1.heap.size 2 (.int .i64 t.kind) (.int .i64 t.num) (.string t.text) (.slice VA t.items.length vc) (.slice VA' t.names.length vc')) w1.heap.size _ _ _ _ _ _ _ _ := ((((hq5.set2 (.int .i64 t.kind)).set3 (.int .i64 t.num)).set4 (.string t.text)).set5 (.slice VA t.items.length vc)).set6 (.slice VA' t.names.length vc')
  have hr6 : DBox w6 w.heap.size _ _ _ _ _ _ _ _ := (k6 w.heap.size (by omega)).trans hr5
  rw [← hw6] at hq6
  have hs6 : SrcL w6 g s3 := hs5.of (k6 g (by omega))
  have ho6 : Only w w6 g := by
   have h := HO5.out.trans ho5
   have r := five_rest w5 w1.heap.size 2 (.int .i64 t.kind) (.int .i64 t.num) (.string t.text) (.slice VA t.items.length vc) (.slice VA' t.names.length vc')
   rw [← hw6] at r
   exact ⟨r.1.trans h.os, r.2.1.trans h.tape, r.2.2.trans h.output, by rw [z6]; exact h.size, fun b hb hne => (k6 b (by omega)).trans (h.block b hb hne)⟩
  have hv6 : LV w6 (fun b => w1.heap.size + 1 ≤ b ∧ b < w6.heap.size) t _ := (hv5.keep fun b hb => k6 b (by have := hb.1; omega)).imp fun b hb => ⟨by have := hb.1; omega, by rw [z6]; exact hb.2⟩
  have hsp6 : StrsAt w6 (fun b => w1.heap.size + 1 ≤ b ∧ b < w6.heap.size) A P := (HST.out.keep fun b hb => (k6 b (by have := hb.1; omega)).trans (ho5.block b hb.2 (by rintro ⟨⟩; have := hb.1; omega))).imp fun b hb => ⟨hb.1, by have := hb.2; omega⟩
  have HQ6 := hid hq6
  have HR6 := hid hr6
  have HX6 := hid (And.intro hs6 (And.intro ho6 (And.intro hv6 (And.intro hsp6 (And.intro ht hs3')))))
  have q5f := fun i => hq5.free i
  have u2 := hq5.g2
  have u3 := hq5.g3
  have u4 := hq5.g4
  have u5 := hq5.g5
  have u6 := hq5.g6
  clear hs5 ho5 hv5 ht hs3' hq5 hr5 k6 z6 hs6 ho6 hv6 hsp6 HV6 HQ4 HR4 HS4 HO5 HST hw4
  clear q3f q30 q31 q32 q33 q34 q35 q36 q37 r3f
  subst hw6
  have z4f := fun i => hq6.free i
  have r4f := fun i => hr6.free i
  have z0 := hq6.g0
  have z1 := hq6.g1
  have z2 := hq6.g2
  have z3 := hq6.g3
  have z4 := hq6.g4
  have z5 := hq6.g5
  have z6 := hq6.g6
  have z7 := hq6.g7
  have y0 := hr6.g0
  have y1 := hr6.g1
  have y2 := hr6.g2
  have y3 := hr6.g3
  have y4 := hr6.g4
  have y5 := hr6.g5
  have y6 := hr6.g6
  have y7 := hr6.g7
  clear hq6 hr6
  simp only [five] at z4f r4f z0 z1 z2 z3 z4 z5 z6 z7 y0 y1 y2 y3 y4 y5 y6 y7
  go_wp2_with fail
  refine bodyPost_ret (results_cell_d rfl _ _ w.heap.size 95 _ (0, 0) rfl (eightD_box HR6.out) (by kernel_rfl)) rfl ?_
  have h1 := H6.out
  subst h1
  obtain ⟨hs6, ho6, hv6, hsp6, ht, hs3'⟩ := HX6.out
  have e0 : rdD st = (⟨1, P, t, 0⟩, s3) := by
   unfold rdD
   rw [if_pos HN.out.symm, ← HS1.out, ← HPP.out.1, ← HPP.out.2, ← ht, ← hs3']
  refine del_end (S := fun b => w1.heap.size + 1 ≤ b ∧ b < (five w5 w1.heap.size 2 (.int .i64 t.kind) (.int .i64 t.num) (.string t.text) (.slice VA t.items.length vc) (.slice VA' t.names.length vc')).heap.size) (by rw [e0]; exact hs6) ho6 hgl ?_ (fun b hb => ⟨by omega, hb.2⟩)
  rw [e0]
  have hn := HN256.out
  exact ⟨A, c, _, _, _, _, rfl, hv6, hsp6, HC3.out.1, HC3.out.2, rng_k (k := 1) (by decide) (by decide), rng_k (k := 0) (by decide) (by decide), by show P.length ≤ _; omega⟩
 ·have d1 : ((n : Int) == 1) = false := beq_eq_false_iff_ne.2 (by omega)
  have hg4 : g < w4.heap.size := HS4.out.lt
  by_cases h6 : n = 3
  ·have d6 : ((n : Int) == 3) = true := beq_iff_eq.2 (by omega)
   have H6 := hid h6
   rw [hw4] at HP6
   clear HV6 h6 h1
   go_wp2_with fail
   refine HP6.out.mono ?_
   rintro e w5 ⟨rfl, hs5, ho5⟩
   rw [← hw4] at ho5
   have hT9 : (rdCount 999 s2).1 ≤ 999 := rdCount_le 999 s2 (by omega)
   obtain ⟨T, hT⟩ : ∃ T, T = (rdCount 999 s2).1 := ⟨_, rfl⟩
   obtain ⟨s3, hs3'⟩ : ∃ s, s = (rdCount 999 s2).2 := ⟨_, rfl⟩
   rw [← hT] at hT9 ⊢
   rw [← hs3'] at hs5
   have hz4 := HZ4.out
   have hl := HL.out
   have hz5 := ho5.size
   have hq5 := HQ4.out.only ho5 (by omega)
   have hr5 := HR4.out.only ho5 (by omega)
   obtain ⟨w6, hw6⟩ : ∃ W, W = w5.setCell ⟨w1.heap.size, 7, none⟩ (.int .i64 T) := ⟨_, rfl⟩
   have k6 : ∀ b, b ≠ w1.heap.size → w6.heap[b]? = w5.heap[b]? := fun b hb => by rw [hw6]; exact heap_setCell_other _ ⟨w1.heap.size, 7, none⟩ b _ hb
   have z6 : w6.heap.size = w5.heap.size := by rw [hw6]; simp
   have hq6 := hq5.set7 (.int .i64 T)
   rw [← hw6] at hq6
   have hr6 := hr5.other w1.heap.size 7 (.int .i64 T) (by omega)
   rw [← hw6] at hr6
   have hs6 : SrcL w6 g s3 := hs5.of (k6 g (by omega))
   have ho6 : Only w w6 g := by
    have h := HO5.out.trans ho5
    exact ⟨by rw [hw6]; exact h.os, by rw [hw6]; exact h.tape, by rw [hw6]; exact h.output, by rw [z6]; exact h.size, fun b hb hne => (k6 b (by omega)).trans (h.block b hb hne)⟩
   have hsp6 : StrsAt w6 (fun b => w1.heap.size + 1 ≤ b ∧ b < w6.heap.size) A P := (HST.out.keep fun b hb => (k6 b (by have := hb.1; omega)).trans (ho5.block b hb.2 (by rintro ⟨⟩; have := hb.1; omega))).imp fun b hb => ⟨hb.1, by have := hb.2; omega⟩
   have HQ6 := hid hq6
   have HR6 := hid hr6
   have HX6 := hid (And.intro hs6 (And.intro ho6 (And.intro hsp6 (And.intro hT9 (And.intro hT hs3')))))
   have q5f := fun i => hq5.free i
   have u7 := hq5.g7
   clear hs5 ho5 hT9 hT hs3' hq5 hr5 k6 z6 hs6 ho6 hsp6 HP6 HQ4 HR4 HS4 HO5 HST hw4
   clear q3f q30 q31 q32 q33 q34 q35 q36 q37 r3f
   subst hw6
   have z4f := fun i => hq6.free i
   have r4f := fun i => hr6.free i
   have z0 := hq6.g0
   have z1 := hq6.g1
   have z2 := hq6.g2
   have z3 := hq6.g3
   have z4 := hq6.g4
   have z5 := hq6.g5
   have z6 := hq6.g6
   have z7 := hq6.g7
   have y0 := hr6.g0
   have y1 := hr6.g1
   have y2 := hr6.g2
   have y3 := hr6.g3
   have y4 := hr6.g4
   have y5 := hr6.g5
   have y6 := hr6.g6
   have y7 := hr6.g7
   clear hq6 hr6
   go_wp2_with fail
   refine bodyPost_ret (results_cell_d rfl _ _ w.heap.size 95 _ (0, 0) rfl (eightD_box HR6.out) (by kernel_rfl)) rfl ?_
   have h6 := H6.out
   subst h6
   obtain ⟨hs6, ho6, hsp6, hT9, hT, hs3'⟩ := HX6.out
   have e0 : rdD st = (⟨3, P, noneV, (T : Nat)⟩, s3) := by
    unfold rdD
    rw [if_neg (by rw [← HN.out]; decide), if_pos HN.out.symm, ← HS1.out, ← HPP.out.1, ← HPP.out.2, ← hT, ← hs3']
   refine del_end (S := fun b => w1.heap.size + 1 ≤ b ∧ b < (w5.setCell ⟨w1.heap.size, 7, none⟩ (.int .i64 T)).heap.size) (by rw [e0]; exact hs6) ho6 hgl ?_ (fun b hb => ⟨by omega, hb.2⟩)
   rw [e0]
   exact ⟨A, c, none, 0, none, 0, rfl, leaf_lv _ _ _ _ _ (by unfold Rng; omega) (by unfold Rng; omega) (by decide), hsp6, HC3.out.1, HC3.out.2, rng_k (k := 3) (by decide) (by decide), (by unfold Rng; show (_ : Int) ≤ ((T : Nat) : Int) ∧ ((T : Nat) : Int) ≤ _; omega), by show P.length ≤ _; omega⟩
  ·have d3 : ((n : Int) == 3) = false := beq_eq_false_iff_ne.2 (by omega)
   have H2 := hid (And.intro h1 h6)
   clear h1 h6
   subst hw4
   clear HP6 HV6
   have hq4 := HQ4.out
   have hr4 := HR4.out
   have z4f := fun i => hq4.free i
   have r4f := fun i => hr4.free i
   have z0 := hq4.g0
   have z1 := hq4.g1
   have z2 := hq4.g2
   have z3 := hq4.g3
   have z4 := hq4.g4
   have z5 := hq4.g5
   have z6 := hq4.g6
   have z7 := hq4.g7
   have y0 := hr4.g0
   have y1 := hr4.g1
   have y2 := hr4.g2
   have y3 := hr4.g3
   have y4 := hr4.g4
   have y5 := hr4.g5
   have y6 := hr4.g6
   have y7 := hr4.g7
   clear hq4 hr4
   go_wp2_with fail
   refine bodyPost_ret (results_cell_d rfl _ _ w.heap.size 95 _ (0, 0) rfl (eightD_box HR4.out) (by kernel_rfl)) rfl ?_
   have e0 : rdD st = (⟨n, P, noneV, 0⟩, s2) := by
    obtain ⟨h1, h3⟩ := H2.out
    unfold rdD
    rw [if_neg (by rw [← HN.out]; omega), if_neg (by rw [← HN.out]; omega), ← HN.out, ← HS1.out, ← HPP.out.1, ← HPP.out.2]
   have hl := HL.out
   refine del_end (S := fun b => w1.heap.size + 1 ≤ b ∧ b < (w3.setCell ⟨w1.heap.size, 1, none⟩ (.slice A P.length c)).heap.size) (by rw [e0]; exact HS4.out) HO5.out hgl ?_ (fun b hb => ⟨by omega, hb.2⟩)
   rw [e0]
   have hn := HN256.out
   exact ⟨A, c, none, 0, none, 0, rfl, leaf_lv _ _ _ _ _ (by unfold Rng; omega) (by unfold Rng; omega) (by decide), HST.out, HC3.out.1, HC3.out.2, rng_k (k := (n : Int)) (by omega) (by omega), rng_k (k := 0) (by decide) (by decide), by show P.length ≤ _; omega⟩
set_option maxHeartbeats 16000000 in
theorem dlmay_any (S : Nat → Prop) (d : DelT) (cs : Array Value) (w : World) (hS : ∀ b, S b → b < w.heap.size) (h : DelL w S d cs) (hd : depthT d.val ≤ 4611686018427387903) :
  Calls Tryz.prog 158 #[.agg cs] w fun e w' => e = .returned (.bool (mayD d)) ∧ Below w.heap.size w w' := by
 obtain ⟨PA, pc, VA, vc, VA', vc', rfl, hv, hp, hpc, hpn, hk, hn, hpl⟩ := h
 obtain ⟨w1, hw1⟩ : ∃ W, W = w.alloc (.cells #[.int .i64 d.kind, .slice PA d.path.length pc, .int .i64 d.val.kind, .int .i64 d.val.num, .string d.val.text, .slice VA d.val.items.length vc, .slice VA' d.val.names.length vc', .int .i64 d.num] 95) := ⟨_, rfl⟩
 have hbk : w1.heap[w.heap.size]? = some (.cells #[.int .i64 d.kind, .slice PA d.path.length pc, .int .i64 d.val.kind, .int .i64 d.val.num, .string d.val.text, .slice VA d.val.items.length vc, .slice VA' d.val.names.length vc', .int .i64 d.num] 95 (0, 0)) := by rw [hw1]; exact heap_alloc_new w _
 have hb1 : Below w.heap.size w w1 := by rw [hw1]; exact (Below.refl _ _).alloc (Nat.le_refl _) _
 have y0 := Go.Joins.cell_of_block hbk 0
 have y1 := Go.Joins.cell_of_block hbk 1
 have y2 := Go.Joins.cell_of_block hbk 2
 have y3 := Go.Joins.cell_of_block hbk 3
 have y4 := Go.Joins.cell_of_block hbk 4
 have y5 := Go.Joins.cell_of_block hbk 5
 have y6 := Go.Joins.cell_of_block hbk 6
 have y7 := Go.Joins.cell_of_block hbk 7
 have hS1 : ∀ b, S b → b < w1.heap.size := fun b hb => Nat.lt_of_lt_of_le (hS b hb) hb1.size
 have hv1 := hv.keep fun b hb => hb1.block b (hS b hb)
 have HMA := hid (pmay_any PA pc d.path w1 S (hp.keep fun b hb => hb1.block b (hS b hb)) (by omega))
 have HCK := hid (check_any S d.val _ w1 hS1 hv1 hd)
 have HNO := hid (none_any S d.val _ w1 hS1 hv1)
 have HBK := hid hbk
 have HB1 := hid hb1
 have HW1 := hid hw1
 have HS := hid hS
 obtain ⟨r, hr⟩ : ∃ r, r = mayD d := ⟨_, rfl⟩
 have HR := hid hr
 rw [← hr]
 clear hbk hb1 hS1 hv1 hv hp hpc hpn hk hn hpl hd hS hr
 go_enter Tryz.func158, Tryz.ntmps158
 go_wp2_with fail
 rw [← hw1]
 clear hw1
 refine HMA.out.mono ?_
 rintro e w2 ⟨rfl, rfl⟩
 clear HMA
 cases hmp : mayP d.path
 ·go_wp2_with fail
  go_ret
  exact ⟨by rw [HR.out]; unfold mayD; rw [hmp]; rfl, HB1.out⟩
 have HMP := hid hmp
 clear hmp
 obtain ⟨k, hk⟩ : ∃ k, k = d.kind := ⟨_, rfl⟩
 rw [← hk] at y0
 have HK := hid hk.symm
 clear hk
 by_cases k1 : k = 1
 ·subst k1
  go_wp2_with fail
  refine HCK.out.mono ?_
  rintro e w3 ⟨rfl, hb3⟩
  have HB3 := hid (HB1.out.trans (hb3.mono HB1.out.size))
  have HBK3 := (hb3.block _ (Array.getElem?_eq_some_iff.1 HBK.out).1).trans HBK.out
  have z7 := Go.Joins.cell_of_block HBK3 7
  obtain ⟨b1, d1⟩ : ∃ b, (checkT d.val == 0) = b := ⟨_, rfl⟩
  obtain ⟨b2, d2⟩ : ∃ b, (d.num == 0) = b := ⟨_, rfl⟩
  have HE : Hid (mayD d = (b1 && b2)) := hid (by
   rw [← d1, ← d2]
   unfold mayD
   rw [HMP.out, HK.out]
   rw [Bool.eq_iff_iff]
   simp)
  clear hb3 HBK3 HCK
  cases b1 <;> cases b2
  all_goals
   go_wp2_with fail
   go_ret
   exact ⟨by rw [HR.out, HE.out]; rfl, HB3.out⟩
 have e1 := beq_false_of_ne k1
 by_cases k2 : k = 2
 ·subst k2
  go_wp2_with fail
  refine HNO.out.mono ?_
  rintro e w3 ⟨rfl, hb3⟩
  have HB3 := hid (HB1.out.trans (hb3.mono HB1.out.size))
  have HBK3 := (hb3.block _ (Array.getElem?_eq_some_iff.1 HBK.out).1).trans HBK.out
  have z7 := Go.Joins.cell_of_block HBK3 7
  obtain ⟨b1, d1⟩ : ∃ b, noneT d.val = b := ⟨_, rfl⟩
  obtain ⟨b2, d2⟩ : ∃ b, (d.num == 0) = b := ⟨_, rfl⟩
  have HE : Hid (mayD d = (b1 && b2)) := hid (by
   rw [← d1, ← d2]
   unfold mayD
   rw [HMP.out, HK.out]
   rw [Bool.eq_iff_iff]
   simp)
  clear hb3 HBK3 HNO
  cases b1 <;> cases b2
  all_goals
   go_wp2_with fail
   go_ret
   exact ⟨by rw [HR.out, HE.out]; rfl, HB3.out⟩
 have e2 := beq_false_of_ne k2
 by_cases k3 : k = 3
 ·subst k3
  go_wp2_with fail
  refine HNO.out.mono ?_
  rintro e w3 ⟨rfl, hb3⟩
  have HB3 := hid (HB1.out.trans (hb3.mono HB1.out.size))
  have HBK3 := (hb3.block _ (Array.getElem?_eq_some_iff.1 HBK.out).1).trans HBK.out
  have z7 := Go.Joins.cell_of_block HBK3 7
  obtain ⟨b1, d1⟩ : ∃ b, noneT d.val = b := ⟨_, rfl⟩
  obtain ⟨b2, d2⟩ : ∃ b, decide (d.num ≥ 0) = b := ⟨_, rfl⟩
  obtain ⟨b3, d3⟩ : ∃ b, decide (d.num ≤ 999) = b := ⟨_, rfl⟩
  have HE : Hid (mayD d = (b1 && (b2 && b3))) := hid (by
   rw [← d1, ← d2, ← d3]
   unfold mayD
   rw [HMP.out, HK.out]
   rw [Bool.eq_iff_iff]
   simp)
  clear hb3 HBK3 HNO
  cases b1 <;> cases b2 <;> cases b3
  all_goals
   go_wp2_with fail
   go_ret
   exact ⟨by rw [HR.out, HE.out]; rfl, HB3.out⟩
 have e3 := beq_false_of_ne k3
 have HN : Hid (mayD d = false) := hid (by
  unfold mayD
  rw [HK.out]
  simp [k1, k2, k3])
 clear k1 k2 k3
 go_wp2_with fail
 go_ret
 exact ⟨by rw [HR.out, HN.out]; rfl, HB1.out⟩
theorem all_upto'D {α : Type} {p : α → Bool} {l : List α} (h : ∀ j (h : j < l.length), p l[j] = true) : l.all p = true := by
 rw [List.all_eq_true]
 intro x hx
 obtain ⟨j, hj, rfl⟩ := List.mem_iff_getElem.1 hx
 exact h j hj
theorem all_not'D {α : Type} {p : α → Bool} {l : List α} {j : Nat} (hj : j < l.length) (h : p l[j] = false) : l.all p = false := by
 rw [List.all_eq_false]
 exact ⟨l[j], List.getElem_mem hj, by rw [h]; simp⟩
set_option maxHeartbeats 4000000 in
theorem dlcheck1_any (S : Nat → Prop) (d : DelT) (cs : Array Value) (w : World) (hS : ∀ b, S b → b < w.heap.size) (h : DelL w S d cs) (hd : depthT d.val ≤ 4611686018427387903) :
  Calls Tryz.prog 157 #[.agg cs] w fun e w' => e = .returned (.bool (!mayD d)) ∧ Below w.heap.size w w' := by
 obtain ⟨PA, pc, VA, vc, VA', vc', rfl, hv, hp, hpc, hpn, hk, hn, hpl⟩ := id h
 obtain ⟨w1, hw1⟩ : ∃ W, W = w.alloc (.cells #[.int .i64 d.kind, .slice PA d.path.length pc, .int .i64 d.val.kind, .int .i64 d.val.num, .string d.val.text, .slice VA d.val.items.length vc, .slice VA' d.val.names.length vc', .int .i64 d.num] 95) := ⟨_, rfl⟩
 have hbk : w1.heap[w.heap.size]? = some (.cells #[.int .i64 d.kind, .slice PA d.path.length pc, .int .i64 d.val.kind, .int .i64 d.val.num, .string d.val.text, .slice VA d.val.items.length vc, .slice VA' d.val.names.length vc', .int .i64 d.num] 95 (0, 0)) := by rw [hw1]; exact heap_alloc_new w _
 have hb1 : Below w.heap.size w w1 := by rw [hw1]; exact (Below.refl _ _).alloc (Nat.le_refl _) _
 have y0 := Go.Joins.cell_of_block hbk 0
 have y1 := Go.Joins.cell_of_block hbk 1
 have y2 := Go.Joins.cell_of_block hbk 2
 have y3 := Go.Joins.cell_of_block hbk 3
 have y4 := Go.Joins.cell_of_block hbk 4
 have y5 := Go.Joins.cell_of_block hbk 5
 have y6 := Go.Joins.cell_of_block hbk 6
 have y7 := Go.Joins.cell_of_block hbk 7
 have HM := hid (dlmay_any S d _ w1 (fun b hb => Nat.lt_of_lt_of_le (hS b hb) hb1.size) (h.below hS hb1) hd)
 have HB1 := hid hb1
 clear hbk hb1 h hv hp hpc hpn hk hn hpl hS hd
 go_enter Tryz.func157, Tryz.ntmps157
 go_wp2_with fail
 rw [← hw1]
 refine HM.out.mono ?_
 rintro e w2 ⟨rfl, hb2⟩
 have HB2 := hid (HB1.out.trans (hb2.mono HB1.out.size))
 clear hb2
 clear HM
 go_wp2_with fail
 go_ret
 exact ⟨rfl, HB2.out⟩
set_option maxHeartbeats 4000000 in
theorem idxD_any (S : Nat → Prop) (A : Option Addr) (c : Nat) (l : List DelT) (w : World) (hS : ∀ b, S b → b < w.heap.size) (h : DelsL w S A l) (hn : l.length ≤ 140737488351232) (hd : SmallD l) :
  Calls Tryz.prog 178 #[.slice A l.length c, .func (.func 157) #[] #[]] w fun e w' => (∃ i : Int, e = .returned (.int .i64 i) ∧ decide (0 ≤ i) = (!(l.all mayD))) ∧ Below w.heap.size w w' := by
 have H := hid h
 have HS := hid hS
 have HD := hid hd
 have HN := hid hn
 clear h hS hd
 go_enter Tryz.func178, Tryz.ntmps178
 go_wp2_with fail
 go_loopw [8] (fun i wr => ∃ k : Nat, i = .int .i64 k ∧ k ≤ l.length ∧ Hid (Below w.heap.size w wr) ∧ Hid (∀ j (h : j < l.length), j < k → mayD l[j] = true)) (fun i _ => l.length - (intOf i).toNat)
 case atStart => exact ⟨0, rfl, by omega, hid (Below.refl _ _), hid fun j _ h => absurd h (by omega)⟩
 case round =>
  obtain ⟨k, rfl, hk, HB, HJ⟩ := hrel
  by_cases hlt : k < l.length
  ·have hS2 : ∀ b, S b → b < wr.heap.size := fun b hb => Nat.lt_of_lt_of_le (HS.out b hb) HB.out.size
   obtain ⟨bp, off, PA, pc, VA, vc, VA', vc', rfl, hpS, ho, x0, x1, x2, x3, x4, x5, x6, x7⟩ := (H.out.below HS.out HB.out).cells k hlt
   have HC := hid (dlcheck1_any S l[k] _ wr hS2 ho (HD.out _ (List.getElem_mem hlt)))
   clear ho hS2 hpS
   go_wp2_with fail
   refine HC.out.mono ?_
   rintro e u ⟨rfl, hb⟩
   have HB2 := hid (HB.out.trans (hb.mono HB.out.size))
   clear hb HC x0 x1 x2 x3 x4 x5 x6 x7
   cases hm : mayD l[k]
   ·have HM := hid hm
    clear hm
    go_wp2_with fail
    go_ret
    exact ⟨⟨k, rfl, by rw [all_not'D hlt HM.out]; simp⟩, HB2.out⟩
   ·have HM := hid hm
    clear hm
    go_wp2_with fail
    go_roundw
    case rel => exact ⟨k + 1, by go_num, by omega, HB2, hid fun j h hjk => by
     by_cases e : j = k
     ·subst e; exact HM.out
     ·exact HJ.out j h (by omega)⟩
    case measure => simp [intOf]; omega
  ·go_wp2_with fail
   go_ret
   exact ⟨⟨-1, rfl, by rw [all_upto'D fun j h => HJ.out j h (by omega)]; rfl⟩, HB.out⟩
theorem contD_any (S : Nat → Prop) (A : Option Addr) (c : Nat) (l : List DelT) (w : World) (hS : ∀ b, S b → b < w.heap.size) (h : DelsL w S A l) (hn : l.length ≤ 140737488351232) (hd : SmallD l) :
  Calls Tryz.prog 146 #[.slice A l.length c, .func (.func 157) #[] #[]] w fun e w' => e = .returned (.bool (!(l.all mayD))) ∧ Below w.heap.size w w' := by
 have HC := hid (idxD_any S A c l w hS h hn hd)
 clear h hS hd
 go_enter Tryz.func146, Tryz.ntmps146
 go_wp2_with fail
 refine HC.out.mono ?_
 rintro e u ⟨⟨i, rfl, hi⟩, hb⟩
 have HI := hid hi
 have HB := hid hb
 clear hi hb HC
 go_wp2_with fail
 go_ret
 exact ⟨ret_bool HI.out, HB.out⟩
set_option maxHeartbeats 4000000 in
theorem dlcheck_any (S : Nat → Prop) (A : Option Addr) (c : Nat) (l : List DelT) (w : World) (hS : ∀ b, S b → b < w.heap.size) (h : DelsL w S A l) (hn : l.length ≤ 140737488351232) (hd : SmallD l) :
  Calls Tryz.prog 123 #[.slice A l.length c] w fun e w' => e = .returned (.int .i64 (checkD l)) ∧ Below w.heap.size w w' := by
 have HC := hid (contD_any S A c l w hS h hn hd)
 clear h hS hd
 obtain ⟨r, hr⟩ : ∃ r, r = checkD l := ⟨_, rfl⟩
 have HR := hid hr
 rw [← hr]
 clear hr
 go_enter Tryz.func123, Tryz.ntmps123
 by_cases h64 : 64 < l.length
 ·have d1 : decide ((l.length : Int) > 64) = true := decide_eq_true (by omega)
  go_wp2_with fail
  go_ret
  exact ⟨by rw [HR.out]; unfold checkD; rw [if_pos h64]; rfl, Below.refl _ _⟩
 ·have d1 : decide ((l.length : Int) > 64) = false := decide_eq_false (by omega)
  have H64 := hid h64
  clear h64
  go_wp2_with fail
  refine HC.out.mono ?_
  rintro e u ⟨rfl, hb⟩
  have HB := hid hb
  clear hb HC
  cases ha : l.all mayD
  ·have HA := hid ha
   clear ha
   go_wp2_with fail
   go_ret
   exact ⟨by rw [HR.out]; unfold checkD; rw [if_neg H64.out, HA.out]; rfl, HB.out⟩
  ·have HA := hid ha
   clear ha
   go_wp2_with fail
   go_ret
   exact ⟨by rw [HR.out]; unfold checkD; rw [if_neg H64.out, HA.out]; rfl, HB.out⟩
end Go.Proofs.YtpcdngpppjdgcaaGreat
