/- The code of an entry, by the program. (Written by mkeno.py.) -/
import Derived.Test.YtpcdngpppjdgcaaGreatKEnM
import Derived.Test.YtpcdngpppjdgcaaGreatKEnC
import Derived.Test.YtpcdngpppjdgcaaGreatKDlV
import Derived.Test.YtpcdngpppjdgcaaGreatKCodF
namespace Go.Proofs.YtpcdngpppjdgcaaGreat
open Lib (hid)
set_option linter.unusedVariables false
set_option linter.unusedSimpArgs false
open Go.RowKit
set_option maxRecDepth 100000
theorem ebox_k8 {w w' : World} {g : Nat} {e : EntT} {IA : Option Addr} {ic : Nat} {IA' : Option Addr} {ic' : Nat} {DA : Option Addr} {dc : Nat} {DA' : Option Addr} {dc' : Nat} {LA : Option Addr} {lc : Nat} (h : EBox w g e IA ic IA' ic' DA dc DA' dc' LA lc) (hk : K8 w w') : EBox w' g e IA ic IA' ic' DA dc DA' dc' LA lc :=
 hk g _ h (fun h => by cases h) (fun c fz h => by injection h with _ h; exact absurd h (by decide))
structure ShortE (e : EntT) : Prop where
 coll : (txt e.coll).length ≤ 1011
 to : (txt e.to).length ≤ 1011
 cz : e.coll.size ≤ 1000
 tz : e.to.size ≤ 1000
 id : (encO e.id).length ≤ 4096
 doc : (encO e.doc).length ≤ 4096
 dels : hasDels e.kind = true → checkD e.dels = 0 ∧ (codeDs e.dels).length ≤ 134500000
theorem short_ent {e : EntT} (hm : mayE e = true) (hd : SmE e) : ShortE e := by
 have m := (mayE_iff e).1 hm
 have hc : e.coll.size ≤ 1000 := by
  have h := m.coll
  split at h
  ·have := (nameC_len h).2; omega
  ·omega
 have ht : e.to.size ≤ 1000 := by
  have h := m.to
  split at h
  ·have := (nameC_len h.1).2; omega
  ·omega
 refine ⟨txt_small hc, txt_small ht, hc, ht, encO_length hd.idz, encO_length hd.docz, fun hk => ?_⟩
 have h := m.dels
 rw [if_pos hk] at h
 unfold mayDo at h
 simp only [Bool.and_eq_true, decide_eq_true_eq] at h
 obtain ⟨h64, hmm⟩ := checkD_zero h.1.1
 refine ⟨h.1.1, ?_⟩
 have h3 := codeDs_small (l := e.dels) fun o ho => ⟨hmm o ho, (hd.dels h64).2 o ho⟩
 have h4 := (grp_length e.dels.length).1
 unfold codeDs
 rw [if_pos h.1.1, List.length_append]
 omega
theorem Rd.upE {w : World} {B B' : Nat} {v : Value} {l : List UInt8} (h : Rd w B v l) (hB : B ≤ B') : Rd w B' v l := by
 obtain ⟨A, cap, h1, h2, h3, h4⟩ := h
 exact ⟨A, cap, h1, h2, h3, fun hl => by obtain ⟨b, off, e, hb, hc⟩ := h4 hl; exact ⟨b, off, e, by omega, hc⟩⟩
theorem one_count {z T c : Nat} {wA : World} (hT : T ≤ 1099511627776) (hn : NBox wA z [T]) : Calls Tryz.prog 97 #[.slice none 0 0, .slice (some ⟨z, 0, none⟩) 1 c] wA fun q w' => ∃ v', q = .returned v' ∧ OwnB w' wA.heap.size v' (grp T) ∧ Below wA.heap.size wA w' :=
 (pputcounts_any wA.heap.size z c [T] (.slice none 0 0) [] wA (World.ownsRow_nil _ _ _ _) (Nat.le_refl _) hn (by intro k hk; simp at hk; omega) (by simp)).mono fun q w' ⟨v', h1, h2, h3, _⟩ => ⟨v', h1, by unfold grpL at h2; simpa using h2, h3⟩
theorem toStart' {B : Nat} {a w w' : World} (h : Below B a w) (hb : Below B w w') : Below B a w' := h.trans hb
theorem two_count {B Z N : Nat} {v : Value} {l : List UInt8} {w4 : World} (h : OwnB w4 B v l) (hB : B ≤ w4.heap.size) (hZ : Z ≤ 255) (hN : N ≤ 1099511627776) (hl : l.length ≤ 100) :
  Calls Tryz.prog 97 #[v, .slice (some ⟨w4.heap.size, 0, none⟩) 2 2] (w4.alloc (.cells #[.int .i64 (Z : Int), .int .i64 (N : Int)] 3)) fun q w' => ∃ v', q = .returned v' ∧ OwnB w' B v' (l ++ (grp Z ++ grp N)) ∧ Below B w4 w' ∧ K8 w4 w' := by
 have hb0 : Below w4.heap.size w4 (w4.alloc (.cells #[.int .i64 (Z : Int), .int .i64 (N : Int)] 3)) := below_box _
 refine (pputcounts_any B w4.heap.size 2 [Z, N] v l (w4.alloc (.cells #[.int .i64 (Z : Int), .int .i64 (N : Int)] 3)) (h.below hb0) (Nat.le_trans hB hb0.size) (NBox.new w4 [Z, N]) (by intro k hk; simp at hk; omega) (by simp; omega)).mono ?_
 rintro q w' ⟨v', h1, h2, h3, h4⟩
 exact ⟨v', h1, by unfold grpL at h2; simpa using h2, (hb0.mono hB).trans h3, (k8_below hb0).trans h4⟩
set_option maxHeartbeats 32000000 in
theorem eput_any (S : Nat → Prop) (e : EntT) (cs : Array Value) (w : World) (hS : ∀ b, S b → b < w.heap.size) (h : EntL w S e cs) (hd : SmE e) (hm : mayE e = true) :
  Calls Tryz.prog 58 #[.agg cs] w (Gives (codeE e) w) := by
 obtain ⟨IA, ic, IA', ic', DA, dc, DA', dc', LA, lc, rfl, hat⟩ := h.at
 have hsh := short_ent hm hd
 have hmm := (mayE_iff e).1 hm
 obtain ⟨T, hT⟩ : ∃ n : Nat, e.term = n := ⟨e.term.toNat, by have := hmm.t0; omega⟩
 obtain ⟨kb, hkb⟩ : ∃ kb, kb = UInt8.ofNat e.kind.toNat := ⟨_, rfl⟩
 obtain ⟨Z, hZ⟩ : ∃ n : Nat, e.session = n := ⟨e.session.toNat, by have := hmm.s0; omega⟩
 obtain ⟨N, hN⟩ : ∃ n : Nat, e.number = n := ⟨e.number.toNat, by have := hmm.n0; omega⟩
 have hkx : e.kind % 256 = (kb.toNat : Int) := by
  have h1 := hmm.k1
  have h2 := hmm.k7
  rw [hkb, ofNat_toNat _ (by omega)]
  omega
 have HKX := hid hkx
 have HTN : Hid (T ≤ 1099511627776 ∧ Z ≤ 255 ∧ N ≤ 1099511627776) := hid ⟨by have := hmm.t1; omega, by have := hmm.s1; omega, by have := hmm.n1; omega⟩
 have HCE : Hid (codeE e = grp T ++ ([kb] ++ (grp Z ++ (grp N ++ ((if hasColl e.kind then txt e.coll else []) ++ ((if hasTo e.kind then txt e.to else []) ++ ((if hasId e.kind then encO e.id else []) ++ ((if hasDoc e.kind then encO e.doc else []) ++ (if hasDels e.kind then codeDs e.dels else []))))))))) := hid (by
  unfold codeE; rw [hT, hZ, hN, hkb]; rfl)
 have HKH : Hid (ShortE e) := hid hsh
 have HT := hid hT
 have HZ := hid hZ
 have HNN := hid hN
 obtain ⟨w1, hw1⟩ : ∃ W, W = w.alloc (.cells #[.int .i64 e.term, .int .i64 e.kind, .string e.coll, .string e.to, .int .i64 e.id.kind, .int .i64 e.id.num, .string e.id.text, .slice IA e.id.items.length ic, .slice IA' e.id.names.length ic', .int .i64 e.doc.kind, .int .i64 e.doc.num, .string e.doc.text, .slice DA e.doc.items.length dc, .slice DA' e.doc.names.length dc', .slice LA e.dels.length lc, .int .i64 e.session, .int .i64 e.number] 28) := ⟨_, rfl⟩
 have hbk : EBox w1 w.heap.size e IA ic IA' ic' DA dc DA' dc' LA lc := by rw [hw1]; exact heap_alloc_new w _
 have hb1 : Below w.heap.size w w1 := by rw [hw1]; exact below_box _
 obtain ⟨w2, hw2⟩ : ∃ W, W = w1.drew := ⟨_, rfl⟩
 have HK2 : Hid (EBox w2 w.heap.size e IA ic IA' ic' DA dc DA' dc' LA lc) := hid (by rw [hw2]; exact hbk)
 have HB2 : Hid (Below w.heap.size w w2) := hid (by rw [hw2]; exact hb1.drew)
 have HS := hid hS
 have HA := hid hat
 have HD := hid hd
 have HW2 := hid hw2
 have q0 := cell_k8 (w := w2) (g := w.heap.size) (i := 0) HK2.out (by decide) rfl
 have q1 := cell_k8 (w := w2) (g := w.heap.size) (i := 1) HK2.out (by decide) rfl
 rw [hT] at q0
 clear hb1 hbk hS h hat hd hm hsh hmm hT hkb hZ hN hkx hw2
 go_enter Tryz.func58, Tryz.ntmps58
 go_wp2_with fail
 rw [← hw1]
 clear hw1
 refine wp_region_OT K8 (fun w => Lib.OthersKept.refl _ _ _) (fun a b c h k => h.trans k) [] (.pure [0, 1, 4, 5, 6] (.fork 2 (.fork 3 (.step 7 (.step 8 (.free [9] (.tail [])))) 7 (.step 3 (.step 8 (.free [9] (.tail []))))) 7 (.step 2 (.step 3 (.step 8 (.free [9] (.tail []))))))) (by kernel_rfl) (by kernel_rfl) (fun _ d _ _ _ h => by cases d <;> exact h) ?_
 rw [← HW2.out]
 refine ot_pure ?_
 simp only [atR]
 show wpQuiet _ _ _ _ [_, _, _, _, _] _
 repeat (go_big_quiet_step (fail))
 refine wpQuiet_nil ?_
 clear q0 q1
 have hBX : ∀ W o, Below w.heap.size w W → EBox W w.heap.size e IA ic IA' ic' DA dc DA' dc' LA lc → Below w.heap.size w (W.alloc o) ∧ EBox (W.alloc o) w.heap.size e IA ic IA' ic' DA dc DA' dc' LA lc := fun W o h1 h2 => ⟨h1.alloc h1.size o, h2.below (below_box o)⟩
 have HBX := hid hBX
 clear hBX
 have HTC := hid (fun (z c : Nat) (W : World) (h : NBox W z [T]) => one_count (c := c) HTN.out.1 h)
 refine ot_fork rfl rfl (fun K hK => ?_) (fun K hK => ?_)
 focus
  go_simp
  refine hK _ _ (.inr ((Lib.OthersKept.refl _ _ _).alloc _)) ?_
  clear hK K
  obtain ⟨wA, hwA⟩ : ∃ W, W = w2.alloc (.cells #[.int .i64 (T : Int)] 3) := ⟨_, rfl⟩
  rw [← hwA]
  have HwA := hid (show Below w.heap.size w wA ∧ EBox wA w.heap.size e IA ic IA' ic' DA dc DA' dc' LA lc ∧ NBox wA w2.heap.size [T] ∧ True by rw [hwA]; exact ⟨(HBX.out _ _ HB2.out HK2.out).1, (HBX.out _ _ HB2.out HK2.out).2, NBox.new w2 [T], trivial⟩)
  clear hwA
  refine ot_fork rfl rfl (fun K hK => ?_) (fun K hK => ?_)
  focus
   go_simp
   refine (HTC.out _ _ wA HwA.out.2.2.1).mono ?_
   rintro q w3 ⟨v3, rfl, hv3, hb3⟩
   go_simp
   refine hK _ _ (.inr (k8_below hb3)) ?_
   clear hK K
   have HX2 : Hid (OwnB w3 w.heap.size v3 (grp T) ∧ Below w.heap.size w w3 ∧ EBox w3 w.heap.size e IA ic IA' ic' DA dc DA' dc' LA lc) := hid ⟨hv3.base HwA.out.1.size, HwA.out.1.trans (hb3.mono HwA.out.1.size), HwA.out.2.1.below hb3⟩
   clear hv3 hb3 HwA
   try simp only [acR, Act.put]
   refine ot_step rfl (fun K hK => ?_)
   go_simp
   refine hK _ _ (.inr ((Lib.OthersKept.refl _ _ _).alloc _)) ?_
   clear hK K
   obtain ⟨w5, hw5⟩ : ∃ W, W = w3.alloc (.cells #[.int .u8 (e.kind % 256)] 5) := ⟨_, rfl⟩
   rw [← hw5]
   have HX3 : Hid (OwnB w5 w.heap.size v3 (grp T) ∧ Below w.heap.size w w5 ∧ EBox w5 w.heap.size e IA ic IA' ic' DA dc DA' dc' LA lc ∧ Rd w5 w5.heap.size (.slice (some ⟨w3.heap.size, 0, none⟩) 1 1) [kb]) := hid (by
    have h1 := HBX.out w3 (.cells #[.int .u8 (e.kind % 256)] 5) HX2.out.2.1 HX2.out.2.2
    rw [hw5]
    exact ⟨HX2.out.1.below (below_box _), h1.1, h1.2, (Rd.one' rfl kb HKX.out).upE (by simp)⟩)
   clear hw5 HX2
   try simp only [acR, Act.put]
   refine ot_act rfl rfl (fun K hK => ?_)
   refine wp_append_bytesR _ _ rfl w.heap.size v3 (grp T) rfl HX3.out.1 w5.heap.size _ [kb] rfl HX3.out.2.2.2 (by simp) HX3.out.2.1.size (by have := (grp_length T).1; simp; omega) (fun v4 w4 hv4 hg4 => ?_)
   refine hK _ _ (.inr (k8_grown HX3.out.1 hg4)) ?_
   clear hK K
   have HX4 : Hid (OwnB w4 w.heap.size v4 (grp T ++ [kb]) ∧ Below w.heap.size w w4 ∧ EBox w4 w.heap.size e IA ic IA' ic' DA dc DA' dc' LA lc) := hid ⟨hv4, below_own HX3.out.2.1 HX3.out.1 HX3.out.2.1.size hg4, ebox_k8 HX3.out.2.2.1 (k8_grown HX3.out.1 hg4)⟩
   clear hv4 hg4 HX3
   try simp only [acR, Act.put]
   refine ot_free ?_
   simp only [atR]
   show wpQuiet _ _ _ _ [_] _
   repeat (go_big_quiet_step (fail))
   refine wpQuiet_nil ?_
   refine ot_end ?_
  rotate_left
  focus
   go_simp
   refine hK _ _ (.inr ((Lib.OthersKept.refl _ _ _).alloc _)) ?_
   clear hK K
   obtain ⟨wB, hwB⟩ : ∃ W, W = wA.alloc (.cells #[.int .u8 (e.kind % 256)] 5) := ⟨_, rfl⟩
   rw [← hwB]
   have HwB := hid (show Below w.heap.size w wB ∧ EBox wB w.heap.size e IA ic IA' ic' DA dc DA' dc' LA lc ∧ NBox wB w2.heap.size [T] ∧ Rd wB wB.heap.size (.slice (some ⟨wA.heap.size, 0, none⟩) 1 1) [kb] by
    have h1 := HBX.out wA (.cells #[.int .u8 (e.kind % 256)] 5) HwA.out.1 HwA.out.2.1
    rw [hwB]
    exact ⟨h1.1, h1.2, HwA.out.2.2.1.k8 (k8_below (below_box _)), (Rd.one' rfl kb HKX.out).upE (by simp)⟩)
   clear hwB HwA
   try simp only [acR, Act.put]
   refine ot_step rfl (fun K hK => ?_)
   go_simp
   refine (HTC.out _ _ wB HwB.out.2.2.1).mono ?_
   rintro q w3 ⟨v3, rfl, hv3, hb3⟩
   go_simp
   refine hK _ _ (.inr (k8_below hb3)) ?_
   clear hK K
   have HX3 : Hid (OwnB w3 w.heap.size v3 (grp T) ∧ Below w.heap.size w w3 ∧ EBox w3 w.heap.size e IA ic IA' ic' DA dc DA' dc' LA lc ∧ Rd w3 w3.heap.size (.slice (some ⟨wA.heap.size, 0, none⟩) 1 1) [kb]) := hid ⟨hv3.base HwB.out.1.size, HwB.out.1.trans (hb3.mono HwB.out.1.size), HwB.out.2.1.below hb3, (HwB.out.2.2.2.keep hb3).upE hb3.size⟩
   clear hv3 hb3 HwB
   try simp only [acR, Act.put]
   refine ot_act rfl rfl (fun K hK => ?_)
   refine wp_append_bytesR _ _ rfl w.heap.size v3 (grp T) rfl HX3.out.1 w3.heap.size _ [kb] rfl HX3.out.2.2.2 (by simp) HX3.out.2.1.size (by have := (grp_length T).1; simp; omega) (fun v4 w4 hv4 hg4 => ?_)
   refine hK _ _ (.inr (k8_grown HX3.out.1 hg4)) ?_
   clear hK K
   have HX4 : Hid (OwnB w4 w.heap.size v4 (grp T ++ [kb]) ∧ Below w.heap.size w w4 ∧ EBox w4 w.heap.size e IA ic IA' ic' DA dc DA' dc' LA lc) := hid ⟨hv4, below_own HX3.out.2.1 HX3.out.1 HX3.out.2.1.size hg4, ebox_k8 HX3.out.2.2.1 (k8_grown HX3.out.1 hg4)⟩
   clear hv4 hg4 HX3
   try simp only [acR, Act.put]
   refine ot_free ?_
   simp only [atR]
   show wpQuiet _ _ _ _ [_] _
   repeat (go_big_quiet_step (fail))
   refine wpQuiet_nil ?_
   refine ot_end ?_
  rotate_left
 rotate_left 2
 focus
  go_simp
  refine hK _ _ (.inr ((Lib.OthersKept.refl _ _ _).alloc _)) ?_
  clear hK K
  obtain ⟨wA, hwA⟩ : ∃ W, W = w2.alloc (.cells #[.int .u8 (e.kind % 256)] 5) := ⟨_, rfl⟩
  rw [← hwA]
  have HwA := hid (show Below w.heap.size w wA ∧ EBox wA w.heap.size e IA ic IA' ic' DA dc DA' dc' LA lc ∧ Rd wA wA.heap.size (.slice (some ⟨w2.heap.size, 0, none⟩) 1 1) [kb] by
   have h1 := HBX.out w2 (.cells #[.int .u8 (e.kind % 256)] 5) HB2.out HK2.out
   rw [hwA]
   exact ⟨h1.1, h1.2, (Rd.one' rfl kb HKX.out).upE (by simp)⟩)
  clear hwA
  try simp only [acR, Act.put]
  refine ot_step rfl (fun K hK => ?_)
  go_simp
  refine hK _ _ (.inr ((Lib.OthersKept.refl _ _ _).alloc _)) ?_
  clear hK K
  obtain ⟨wB, hwB⟩ : ∃ W, W = wA.alloc (.cells #[.int .i64 (T : Int)] 3) := ⟨_, rfl⟩
  rw [← hwB]
  have HwB := hid (show Below w.heap.size w wB ∧ EBox wB w.heap.size e IA ic IA' ic' DA dc DA' dc' LA lc ∧ NBox wB wA.heap.size [T] ∧ Rd wB wB.heap.size (.slice (some ⟨w2.heap.size, 0, none⟩) 1 1) [kb] by
   have h1 := HBX.out wA (.cells #[.int .i64 (T : Int)] 3) HwA.out.1 HwA.out.2.1
   rw [hwB]
   exact ⟨h1.1, h1.2, NBox.new wA [T], (HwA.out.2.2.keep (below_box _)).upE (by simp)⟩)
  clear hwB HwA
  try simp only [acR, Act.put]
  refine ot_step rfl (fun K hK => ?_)
  go_simp
  refine (HTC.out _ _ wB HwB.out.2.2.1).mono ?_
  rintro q w3 ⟨v3, rfl, hv3, hb3⟩
  go_simp
  refine hK _ _ (.inr (k8_below hb3)) ?_
  clear hK K
  have HX3 : Hid (OwnB w3 w.heap.size v3 (grp T) ∧ Below w.heap.size w w3 ∧ EBox w3 w.heap.size e IA ic IA' ic' DA dc DA' dc' LA lc ∧ Rd w3 w3.heap.size (.slice (some ⟨w2.heap.size, 0, none⟩) 1 1) [kb]) := hid ⟨hv3.base HwB.out.1.size, HwB.out.1.trans (hb3.mono HwB.out.1.size), HwB.out.2.1.below hb3, (HwB.out.2.2.2.keep hb3).upE hb3.size⟩
  clear hv3 hb3 HwB
  try simp only [acR, Act.put]
  refine ot_act rfl rfl (fun K hK => ?_)
  refine wp_append_bytesR _ _ rfl w.heap.size v3 (grp T) rfl HX3.out.1 w3.heap.size _ [kb] rfl HX3.out.2.2.2 (by simp) HX3.out.2.1.size (by have := (grp_length T).1; simp; omega) (fun v4 w4 hv4 hg4 => ?_)
  refine hK _ _ (.inr (k8_grown HX3.out.1 hg4)) ?_
  clear hK K
  have HX4 : Hid (OwnB w4 w.heap.size v4 (grp T ++ [kb]) ∧ Below w.heap.size w w4 ∧ EBox w4 w.heap.size e IA ic IA' ic' DA dc DA' dc' LA lc) := hid ⟨hv4, below_own HX3.out.2.1 HX3.out.1 HX3.out.2.1.size hg4, ebox_k8 HX3.out.2.2.1 (k8_grown HX3.out.1 hg4)⟩
  clear hv4 hg4 HX3
  try simp only [acR, Act.put]
  refine ot_free ?_
  simp only [atR]
  show wpQuiet _ _ _ _ [_] _
  repeat (go_big_quiet_step (fail))
  refine wpQuiet_nil ?_
  refine ot_end ?_
 rotate_left
 all_goals
  have y15 := HX4.out.2.2.g15
  have y16 := HX4.out.2.2.g16
  rw [HZ.out] at y15
  rw [HNN.out] at y16
  have HP := hid (two_count HX4.out.1 HX4.out.2.1.size HTN.out.2.1 HTN.out.2.2 (by have := (grp_length T).1; simp; omega))
  go_wp2_with fail
  refine HP.out.mono ?_
  rintro q w6 ⟨v6, rfl, hv6, hb6, hk6⟩
  have HX6 : Hid (OwnB w6 w.heap.size v6 (grp T ++ [kb] ++ (grp Z ++ grp N)) ∧ Below w.heap.size w w6 ∧ EBox w6 w.heap.size e IA ic IA' ic' DA dc DA' dc' LA lc) := hid ⟨hv6, toStart' HX4.out.2.1 hb6, ebox_k8 HX4.out.2.2 hk6⟩
  clear hv6 hb6 hk6 HP HX4 y15 y16
  have hal : (grp T ++ [kb] ++ (grp Z ++ grp N)).length ≤ 100 := by have := (grp_length T).1; have := (grp_length Z).1; have := (grp_length N).1; simp; omega
  obtain ⟨acc6, hacc⟩ : ∃ acc, acc = grp T ++ [kb] ++ (grp Z ++ grp N) := ⟨_, rfl⟩
  have HA6 := hid hacc
  rw [← hacc] at HX6 hal
  have HL6 := hid hal
  clear hacc hal
  have y1 := HX6.out.2.2.g1
  go_wp2_with fail
  refine (efields_any e.kind _).mono ?_
  rintro q u ⟨rfl, hw⟩
  replace hw := hw.symm
  subst hw
  clear y1
  rcases has_combo e.kind with ⟨c1, c2, c3, c4, c5⟩ | ⟨c1, c2, c3, c4, c5⟩ | ⟨c1, c2, c3, c4, c5⟩ | ⟨c1, c2, c3, c4, c5⟩ | ⟨c1, c2, c3, c4, c5⟩ | ⟨c1, c2, c3, c4, c5⟩
  ·have C1 := hid c1
   have C2 := hid c2
   have C3 := hid c3
   have C4 := hid c4
   have C5 := hid c5
   clear c1 c2 c3 c4 c5
   go_wp2_with fail
   refine (ehas_coll e.kind _).mono ?_
   rintro q u ⟨rfl, hw⟩
   replace hw := hw.symm
   subst hw
   rw [C1.out]
   go_wp2_with fail
   refine (ehas_to e.kind _).mono ?_
   rintro q u ⟨rfl, hw⟩
   replace hw := hw.symm
   subst hw
   rw [C2.out]
   go_wp2_with fail
   refine (ehas_id e.kind _).mono ?_
   rintro q u ⟨rfl, hw⟩
   replace hw := hw.symm
   subst hw
   rw [C3.out]
   go_wp2_with fail
   refine (ehas_doc e.kind _).mono ?_
   rintro q u ⟨rfl, hw⟩
   replace hw := hw.symm
   subst hw
   rw [C4.out]
   go_wp2_with fail
   refine (ehas_dels e.kind _).mono ?_
   rintro q u ⟨rfl, hw⟩
   replace hw := hw.symm
   subst hw
   rw [C5.out]
   go_wp2_with fail
   go_ret
   refine ⟨_, rfl, ?_, HX6.out.2.1⟩
   have hfin : codeE e = acc6 := by rw [HCE.out, C1.out, C2.out, C3.out, C4.out, C5.out, HA6.out]; simp [List.append_assoc]
   rw [hfin]
   exact HX6.out.1
  ·have C1 := hid c1
   have C2 := hid c2
   have C3 := hid c3
   have C4 := hid c4
   have C5 := hid c5
   clear c1 c2 c3 c4 c5
   go_wp2_with fail
   refine (ehas_coll e.kind _).mono ?_
   rintro q u ⟨rfl, hw⟩
   replace hw := hw.symm
   subst hw
   rw [C1.out]
   have y2 := HX6.out.2.2.g2
   go_wp2_with fail
   refine (text_any e.coll _ (by have := HKH.out.cz; omega)).mono ?_
   rintro q w7 ⟨x, rfl, hx, hb⟩
   have HY : Hid (OwnB w7 w.heap.size v6 (acc6) ∧ Below w.heap.size w w7 ∧ EBox w7 w.heap.size e IA ic IA' ic' DA dc DA' dc' LA lc ∧ Rd w7 w7.heap.size x (txt e.coll)) := hid ⟨HX6.out.1.below hb, HX6.out.2.1.trans (hb.mono HX6.out.2.1.size), HX6.out.2.2.below hb, hx.rd⟩
   clear hx hb y2 HX6
   go_wp2_with (at_builtin; go_must (refine wpList_append_bytes rfl _ _ rfl w.heap.size _ (acc6) rfl HY.out.1 w7.heap.size x (txt e.coll) rfl HY.out.2.2.2 HY.out.2.1.size (by have := HL6.out; have := HKH.out.coll; omega) ?_))
   intro v8 w8 hv hg
   have HX8 : Hid (OwnB w8 w.heap.size v8 (acc6 ++ txt e.coll) ∧ Below w.heap.size w w8 ∧ EBox w8 w.heap.size e IA ic IA' ic' DA dc DA' dc' LA lc) := hid ⟨by simpa [List.append_assoc] using hv, below_own HY.out.2.1 HY.out.1 HY.out.2.1.size hg, ebox_k8 HY.out.2.2.1 (k8_grown HY.out.1 hg)⟩
   clear hv hg HY
   have HL8 : Hid ((acc6 ++ txt e.coll).length ≤ 40000) := hid (by have := HL6.out; have := HKH.out.coll; rw [List.length_append]; omega)
   go_wp2_with fail
   refine (ehas_to e.kind _).mono ?_
   rintro q u ⟨rfl, hw⟩
   replace hw := hw.symm
   subst hw
   rw [C2.out]
   go_wp2_with fail
   refine (ehas_id e.kind _).mono ?_
   rintro q u ⟨rfl, hw⟩
   replace hw := hw.symm
   subst hw
   rw [C3.out]
   have y4 := HX8.out.2.2.g4
   have y5 := HX8.out.2.2.g5
   have y6 := HX8.out.2.2.g6
   have y7 := HX8.out.2.2.g7
   have y8 := HX8.out.2.2.g8
   have HP := hid (cputs_any S e.id _ v8 (acc6 ++ txt e.coll) w8 (fun b hb => Nat.lt_of_lt_of_le (HS.out b hb) HX8.out.2.1.size) (HA.out.below HS.out HX8.out.2.1).id HD.out.idd HD.out.idz (by have := HL8.out; omega) HX8.out.1.rd)
   go_wp2_with fail
   refine HP.out.mono ?_
   rintro q w9 ⟨v9, rfl, hv, hb⟩
   have HX9 : Hid (OwnB w9 w.heap.size v9 (acc6 ++ txt e.coll ++ encO e.id) ∧ Below w.heap.size w w9 ∧ EBox w9 w.heap.size e IA ic IA' ic' DA dc DA' dc' LA lc) := hid ⟨hv.base HX8.out.2.1.size, HX8.out.2.1.trans (hb.mono HX8.out.2.1.size), HX8.out.2.2.below hb⟩
   have HL9 : Hid ((acc6 ++ txt e.coll ++ encO e.id).length ≤ 45000) := hid (by have := HL8.out; have := HKH.out.id; rw [List.length_append]; omega)
   clear hv hb HP HX8 y4 y5 y6 y7 y8
   go_wp2_with fail
   refine (ehas_doc e.kind _).mono ?_
   rintro q u ⟨rfl, hw⟩
   replace hw := hw.symm
   subst hw
   rw [C4.out]
   have y9 := HX9.out.2.2.g9
   have y10 := HX9.out.2.2.g10
   have y11 := HX9.out.2.2.g11
   have y12 := HX9.out.2.2.g12
   have y13 := HX9.out.2.2.g13
   have HP := hid (cputs_any S e.doc _ v9 (acc6 ++ txt e.coll ++ encO e.id) w9 (fun b hb => Nat.lt_of_lt_of_le (HS.out b hb) HX9.out.2.1.size) (HA.out.below HS.out HX9.out.2.1).doc HD.out.docd HD.out.docz (by have := HL9.out; omega) HX9.out.1.rd)
   go_wp2_with fail
   refine HP.out.mono ?_
   rintro q w10 ⟨v10, rfl, hv, hb⟩
   have HX10 : Hid (OwnB w10 w.heap.size v10 (acc6 ++ txt e.coll ++ encO e.id ++ encO e.doc) ∧ Below w.heap.size w w10 ∧ EBox w10 w.heap.size e IA ic IA' ic' DA dc DA' dc' LA lc) := hid ⟨hv.base HX9.out.2.1.size, HX9.out.2.1.trans (hb.mono HX9.out.2.1.size), HX9.out.2.2.below hb⟩
   have HL10 : Hid ((acc6 ++ txt e.coll ++ encO e.id ++ encO e.doc).length ≤ 50000) := hid (by have := HL9.out; have := HKH.out.doc; rw [List.length_append]; omega)
   clear hv hb HP HX9 y9 y10 y11 y12 y13
   go_wp2_with fail
   refine (ehas_dels e.kind _).mono ?_
   rintro q u ⟨rfl, hw⟩
   replace hw := hw.symm
   subst hw
   rw [C5.out]
   go_wp2_with fail
   go_ret
   refine ⟨_, rfl, ?_, HX10.out.2.1⟩
   have hfin : codeE e = acc6 ++ txt e.coll ++ encO e.id ++ encO e.doc := by rw [HCE.out, C1.out, C2.out, C3.out, C4.out, C5.out, HA6.out]; simp [List.append_assoc]
   rw [hfin]
   exact HX10.out.1
  ·have C1 := hid c1
   have C2 := hid c2
   have C3 := hid c3
   have C4 := hid c4
   have C5 := hid c5
   clear c1 c2 c3 c4 c5
   go_wp2_with fail
   refine (ehas_coll e.kind _).mono ?_
   rintro q u ⟨rfl, hw⟩
   replace hw := hw.symm
   subst hw
   rw [C1.out]
   have y2 := HX6.out.2.2.g2
   go_wp2_with fail
   refine (text_any e.coll _ (by have := HKH.out.cz; omega)).mono ?_
   rintro q w7 ⟨x, rfl, hx, hb⟩
   have HY : Hid (OwnB w7 w.heap.size v6 (acc6) ∧ Below w.heap.size w w7 ∧ EBox w7 w.heap.size e IA ic IA' ic' DA dc DA' dc' LA lc ∧ Rd w7 w7.heap.size x (txt e.coll)) := hid ⟨HX6.out.1.below hb, HX6.out.2.1.trans (hb.mono HX6.out.2.1.size), HX6.out.2.2.below hb, hx.rd⟩
   clear hx hb y2 HX6
   go_wp2_with (at_builtin; go_must (refine wpList_append_bytes rfl _ _ rfl w.heap.size _ (acc6) rfl HY.out.1 w7.heap.size x (txt e.coll) rfl HY.out.2.2.2 HY.out.2.1.size (by have := HL6.out; have := HKH.out.coll; omega) ?_))
   intro v8 w8 hv hg
   have HX8 : Hid (OwnB w8 w.heap.size v8 (acc6 ++ txt e.coll) ∧ Below w.heap.size w w8 ∧ EBox w8 w.heap.size e IA ic IA' ic' DA dc DA' dc' LA lc) := hid ⟨by simpa [List.append_assoc] using hv, below_own HY.out.2.1 HY.out.1 HY.out.2.1.size hg, ebox_k8 HY.out.2.2.1 (k8_grown HY.out.1 hg)⟩
   clear hv hg HY
   have HL8 : Hid ((acc6 ++ txt e.coll).length ≤ 40000) := hid (by have := HL6.out; have := HKH.out.coll; rw [List.length_append]; omega)
   go_wp2_with fail
   refine (ehas_to e.kind _).mono ?_
   rintro q u ⟨rfl, hw⟩
   replace hw := hw.symm
   subst hw
   rw [C2.out]
   go_wp2_with fail
   refine (ehas_id e.kind _).mono ?_
   rintro q u ⟨rfl, hw⟩
   replace hw := hw.symm
   subst hw
   rw [C3.out]
   have y4 := HX8.out.2.2.g4
   have y5 := HX8.out.2.2.g5
   have y6 := HX8.out.2.2.g6
   have y7 := HX8.out.2.2.g7
   have y8 := HX8.out.2.2.g8
   have HP := hid (cputs_any S e.id _ v8 (acc6 ++ txt e.coll) w8 (fun b hb => Nat.lt_of_lt_of_le (HS.out b hb) HX8.out.2.1.size) (HA.out.below HS.out HX8.out.2.1).id HD.out.idd HD.out.idz (by have := HL8.out; omega) HX8.out.1.rd)
   go_wp2_with fail
   refine HP.out.mono ?_
   rintro q w9 ⟨v9, rfl, hv, hb⟩
   have HX9 : Hid (OwnB w9 w.heap.size v9 (acc6 ++ txt e.coll ++ encO e.id) ∧ Below w.heap.size w w9 ∧ EBox w9 w.heap.size e IA ic IA' ic' DA dc DA' dc' LA lc) := hid ⟨hv.base HX8.out.2.1.size, HX8.out.2.1.trans (hb.mono HX8.out.2.1.size), HX8.out.2.2.below hb⟩
   have HL9 : Hid ((acc6 ++ txt e.coll ++ encO e.id).length ≤ 45000) := hid (by have := HL8.out; have := HKH.out.id; rw [List.length_append]; omega)
   clear hv hb HP HX8 y4 y5 y6 y7 y8
   go_wp2_with fail
   refine (ehas_doc e.kind _).mono ?_
   rintro q u ⟨rfl, hw⟩
   replace hw := hw.symm
   subst hw
   rw [C4.out]
   go_wp2_with fail
   refine (ehas_dels e.kind _).mono ?_
   rintro q u ⟨rfl, hw⟩
   replace hw := hw.symm
   subst hw
   rw [C5.out]
   have y14 := HX9.out.2.2.g14
   have HP := hid (dlput_any S LA lc e.dels v9 (acc6 ++ txt e.coll ++ encO e.id) w9 (fun b hb => Nat.lt_of_lt_of_le (HS.out b hb) HX9.out.2.1.size) (HA.out.below HS.out HX9.out.2.1).dels (by have := HA.out.len; omega) HD.out.dels HX9.out.1.rd (by have := HL9.out; omega))
   go_wp2_with fail
   refine HP.out.mono ?_
   rintro q w10 ⟨v10, rfl, hv, hb⟩
   have HX10 : Hid (OwnB w10 w.heap.size v10 (acc6 ++ txt e.coll ++ encO e.id ++ codeDs e.dels) ∧ Below w.heap.size w w10 ∧ EBox w10 w.heap.size e IA ic IA' ic' DA dc DA' dc' LA lc) := hid ⟨hv.base HX9.out.2.1.size, HX9.out.2.1.trans (hb.mono HX9.out.2.1.size), HX9.out.2.2.below hb⟩
   clear hv hb HP HX9 y14
   go_wp2_with fail
   go_ret
   refine ⟨_, rfl, ?_, HX10.out.2.1⟩
   have hfin : codeE e = acc6 ++ txt e.coll ++ encO e.id ++ codeDs e.dels := by rw [HCE.out, C1.out, C2.out, C3.out, C4.out, C5.out, HA6.out]; simp [List.append_assoc]
   rw [hfin]
   exact HX10.out.1
  ·have C1 := hid c1
   have C2 := hid c2
   have C3 := hid c3
   have C4 := hid c4
   have C5 := hid c5
   clear c1 c2 c3 c4 c5
   go_wp2_with fail
   refine (ehas_coll e.kind _).mono ?_
   rintro q u ⟨rfl, hw⟩
   replace hw := hw.symm
   subst hw
   rw [C1.out]
   have y2 := HX6.out.2.2.g2
   go_wp2_with fail
   refine (text_any e.coll _ (by have := HKH.out.cz; omega)).mono ?_
   rintro q w7 ⟨x, rfl, hx, hb⟩
   have HY : Hid (OwnB w7 w.heap.size v6 (acc6) ∧ Below w.heap.size w w7 ∧ EBox w7 w.heap.size e IA ic IA' ic' DA dc DA' dc' LA lc ∧ Rd w7 w7.heap.size x (txt e.coll)) := hid ⟨HX6.out.1.below hb, HX6.out.2.1.trans (hb.mono HX6.out.2.1.size), HX6.out.2.2.below hb, hx.rd⟩
   clear hx hb y2 HX6
   go_wp2_with (at_builtin; go_must (refine wpList_append_bytes rfl _ _ rfl w.heap.size _ (acc6) rfl HY.out.1 w7.heap.size x (txt e.coll) rfl HY.out.2.2.2 HY.out.2.1.size (by have := HL6.out; have := HKH.out.coll; omega) ?_))
   intro v8 w8 hv hg
   have HX8 : Hid (OwnB w8 w.heap.size v8 (acc6 ++ txt e.coll) ∧ Below w.heap.size w w8 ∧ EBox w8 w.heap.size e IA ic IA' ic' DA dc DA' dc' LA lc) := hid ⟨by simpa [List.append_assoc] using hv, below_own HY.out.2.1 HY.out.1 HY.out.2.1.size hg, ebox_k8 HY.out.2.2.1 (k8_grown HY.out.1 hg)⟩
   clear hv hg HY
   have HL8 : Hid ((acc6 ++ txt e.coll).length ≤ 40000) := hid (by have := HL6.out; have := HKH.out.coll; rw [List.length_append]; omega)
   go_wp2_with fail
   refine (ehas_to e.kind _).mono ?_
   rintro q u ⟨rfl, hw⟩
   replace hw := hw.symm
   subst hw
   rw [C2.out]
   go_wp2_with fail
   refine (ehas_id e.kind _).mono ?_
   rintro q u ⟨rfl, hw⟩
   replace hw := hw.symm
   subst hw
   rw [C3.out]
   have y4 := HX8.out.2.2.g4
   have y5 := HX8.out.2.2.g5
   have y6 := HX8.out.2.2.g6
   have y7 := HX8.out.2.2.g7
   have y8 := HX8.out.2.2.g8
   have HP := hid (cputs_any S e.id _ v8 (acc6 ++ txt e.coll) w8 (fun b hb => Nat.lt_of_lt_of_le (HS.out b hb) HX8.out.2.1.size) (HA.out.below HS.out HX8.out.2.1).id HD.out.idd HD.out.idz (by have := HL8.out; omega) HX8.out.1.rd)
   go_wp2_with fail
   refine HP.out.mono ?_
   rintro q w9 ⟨v9, rfl, hv, hb⟩
   have HX9 : Hid (OwnB w9 w.heap.size v9 (acc6 ++ txt e.coll ++ encO e.id) ∧ Below w.heap.size w w9 ∧ EBox w9 w.heap.size e IA ic IA' ic' DA dc DA' dc' LA lc) := hid ⟨hv.base HX8.out.2.1.size, HX8.out.2.1.trans (hb.mono HX8.out.2.1.size), HX8.out.2.2.below hb⟩
   have HL9 : Hid ((acc6 ++ txt e.coll ++ encO e.id).length ≤ 45000) := hid (by have := HL8.out; have := HKH.out.id; rw [List.length_append]; omega)
   clear hv hb HP HX8 y4 y5 y6 y7 y8
   go_wp2_with fail
   refine (ehas_doc e.kind _).mono ?_
   rintro q u ⟨rfl, hw⟩
   replace hw := hw.symm
   subst hw
   rw [C4.out]
   go_wp2_with fail
   refine (ehas_dels e.kind _).mono ?_
   rintro q u ⟨rfl, hw⟩
   replace hw := hw.symm
   subst hw
   rw [C5.out]
   go_wp2_with fail
   go_ret
   refine ⟨_, rfl, ?_, HX9.out.2.1⟩
   have hfin : codeE e = acc6 ++ txt e.coll ++ encO e.id := by rw [HCE.out, C1.out, C2.out, C3.out, C4.out, C5.out, HA6.out]; simp [List.append_assoc]
   rw [hfin]
   exact HX9.out.1
  ·have C1 := hid c1
   have C2 := hid c2
   have C3 := hid c3
   have C4 := hid c4
   have C5 := hid c5
   clear c1 c2 c3 c4 c5
   go_wp2_with fail
   refine (ehas_coll e.kind _).mono ?_
   rintro q u ⟨rfl, hw⟩
   replace hw := hw.symm
   subst hw
   rw [C1.out]
   have y2 := HX6.out.2.2.g2
   go_wp2_with fail
   refine (text_any e.coll _ (by have := HKH.out.cz; omega)).mono ?_
   rintro q w7 ⟨x, rfl, hx, hb⟩
   have HY : Hid (OwnB w7 w.heap.size v6 (acc6) ∧ Below w.heap.size w w7 ∧ EBox w7 w.heap.size e IA ic IA' ic' DA dc DA' dc' LA lc ∧ Rd w7 w7.heap.size x (txt e.coll)) := hid ⟨HX6.out.1.below hb, HX6.out.2.1.trans (hb.mono HX6.out.2.1.size), HX6.out.2.2.below hb, hx.rd⟩
   clear hx hb y2 HX6
   go_wp2_with (at_builtin; go_must (refine wpList_append_bytes rfl _ _ rfl w.heap.size _ (acc6) rfl HY.out.1 w7.heap.size x (txt e.coll) rfl HY.out.2.2.2 HY.out.2.1.size (by have := HL6.out; have := HKH.out.coll; omega) ?_))
   intro v8 w8 hv hg
   have HX8 : Hid (OwnB w8 w.heap.size v8 (acc6 ++ txt e.coll) ∧ Below w.heap.size w w8 ∧ EBox w8 w.heap.size e IA ic IA' ic' DA dc DA' dc' LA lc) := hid ⟨by simpa [List.append_assoc] using hv, below_own HY.out.2.1 HY.out.1 HY.out.2.1.size hg, ebox_k8 HY.out.2.2.1 (k8_grown HY.out.1 hg)⟩
   clear hv hg HY
   have HL8 : Hid ((acc6 ++ txt e.coll).length ≤ 40000) := hid (by have := HL6.out; have := HKH.out.coll; rw [List.length_append]; omega)
   go_wp2_with fail
   refine (ehas_to e.kind _).mono ?_
   rintro q u ⟨rfl, hw⟩
   replace hw := hw.symm
   subst hw
   rw [C2.out]
   go_wp2_with fail
   refine (ehas_id e.kind _).mono ?_
   rintro q u ⟨rfl, hw⟩
   replace hw := hw.symm
   subst hw
   rw [C3.out]
   go_wp2_with fail
   refine (ehas_doc e.kind _).mono ?_
   rintro q u ⟨rfl, hw⟩
   replace hw := hw.symm
   subst hw
   rw [C4.out]
   go_wp2_with fail
   refine (ehas_dels e.kind _).mono ?_
   rintro q u ⟨rfl, hw⟩
   replace hw := hw.symm
   subst hw
   rw [C5.out]
   go_wp2_with fail
   go_ret
   refine ⟨_, rfl, ?_, HX8.out.2.1⟩
   have hfin : codeE e = acc6 ++ txt e.coll := by rw [HCE.out, C1.out, C2.out, C3.out, C4.out, C5.out, HA6.out]; simp [List.append_assoc]
   rw [hfin]
   exact HX8.out.1
  ·have C1 := hid c1
   have C2 := hid c2
   have C3 := hid c3
   have C4 := hid c4
   have C5 := hid c5
   clear c1 c2 c3 c4 c5
   go_wp2_with fail
   refine (ehas_coll e.kind _).mono ?_
   rintro q u ⟨rfl, hw⟩
   replace hw := hw.symm
   subst hw
   rw [C1.out]
   have y2 := HX6.out.2.2.g2
   go_wp2_with fail
   refine (text_any e.coll _ (by have := HKH.out.cz; omega)).mono ?_
   rintro q w7 ⟨x, rfl, hx, hb⟩
   have HY : Hid (OwnB w7 w.heap.size v6 (acc6) ∧ Below w.heap.size w w7 ∧ EBox w7 w.heap.size e IA ic IA' ic' DA dc DA' dc' LA lc ∧ Rd w7 w7.heap.size x (txt e.coll)) := hid ⟨HX6.out.1.below hb, HX6.out.2.1.trans (hb.mono HX6.out.2.1.size), HX6.out.2.2.below hb, hx.rd⟩
   clear hx hb y2 HX6
   go_wp2_with (at_builtin; go_must (refine wpList_append_bytes rfl _ _ rfl w.heap.size _ (acc6) rfl HY.out.1 w7.heap.size x (txt e.coll) rfl HY.out.2.2.2 HY.out.2.1.size (by have := HL6.out; have := HKH.out.coll; omega) ?_))
   intro v8 w8 hv hg
   have HX8 : Hid (OwnB w8 w.heap.size v8 (acc6 ++ txt e.coll) ∧ Below w.heap.size w w8 ∧ EBox w8 w.heap.size e IA ic IA' ic' DA dc DA' dc' LA lc) := hid ⟨by simpa [List.append_assoc] using hv, below_own HY.out.2.1 HY.out.1 HY.out.2.1.size hg, ebox_k8 HY.out.2.2.1 (k8_grown HY.out.1 hg)⟩
   clear hv hg HY
   have HL8 : Hid ((acc6 ++ txt e.coll).length ≤ 40000) := hid (by have := HL6.out; have := HKH.out.coll; rw [List.length_append]; omega)
   go_wp2_with fail
   refine (ehas_to e.kind _).mono ?_
   rintro q u ⟨rfl, hw⟩
   replace hw := hw.symm
   subst hw
   rw [C2.out]
   have y3 := HX8.out.2.2.g3
   go_wp2_with fail
   refine (text_any e.to _ (by have := HKH.out.tz; omega)).mono ?_
   rintro q w9 ⟨x, rfl, hx, hb⟩
   have HY : Hid (OwnB w9 w.heap.size v8 (acc6 ++ txt e.coll) ∧ Below w.heap.size w w9 ∧ EBox w9 w.heap.size e IA ic IA' ic' DA dc DA' dc' LA lc ∧ Rd w9 w9.heap.size x (txt e.to)) := hid ⟨HX8.out.1.below hb, HX8.out.2.1.trans (hb.mono HX8.out.2.1.size), HX8.out.2.2.below hb, hx.rd⟩
   clear hx hb y3 HX8
   go_wp2_with (at_builtin; go_must (refine wpList_append_bytes rfl _ _ rfl w.heap.size _ (acc6 ++ txt e.coll) rfl HY.out.1 w9.heap.size x (txt e.to) rfl HY.out.2.2.2 HY.out.2.1.size (by have := HL8.out; have := HKH.out.to; omega) ?_))
   intro v10 w10 hv hg
   have HX10 : Hid (OwnB w10 w.heap.size v10 (acc6 ++ txt e.coll ++ txt e.to) ∧ Below w.heap.size w w10 ∧ EBox w10 w.heap.size e IA ic IA' ic' DA dc DA' dc' LA lc) := hid ⟨by simpa [List.append_assoc] using hv, below_own HY.out.2.1 HY.out.1 HY.out.2.1.size hg, ebox_k8 HY.out.2.2.1 (k8_grown HY.out.1 hg)⟩
   clear hv hg HY
   have HL10 : Hid ((acc6 ++ txt e.coll ++ txt e.to).length ≤ 50000) := hid (by have := HL8.out; have := HKH.out.to; rw [List.length_append]; omega)
   go_wp2_with fail
   refine (ehas_id e.kind _).mono ?_
   rintro q u ⟨rfl, hw⟩
   replace hw := hw.symm
   subst hw
   rw [C3.out]
   go_wp2_with fail
   refine (ehas_doc e.kind _).mono ?_
   rintro q u ⟨rfl, hw⟩
   replace hw := hw.symm
   subst hw
   rw [C4.out]
   go_wp2_with fail
   refine (ehas_dels e.kind _).mono ?_
   rintro q u ⟨rfl, hw⟩
   replace hw := hw.symm
   subst hw
   rw [C5.out]
   go_wp2_with fail
   go_ret
   refine ⟨_, rfl, ?_, HX10.out.2.1⟩
   have hfin : codeE e = acc6 ++ txt e.coll ++ txt e.to := by rw [HCE.out, C1.out, C2.out, C3.out, C4.out, C5.out, HA6.out]; simp [List.append_assoc]
   rw [hfin]
   exact HX10.out.1
end Go.Proofs.YtpcdngpppjdgcaaGreat
