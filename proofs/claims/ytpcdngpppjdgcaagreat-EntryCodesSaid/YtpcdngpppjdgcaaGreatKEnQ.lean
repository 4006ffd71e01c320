/- The code of an entry, by the document. (Written by mkenq.py.) -/
import Derived.Test.YtpcdngpppjdgcaaGreatKEnN
import Derived.Test.YtpcdngpppjdgcaaGreatKEnY
import Derived.Test.YtpcdngpppjdgcaaGreatKValP
import Derived.Test.YtpcdngpppjdgcaaGreatKDlL
namespace Go.Proofs.YtpcdngpppjdgcaaGreat
open Lib (hid)
set_option linter.unusedVariables false
set_option linter.unusedSimpArgs false
open Go.RowKit
set_option maxRecDepth 100000
theorem hold_check {v id : VT} (h : holdE v id = true) : checkT v = 0 := by
  unfold holdE at h
  simp only [Bool.and_eq_true, decide_eq_true_eq] at h
  exact h.1.2
set_option maxHeartbeats 32000000 in
theorem r13code_any (S : Nat → Prop) (e : EntT) (cs : Array Value) (w : World) (hS : ∀ b, S b → b < w.heap.size) (h : EntL w S e cs) (hd : SmE e) (hm : mayE e = true) :
    Calls Tryz.prog 22 #[.agg cs] w (Gives (codeE e) w) := by
  obtain ⟨IA, ic, IA', ic', DA, dc, DA', dc', LA, lc, rfl, hat⟩ := h.at
  have hsh := short_ent hm hd
  have hmm := (mayE_iff e).1 hm
  obtain ⟨T, hT⟩ : ∃ n : Nat, e.term = n := ⟨e.term.toNat, by have := hmm.t0; omega⟩
  obtain ⟨kb, hkb⟩ : ∃ kb, kb = UInt8.ofNat e.kind.toNat := ⟨_, rfl⟩
  obtain ⟨Z, hZ⟩ : ∃ n : Nat, e.session = n := ⟨e.session.toNat, by have := hmm.s0; omega⟩
  obtain ⟨N, hN⟩ : ∃ n : Nat, e.number = n := ⟨e.number.toNat, by have := hmm.n0; omega⟩
  have hkx : e.kind % 256 = (kb.toNat : Int) := by
    have h1 := hmm.k1
    have h2 := hmm.k7
    rw [hkb, ofNat_toNat _ (by omega)]
    omega
  have HKX := hid hkx
  have HTN : Hid (T ≤ 1099511627776 ∧ Z ≤ 255 ∧ N ≤ 1099511627776) := hid ⟨by have := hmm.t1; omega, by have := hmm.s1; omega, by have := hmm.n1; omega⟩
  have HCE : Hid (codeE e = grp T ++ ([kb] ++ (grp Z ++ (grp N ++ ((if hasColl e.kind then txt e.coll else []) ++ ((if hasTo e.kind then txt e.to else []) ++ ((if hasId e.kind then encO e.id else []) ++ ((if hasDoc e.kind then encO e.doc else []) ++ (if hasDels e.kind then codeDs e.dels else []))))))))) := hid (by
    unfold codeE; rw [hT, hZ, hN, hkb]; rfl)
  have HKH : Hid (ShortE e) := hid hsh
  have HT := hid hT
  have HZ := hid hZ
  have HNN := hid hN
  obtain ⟨w1, hw1⟩ : ∃ W, W = w.alloc (.cells #[.int .i64 e.term, .int .i64 e.kind, .string e.coll, .string e.to, .int .i64 e.id.kind, .int .i64 e.id.num, .string e.id.text, .slice IA e.id.items.length ic, .slice IA' e.id.names.length ic', .int .i64 e.doc.kind, .int .i64 e.doc.num, .string e.doc.text, .slice DA e.doc.items.length dc, .slice DA' e.doc.names.length dc', .slice LA e.dels.length lc, .int .i64 e.session, .int .i64 e.number] 28) := ⟨_, rfl⟩
  have hbk : EBox w1 w.heap.size e IA ic IA' ic' DA dc DA' dc' LA lc := by rw [hw1]; exact heap_alloc_new w _
  have hb1 : Below w.heap.size w w1 := by rw [hw1]; exact below_box _
  obtain ⟨w2, hw2⟩ : ∃ W, W = w1.drew := ⟨_, rfl⟩
  have HK2 : Hid (EBox w2 w.heap.size e IA ic IA' ic' DA dc DA' dc' LA lc) := hid (by rw [hw2]; exact hbk)
  have HB2 : Hid (Below w.heap.size w w2) := hid (by rw [hw2]; exact hb1.drew)
  have HS := hid hS
  have HMM := hid hmm
  have HA := hid hat
  have HD := hid hd
  have HW2 := hid hw2
  have q0 := cell_k8 (w := w2) (g := w.heap.size) (i := 0) HK2.out (by decide) rfl
  have q1 := cell_k8 (w := w2) (g := w.heap.size) (i := 1) HK2.out (by decide) rfl
  rw [hT] at q0
  clear hb1 hbk hS h hat hd hm hsh hmm hT hkb hZ hN hkx hw2
  go_enter Tryz.func22, Tryz.ntmps22
  go_wp2_with fail
  rw [← hw1]
  clear hw1
  refine wp_region_OT K8 (fun w => Lib.OthersKept.refl _ _ _) (fun a b c h k => h.trans k) [] (.pure [0, 1, 3, 4, 5] (.fork 2 (.step 6 (.step 7 (.free [8] (.tail [])))) 6 (.step 2 (.step 7 (.free [8] (.tail [])))))) (by kernel_rfl) (by kernel_rfl) (fun _ d _ _ _ h => by cases d <;> exact h) ?_
  rw [← HW2.out]
  refine ot_pure ?_
  simp only [atR]
  show wpQuiet _ _ _ _ [_, _, _, _, _] _
  repeat (go_big_quiet_step (fail))
  refine wpQuiet_nil ?_
  clear q0 q1
  have HBX := hid (show ∀ W o, Below w.heap.size w W → EBox W w.heap.size e IA ic IA' ic' DA dc DA' dc' LA lc → Below w.heap.size w (W.alloc o) ∧ EBox (W.alloc o) w.heap.size e IA ic IA' ic' DA dc DA' dc' LA lc from fun W o h1 h2 => ⟨h1.alloc h1.size o, h2.below (below_box o)⟩)
  have HTC := hid (fun W => rcount_any T W (by have := HTN.out.1; omega))
  refine ot_fork rfl rfl (fun K hK => ?_) (fun K hK => ?_)
  focus
    go_simp
    refine (HTC.out _).mono ?_
    rintro q w3 ⟨v3, rfl, hv3, hb3⟩
    go_simp
    refine hK _ _ (.inr (k8_below hb3)) ?_
    clear hK K
    have HX2 : Hid (OwnB w3 w.heap.size v3 (grp T) ∧ Below w.heap.size w w3 ∧ EBox w3 w.heap.size e IA ic IA' ic' DA dc DA' dc' LA lc) := hid ⟨hv3.base HB2.out.size, HB2.out.trans (hb3.mono HB2.out.size), HK2.out.below hb3⟩
    clear hv3 hb3
    try simp only [acR, Act.put]
    refine ot_step rfl (fun K hK => ?_)
    go_simp
    refine hK _ _ (.inr ((Lib.OthersKept.refl _ _ _).alloc _)) ?_
    clear hK K
    obtain ⟨w5, hw5⟩ : ∃ W, W = w3.alloc (.cells #[.int .u8 (e.kind % 256)] 5) := ⟨_, rfl⟩
    rw [← hw5]
    have HX3 : Hid (OwnB w5 w.heap.size v3 (grp T) ∧ Below w.heap.size w w5 ∧ EBox w5 w.heap.size e IA ic IA' ic' DA dc DA' dc' LA lc ∧ Rd w5 w5.heap.size (.slice (some ⟨w3.heap.size, 0, none⟩) 1 1) [kb]) := hid (by
      have h1 := HBX.out w3 (.cells #[.int .u8 (e.kind % 256)] 5) HX2.out.2.1 HX2.out.2.2
      rw [hw5]
      exact ⟨HX2.out.1.below (below_box _), h1.1, h1.2, (Rd.one' rfl kb HKX.out).upE (by simp)⟩)
    clear hw5 HX2
    try simp only [acR, Act.put]
    refine ot_act rfl rfl (fun K hK => ?_)
    refine wp_append_bytesR _ _ rfl w.heap.size v3 (grp T) rfl HX3.out.1 w5.heap.size _ [kb] rfl HX3.out.2.2.2 (by simp) HX3.out.2.1.size (by have := (grp_length T).1; simp; omega) (fun v4 w4 hv4 hg4 => ?_)
    refine hK _ _ (.inr (k8_grown HX3.out.1 hg4)) ?_
    clear hK K
    have HX4 : Hid (OwnB w4 w.heap.size v4 (grp T ++ [kb]) ∧ Below w.heap.size w w4 ∧ EBox w4 w.heap.size e IA ic IA' ic' DA dc DA' dc' LA lc) := hid ⟨hv4, below_own HX3.out.2.1 HX3.out.1 HX3.out.2.1.size hg4, ebox_k8 HX3.out.2.2.1 (k8_grown HX3.out.1 hg4)⟩
    clear hv4 hg4 HX3
    try simp only [acR, Act.put]
    refine ot_free ?_
    simp only [atR]
    show wpQuiet _ _ _ _ [_] _
    repeat (go_big_quiet_step (fail))
    refine wpQuiet_nil ?_
    refine ot_end ?_
  rotate_left
  focus
    go_simp
    refine hK _ _ (.inr ((Lib.OthersKept.refl _ _ _).alloc _)) ?_
    clear hK K
    obtain ⟨wA, hwA⟩ : ∃ W, W = w2.alloc (.cells #[.int .u8 (e.kind % 256)] 5) := ⟨_, rfl⟩
    rw [← hwA]
    have HwA := hid (show Below w.heap.size w wA ∧ EBox wA w.heap.size e IA ic IA' ic' DA dc DA' dc' LA lc ∧ Rd wA wA.heap.size (.slice (some ⟨w2.heap.size, 0, none⟩) 1 1) [kb] by
      have h1 := HBX.out w2 (.cells #[.int .u8 (e.kind % 256)] 5) HB2.out HK2.out
      rw [hwA]
      exact ⟨h1.1, h1.2, (Rd.one' rfl kb HKX.out).upE (by simp)⟩)
    clear hwA
    try simp only [acR, Act.put]
    refine ot_step rfl (fun K hK => ?_)
    go_simp
    refine (HTC.out _).mono ?_
    rintro q w3 ⟨v3, rfl, hv3, hb3⟩
    go_simp
    refine hK _ _ (.inr (k8_below hb3)) ?_
    clear hK K
    have HX3 : Hid (OwnB w3 w.heap.size v3 (grp T) ∧ Below w.heap.size w w3 ∧ EBox w3 w.heap.size e IA ic IA' ic' DA dc DA' dc' LA lc ∧ Rd w3 w3.heap.size (.slice (some ⟨w2.heap.size, 0, none⟩) 1 1) [kb]) := hid ⟨hv3.base HwA.out.1.size, HwA.out.1.trans (hb3.mono HwA.out.1.size), HwA.out.2.1.below hb3, (HwA.out.2.2.keep hb3).upE hb3.size⟩
    clear hv3 hb3 HwA
    try simp only [acR, Act.put]
    refine ot_act rfl rfl (fun K hK => ?_)
    refine wp_append_bytesR _ _ rfl w.heap.size v3 (grp T) rfl HX3.out.1 w3.heap.size _ [kb] rfl HX3.out.2.2.2 (by simp) HX3.out.2.1.size (by have := (grp_length T).1; simp; omega) (fun v4 w4 hv4 hg4 => ?_)
    refine hK _ _ (.inr (k8_grown HX3.out.1 hg4)) ?_
    clear hK K
    have HX4 : Hid (OwnB w4 w.heap.size v4 (grp T ++ [kb]) ∧ Below w.heap.size w w4 ∧ EBox w4 w.heap.size e IA ic IA' ic' DA dc DA' dc' LA lc) := hid ⟨hv4, below_own HX3.out.2.1 HX3.out.1 HX3.out.2.1.size hg4, ebox_k8 HX3.out.2.2.1 (k8_grown HX3.out.1 hg4)⟩
    clear hv4 hg4 HX3
    try simp only [acR, Act.put]
    refine ot_free ?_
    simp only [atR]
    show wpQuiet _ _ _ _ [_] _
    repeat (go_big_quiet_step (fail))
    refine wpQuiet_nil ?_
    refine ot_end ?_
  rotate_left
  all_goals
    obtain ⟨wd, hwd⟩ : ∃ W, W = w4.drew := ⟨_, rfl⟩
    have HWD := hid hwd
    have HXD : Hid (OwnB wd w.heap.size v4 (grp T ++ [kb]) ∧ Below w.heap.size w wd ∧ EBox wd w.heap.size e IA ic IA' ic' DA dc DA' dc' LA lc) := hid (by rw [hwd]; exact ⟨HX4.out.1.below (Below.refl _ _).drew, HX4.out.2.1.drew, HX4.out.2.2⟩)
    have q15 := cell_k8 (w := wd) (g := w.heap.size) (i := 15) HXD.out.2.2 (by decide) rfl
    have q16 := cell_k8 (w := wd) (g := w.heap.size) (i := 16) HXD.out.2.2 (by decide) rfl
    rw [HZ.out] at q15
    rw [HNN.out] at q16
    clear hwd HX4
    go_wp2_with fail
    refine wp_region_OT K8 (fun w => Lib.OthersKept.refl _ _ _) (fun a b c h k => h.trans k) [] (.pure [0, 1, 2, 5, 6] (.step 3 (.step 4 (.step 7 (.step 8 (.free [9] (.tail []))))))) (by kernel_rfl) (by kernel_rfl) (fun _ d _ _ _ h => by cases d <;> exact h) ?_
    rw [← HWD.out]
    refine ot_pure ?_
    simp only [atR]
    show wpQuiet _ _ _ _ [_, _, _, _, _] _
    repeat (go_big_quiet_step (fail))
    refine wpQuiet_nil ?_
    clear q15 q16
    refine ot_step rfl (fun K hK => ?_)
    go_simp
    refine (rcount_any Z _ (by have := HTN.out; omega)).mono ?_
    rintro q w5 ⟨x, rfl, hx, hb⟩
    go_simp
    refine hK _ _ (.inr (k8_below hb)) ?_
    clear hK K
    have HY : Hid (OwnB w5 w.heap.size v4 (grp T ++ [kb]) ∧ Below w.heap.size w w5 ∧ EBox w5 w.heap.size e IA ic IA' ic' DA dc DA' dc' LA lc ∧ Rd w5 w5.heap.size x (grp Z)) := hid ⟨HXD.out.1.below hb, HXD.out.2.1.trans (hb.mono HXD.out.2.1.size), HXD.out.2.2.below hb, hx.rd⟩
    clear hx hb HXD
    try simp only [acR, Act.put]
    refine ot_act rfl rfl (fun K hK => ?_)
    refine wp_append_bytesR _ _ rfl w.heap.size v4 (grp T ++ [kb]) rfl HY.out.1 w5.heap.size _ (grp Z) rfl HY.out.2.2.2 (by have := (grp_length Z).2; omega) HY.out.2.1.size (by have := (grp_length T).1; have := (grp_length Z).1; have := (grp_length N).1; simp; omega) (fun v6 w6 hv hg => ?_)
    refine hK _ _ (.inr (k8_grown HY.out.1 hg)) ?_
    clear hK K
    have HX6 : Hid (OwnB w6 w.heap.size v6 (grp T ++ [kb] ++ grp Z) ∧ Below w.heap.size w w6 ∧ EBox w6 w.heap.size e IA ic IA' ic' DA dc DA' dc' LA lc) := hid ⟨by simpa [List.append_assoc] using hv, below_own HY.out.2.1 HY.out.1 HY.out.2.1.size hg, ebox_k8 HY.out.2.2.1 (k8_grown HY.out.1 hg)⟩
    clear hv hg HY
    try simp only [acR, Act.put]
    refine ot_step rfl (fun K hK => ?_)
    go_simp
    refine (rcount_any N _ (by have := HTN.out; omega)).mono ?_
    rintro q w7 ⟨x, rfl, hx, hb⟩
    go_simp
    refine hK _ _ (.inr (k8_below hb)) ?_
    clear hK K
    have HY : Hid (OwnB w7 w.heap.size v6 (grp T ++ [kb] ++ grp Z) ∧ Below w.heap.size w w7 ∧ EBox w7 w.heap.size e IA ic IA' ic' DA dc DA' dc' LA lc ∧ Rd w7 w7.heap.size x (grp N)) := hid ⟨HX6.out.1.below hb, HX6.out.2.1.trans (hb.mono HX6.out.2.1.size), HX6.out.2.2.below hb, hx.rd⟩
    clear hx hb HX6
    try simp only [acR, Act.put]
    refine ot_act rfl rfl (fun K hK => ?_)
    refine wp_append_bytesR _ _ rfl w.heap.size v6 (grp T ++ [kb] ++ grp Z) rfl HY.out.1 w7.heap.size _ (grp N) rfl HY.out.2.2.2 (by have := (grp_length N).2; omega) HY.out.2.1.size (by have := (grp_length T).1; have := (grp_length Z).1; have := (grp_length N).1; simp; omega) (fun v8 w8 hv hg => ?_)
    refine hK _ _ (.inr (k8_grown HY.out.1 hg)) ?_
    clear hK K
    have HX8 : Hid (OwnB w8 w.heap.size v8 (grp T ++ [kb] ++ grp Z ++ grp N) ∧ Below w.heap.size w w8 ∧ EBox w8 w.heap.size e IA ic IA' ic' DA dc DA' dc' LA lc) := hid ⟨by simpa [List.append_assoc] using hv, below_own HY.out.2.1 HY.out.1 HY.out.2.1.size hg, ebox_k8 HY.out.2.2.1 (k8_grown HY.out.1 hg)⟩
    clear hv hg HY
    try simp only [acR, Act.put]
    refine ot_free ?_
    simp only [atR]
    show wpQuiet _ _ _ _ [_] _
    repeat (go_big_quiet_step (fail))
    refine wpQuiet_nil ?_
    refine ot_end ?_
    have hal : (grp T ++ [kb] ++ grp Z ++ grp N).length ≤ 100 := by have := (grp_length T).1; have := (grp_length Z).1; have := (grp_length N).1; simp; omega
    obtain ⟨acc8, hacc⟩ : ∃ acc, acc = grp T ++ [kb] ++ grp Z ++ grp N := ⟨_, rfl⟩
    have HA8 := hid hacc
    rw [← hacc] at HX8 hal
    have HL8 := hid hal
    clear hacc hal
    have y1 := HX8.out.2.2.g1
    go_wp2_with fail
    refine (r13has_any e.kind _).mono ?_
    rintro q u ⟨rfl, hw⟩
    replace hw := hw.symm
    subst hw
    clear y1
    rcases has_combo e.kind with ⟨c1, c2, c3, c4, c5⟩ | ⟨c1, c2, c3, c4, c5⟩ | ⟨c1, c2, c3, c4, c5⟩ | ⟨c1, c2, c3, c4, c5⟩ | ⟨c1, c2, c3, c4, c5⟩ | ⟨c1, c2, c3, c4, c5⟩
    · have C1 := hid c1
      have C2 := hid c2
      have C3 := hid c3
      have C4 := hid c4
      have C5 := hid c5
      rw [c1, c2, c3, c4, c5]
      clear c1 c2 c3 c4 c5
      go_wp2_with fail
      go_ret
      refine ⟨_, rfl, ?_, HX8.out.2.1⟩
      have hfin : codeE e = acc8 := by rw [HCE.out, C1.out, C2.out, C3.out, C4.out, C5.out, HA8.out]; simp [List.append_assoc]
      rw [hfin]
      exact HX8.out.1
    · have C1 := hid c1
      have C2 := hid c2
      have C3 := hid c3
      have C4 := hid c4
      have C5 := hid c5
      rw [c1, c2, c3, c4, c5]
      clear c1 c2 c3 c4 c5
      have y2 := HX8.out.2.2.g2
      have HP := hid (rtext_any e.coll w8 (by have := HKH.out.cz; omega))
      go_wp2_with fail
      refine HP.out.mono ?_
      rintro q w9 ⟨x, rfl, hx, hb⟩
      have HY : Hid (OwnB w9 w.heap.size v8 (acc8) ∧ Below w.heap.size w w9 ∧ EBox w9 w.heap.size e IA ic IA' ic' DA dc DA' dc' LA lc ∧ Rd w9 w9.heap.size x (txt e.coll)) := hid ⟨HX8.out.1.below hb, HX8.out.2.1.trans (hb.mono HX8.out.2.1.size), HX8.out.2.2.below hb, hx.rd⟩
      clear hx hb HP HX8 y2
      go_wp2_with (at_builtin; go_must (refine wpList_append_bytes rfl _ _ rfl w.heap.size _ (acc8) rfl HY.out.1 w9.heap.size x (txt e.coll) rfl HY.out.2.2.2 HY.out.2.1.size (by have := HL8.out; have := (HKH.out.coll); omega) ?_))
      intro v10 w10 hv hg
      have HX10 : Hid (OwnB w10 w.heap.size v10 (acc8 ++ txt e.coll) ∧ Below w.heap.size w w10 ∧ EBox w10 w.heap.size e IA ic IA' ic' DA dc DA' dc' LA lc) := hid ⟨by simpa [List.append_assoc] using hv, below_own HY.out.2.1 HY.out.1 HY.out.2.1.size hg, ebox_k8 HY.out.2.2.1 (k8_grown HY.out.1 hg)⟩
      have HL10 : Hid ((acc8 ++ txt e.coll).length ≤ 50000) := hid (by have := HL8.out; have := HKH.out.coll; rw [List.length_append]; omega)
      clear hv hg HY
      have y4 := HX10.out.2.2.g4
      have y5 := HX10.out.2.2.g5
      have y6 := HX10.out.2.2.g6
      have y7 := HX10.out.2.2.g7
      have y8 := HX10.out.2.2.g8
      have HP := hid (renc_any S e.id _ w10 (fun b hb => Nat.lt_of_lt_of_le (HS.out b hb) HX10.out.2.1.size) (HA.out.below HS.out HX10.out.2.1).id HD.out.idz (by have := HMM.out.id; rw [if_pos C3.out] at this; exact this))
      go_wp2_with fail
      refine HP.out.mono ?_
      rintro q w11 ⟨x, rfl, hx, hb⟩
      have HY : Hid (OwnB w11 w.heap.size v10 (acc8 ++ txt e.coll) ∧ Below w.heap.size w w11 ∧ EBox w11 w.heap.size e IA ic IA' ic' DA dc DA' dc' LA lc ∧ Rd w11 w11.heap.size x (encO e.id)) := hid ⟨HX10.out.1.below hb, HX10.out.2.1.trans (hb.mono HX10.out.2.1.size), HX10.out.2.2.below hb, hx.rd⟩
      clear hx hb HP HX10 y4 y5 y6 y7 y8
      go_wp2_with (at_builtin; go_must (refine wpList_append_bytes rfl _ _ rfl w.heap.size _ (acc8 ++ txt e.coll) rfl HY.out.1 w11.heap.size x (encO e.id) rfl HY.out.2.2.2 HY.out.2.1.size (by have := HL10.out; have := (HKH.out.id); omega) ?_))
      intro v12 w12 hv hg
      have HX12 : Hid (OwnB w12 w.heap.size v12 (acc8 ++ txt e.coll ++ encO e.id) ∧ Below w.heap.size w w12 ∧ EBox w12 w.heap.size e IA ic IA' ic' DA dc DA' dc' LA lc) := hid ⟨by simpa [List.append_assoc] using hv, below_own HY.out.2.1 HY.out.1 HY.out.2.1.size hg, ebox_k8 HY.out.2.2.1 (k8_grown HY.out.1 hg)⟩
      have HL12 : Hid ((acc8 ++ txt e.coll ++ encO e.id).length ≤ 60000) := hid (by have := HL10.out; have := HKH.out.id; rw [List.length_append]; omega)
      clear hv hg HY
      have y9 := HX12.out.2.2.g9
      have y10 := HX12.out.2.2.g10
      have y11 := HX12.out.2.2.g11
      have y12 := HX12.out.2.2.g12
      have y13 := HX12.out.2.2.g13
      have HP := hid (renc_any S e.doc _ w12 (fun b hb => Nat.lt_of_lt_of_le (HS.out b hb) HX12.out.2.1.size) (HA.out.below HS.out HX12.out.2.1).doc HD.out.docz (by have := HMM.out.doc; rw [if_pos C4.out] at this; exact hold_check this))
      go_wp2_with fail
      refine HP.out.mono ?_
      rintro q w13 ⟨x, rfl, hx, hb⟩
      have HY : Hid (OwnB w13 w.heap.size v12 (acc8 ++ txt e.coll ++ encO e.id) ∧ Below w.heap.size w w13 ∧ EBox w13 w.heap.size e IA ic IA' ic' DA dc DA' dc' LA lc ∧ Rd w13 w13.heap.size x (encO e.doc)) := hid ⟨HX12.out.1.below hb, HX12.out.2.1.trans (hb.mono HX12.out.2.1.size), HX12.out.2.2.below hb, hx.rd⟩
      clear hx hb HP HX12 y9 y10 y11 y12 y13
      go_wp2_with (at_builtin; go_must (refine wpList_append_bytes rfl _ _ rfl w.heap.size _ (acc8 ++ txt e.coll ++ encO e.id) rfl HY.out.1 w13.heap.size x (encO e.doc) rfl HY.out.2.2.2 HY.out.2.1.size (by have := HL12.out; have := (HKH.out.doc); omega) ?_))
      intro v14 w14 hv hg
      have HX14 : Hid (OwnB w14 w.heap.size v14 (acc8 ++ txt e.coll ++ encO e.id ++ encO e.doc) ∧ Below w.heap.size w w14 ∧ EBox w14 w.heap.size e IA ic IA' ic' DA dc DA' dc' LA lc) := hid ⟨by simpa [List.append_assoc] using hv, below_own HY.out.2.1 HY.out.1 HY.out.2.1.size hg, ebox_k8 HY.out.2.2.1 (k8_grown HY.out.1 hg)⟩
      have HL14 : Hid ((acc8 ++ txt e.coll ++ encO e.id ++ encO e.doc).length ≤ 70000) := hid (by have := HL12.out; have := HKH.out.doc; rw [List.length_append]; omega)
      clear hv hg HY
      go_wp2_with fail
      go_ret
      refine ⟨_, rfl, ?_, HX14.out.2.1⟩
      have hfin : codeE e = acc8 ++ txt e.coll ++ encO e.id ++ encO e.doc := by rw [HCE.out, C1.out, C2.out, C3.out, C4.out, C5.out, HA8.out]; simp [List.append_assoc]
      rw [hfin]
      exact HX14.out.1
    · have C1 := hid c1
      have C2 := hid c2
      have C3 := hid c3
      have C4 := hid c4
      have C5 := hid c5
      rw [c1, c2, c3, c4, c5]
      clear c1 c2 c3 c4 c5
      have y2 := HX8.out.2.2.g2
      have HP := hid (rtext_any e.coll w8 (by have := HKH.out.cz; omega))
      go_wp2_with fail
      refine HP.out.mono ?_
      rintro q w9 ⟨x, rfl, hx, hb⟩
      have HY : Hid (OwnB w9 w.heap.size v8 (acc8) ∧ Below w.heap.size w w9 ∧ EBox w9 w.heap.size e IA ic IA' ic' DA dc DA' dc' LA lc ∧ Rd w9 w9.heap.size x (txt e.coll)) := hid ⟨HX8.out.1.below hb, HX8.out.2.1.trans (hb.mono HX8.out.2.1.size), HX8.out.2.2.below hb, hx.rd⟩
      clear hx hb HP HX8 y2
      go_wp2_with (at_builtin; go_must (refine wpList_append_bytes rfl _ _ rfl w.heap.size _ (acc8) rfl HY.out.1 w9.heap.size x (txt e.coll) rfl HY.out.2.2.2 HY.out.2.1.size (by have := HL8.out; have := (HKH.out.coll); omega) ?_))
      intro v10 w10 hv hg
      have HX10 : Hid (OwnB w10 w.heap.size v10 (acc8 ++ txt e.coll) ∧ Below w.heap.size w w10 ∧ EBox w10 w.heap.size e IA ic IA' ic' DA dc DA' dc' LA lc) := hid ⟨by simpa [List.append_assoc] using hv, below_own HY.out.2.1 HY.out.1 HY.out.2.1.size hg, ebox_k8 HY.out.2.2.1 (k8_grown HY.out.1 hg)⟩
      have HL10 : Hid ((acc8 ++ txt e.coll).length ≤ 50000) := hid (by have := HL8.out; have := HKH.out.coll; rw [List.length_append]; omega)
      clear hv hg HY
      have y4 := HX10.out.2.2.g4
      have y5 := HX10.out.2.2.g5
      have y6 := HX10.out.2.2.g6
      have y7 := HX10.out.2.2.g7
      have y8 := HX10.out.2.2.g8
      have HP := hid (renc_any S e.id _ w10 (fun b hb => Nat.lt_of_lt_of_le (HS.out b hb) HX10.out.2.1.size) (HA.out.below HS.out HX10.out.2.1).id HD.out.idz (by have := HMM.out.id; rw [if_pos C3.out] at this; exact this))
      go_wp2_with fail
      refine HP.out.mono ?_
      rintro q w11 ⟨x, rfl, hx, hb⟩
      have HY : Hid (OwnB w11 w.heap.size v10 (acc8 ++ txt e.coll) ∧ Below w.heap.size w w11 ∧ EBox w11 w.heap.size e IA ic IA' ic' DA dc DA' dc' LA lc ∧ Rd w11 w11.heap.size x (encO e.id)) := hid ⟨HX10.out.1.below hb, HX10.out.2.1.trans (hb.mono HX10.out.2.1.size), HX10.out.2.2.below hb, hx.rd⟩
      clear hx hb HP HX10 y4 y5 y6 y7 y8
      go_wp2_with (at_builtin; go_must (refine wpList_append_bytes rfl _ _ rfl w.heap.size _ (acc8 ++ txt e.coll) rfl HY.out.1 w11.heap.size x (encO e.id) rfl HY.out.2.2.2 HY.out.2.1.size (by have := HL10.out; have := (HKH.out.id); omega) ?_))
      intro v12 w12 hv hg
      have HX12 : Hid (OwnB w12 w.heap.size v12 (acc8 ++ txt e.coll ++ encO e.id) ∧ Below w.heap.size w w12 ∧ EBox w12 w.heap.size e IA ic IA' ic' DA dc DA' dc' LA lc) := hid ⟨by simpa [List.append_assoc] using hv, below_own HY.out.2.1 HY.out.1 HY.out.2.1.size hg, ebox_k8 HY.out.2.2.1 (k8_grown HY.out.1 hg)⟩
      have HL12 : Hid ((acc8 ++ txt e.coll ++ encO e.id).length ≤ 60000) := hid (by have := HL10.out; have := HKH.out.id; rw [List.length_append]; omega)
      clear hv hg HY
      have y14 := HX12.out.2.2.g14
      have HP := hid (r6code_any S LA lc e.dels w12 (fun b hb => Nat.lt_of_lt_of_le (HS.out b hb) HX12.out.2.1.size) (HA.out.below HS.out HX12.out.2.1).dels (HD.out.dels (checkD_zero (HKH.out.dels C5.out).1).1).2 (HKH.out.dels C5.out).1)
      go_wp2_with fail
      refine HP.out.mono ?_
      rintro q w13 ⟨x, rfl, hx, hb⟩
      have HY : Hid (OwnB w13 w.heap.size v12 (acc8 ++ txt e.coll ++ encO e.id) ∧ Below w.heap.size w w13 ∧ EBox w13 w.heap.size e IA ic IA' ic' DA dc DA' dc' LA lc ∧ Rd w13 w13.heap.size x (codeDs e.dels)) := hid ⟨HX12.out.1.below hb, HX12.out.2.1.trans (hb.mono HX12.out.2.1.size), HX12.out.2.2.below hb, hx.rd⟩
      clear hx hb HP HX12 y14
      go_wp2_with (at_builtin; go_must (refine wpList_append_bytes rfl _ _ rfl w.heap.size _ (acc8 ++ txt e.coll ++ encO e.id) rfl HY.out.1 w13.heap.size x (codeDs e.dels) rfl HY.out.2.2.2 HY.out.2.1.size (by have := HL12.out; have := (HKH.out.dels C5.out |>.2); omega) ?_))
      intro v14 w14 hv hg
      have HX14 : Hid (OwnB w14 w.heap.size v14 (acc8 ++ txt e.coll ++ encO e.id ++ codeDs e.dels) ∧ Below w.heap.size w w14 ∧ EBox w14 w.heap.size e IA ic IA' ic' DA dc DA' dc' LA lc) := hid ⟨by simpa [List.append_assoc] using hv, below_own HY.out.2.1 HY.out.1 HY.out.2.1.size hg, ebox_k8 HY.out.2.2.1 (k8_grown HY.out.1 hg)⟩
      clear hv hg HY
      go_wp2_with fail
      go_ret
      refine ⟨_, rfl, ?_, HX14.out.2.1⟩
      have hfin : codeE e = acc8 ++ txt e.coll ++ encO e.id ++ codeDs e.dels := by rw [HCE.out, C1.out, C2.out, C3.out, C4.out, C5.out, HA8.out]; simp [List.append_assoc]
      rw [hfin]
      exact HX14.out.1
    · have C1 := hid c1
      have C2 := hid c2
      have C3 := hid c3
      have C4 := hid c4
      have C5 := hid c5
      rw [c1, c2, c3, c4, c5]
      clear c1 c2 c3 c4 c5
      have y2 := HX8.out.2.2.g2
      have HP := hid (rtext_any e.coll w8 (by have := HKH.out.cz; omega))
      go_wp2_with fail
      refine HP.out.mono ?_
      rintro q w9 ⟨x, rfl, hx, hb⟩
      have HY : Hid (OwnB w9 w.heap.size v8 (acc8) ∧ Below w.heap.size w w9 ∧ EBox w9 w.heap.size e IA ic IA' ic' DA dc DA' dc' LA lc ∧ Rd w9 w9.heap.size x (txt e.coll)) := hid ⟨HX8.out.1.below hb, HX8.out.2.1.trans (hb.mono HX8.out.2.1.size), HX8.out.2.2.below hb, hx.rd⟩
      clear hx hb HP HX8 y2
      go_wp2_with (at_builtin; go_must (refine wpList_append_bytes rfl _ _ rfl w.heap.size _ (acc8) rfl HY.out.1 w9.heap.size x (txt e.coll) rfl HY.out.2.2.2 HY.out.2.1.size (by have := HL8.out; have := (HKH.out.coll); omega) ?_))
      intro v10 w10 hv hg
      have HX10 : Hid (OwnB w10 w.heap.size v10 (acc8 ++ txt e.coll) ∧ Below w.heap.size w w10 ∧ EBox w10 w.heap.size e IA ic IA' ic' DA dc DA' dc' LA lc) := hid ⟨by simpa [List.append_assoc] using hv, below_own HY.out.2.1 HY.out.1 HY.out.2.1.size hg, ebox_k8 HY.out.2.2.1 (k8_grown HY.out.1 hg)⟩
      have HL10 : Hid ((acc8 ++ txt e.coll).length ≤ 50000) := hid (by have := HL8.out; have := HKH.out.coll; rw [List.length_append]; omega)
      clear hv hg HY
      have y4 := HX10.out.2.2.g4
      have y5 := HX10.out.2.2.g5
      have y6 := HX10.out.2.2.g6
      have y7 := HX10.out.2.2.g7
      have y8 := HX10.out.2.2.g8
      have HP := hid (renc_any S e.id _ w10 (fun b hb => Nat.lt_of_lt_of_le (HS.out b hb) HX10.out.2.1.size) (HA.out.below HS.out HX10.out.2.1).id HD.out.idz (by have := HMM.out.id; rw [if_pos C3.out] at this; exact this))
      go_wp2_with fail
      refine HP.out.mono ?_
      rintro q w11 ⟨x, rfl, hx, hb⟩
      have HY : Hid (OwnB w11 w.heap.size v10 (acc8 ++ txt e.coll) ∧ Below w.heap.size w w11 ∧ EBox w11 w.heap.size e IA ic IA' ic' DA dc DA' dc' LA lc ∧ Rd w11 w11.heap.size x (encO e.id)) := hid ⟨HX10.out.1.below hb, HX10.out.2.1.trans (hb.mono HX10.out.2.1.size), HX10.out.2.2.below hb, hx.rd⟩
      clear hx hb HP HX10 y4 y5 y6 y7 y8
      go_wp2_with (at_builtin; go_must (refine wpList_append_bytes rfl _ _ rfl w.heap.size _ (acc8 ++ txt e.coll) rfl HY.out.1 w11.heap.size x (encO e.id) rfl HY.out.2.2.2 HY.out.2.1.size (by have := HL10.out; have := (HKH.out.id); omega) ?_))
      intro v12 w12 hv hg
      have HX12 : Hid (OwnB w12 w.heap.size v12 (acc8 ++ txt e.coll ++ encO e.id) ∧ Below w.heap.size w w12 ∧ EBox w12 w.heap.size e IA ic IA' ic' DA dc DA' dc' LA lc) := hid ⟨by simpa [List.append_assoc] using hv, below_own HY.out.2.1 HY.out.1 HY.out.2.1.size hg, ebox_k8 HY.out.2.2.1 (k8_grown HY.out.1 hg)⟩
      have HL12 : Hid ((acc8 ++ txt e.coll ++ encO e.id).length ≤ 60000) := hid (by have := HL10.out; have := HKH.out.id; rw [List.length_append]; omega)
      clear hv hg HY
      go_wp2_with fail
      go_ret
      refine ⟨_, rfl, ?_, HX12.out.2.1⟩
      have hfin : codeE e = acc8 ++ txt e.coll ++ encO e.id := by rw [HCE.out, C1.out, C2.out, C3.out, C4.out, C5.out, HA8.out]; simp [List.append_assoc]
      rw [hfin]
      exact HX12.out.1
    · have C1 := hid c1
      have C2 := hid c2
      have C3 := hid c3
      have C4 := hid c4
      have C5 := hid c5
      rw [c1, c2, c3, c4, c5]
      clear c1 c2 c3 c4 c5
      have y2 := HX8.out.2.2.g2
      have HP := hid (rtext_any e.coll w8 (by have := HKH.out.cz; omega))
      go_wp2_with fail
      refine HP.out.mono ?_
      rintro q w9 ⟨x, rfl, hx, hb⟩
      have HY : Hid (OwnB w9 w.heap.size v8 (acc8) ∧ Below w.heap.size w w9 ∧ EBox w9 w.heap.size e IA ic IA' ic' DA dc DA' dc' LA lc ∧ Rd w9 w9.heap.size x (txt e.coll)) := hid ⟨HX8.out.1.below hb, HX8.out.2.1.trans (hb.mono HX8.out.2.1.size), HX8.out.2.2.below hb, hx.rd⟩
      clear hx hb HP HX8 y2
      go_wp2_with (at_builtin; go_must (refine wpList_append_bytes rfl _ _ rfl w.heap.size _ (acc8) rfl HY.out.1 w9.heap.size x (txt e.coll) rfl HY.out.2.2.2 HY.out.2.1.size (by have := HL8.out; have := (HKH.out.coll); omega) ?_))
      intro v10 w10 hv hg
      have HX10 : Hid (OwnB w10 w.heap.size v10 (acc8 ++ txt e.coll) ∧ Below w.heap.size w w10 ∧ EBox w10 w.heap.size e IA ic IA' ic' DA dc DA' dc' LA lc) := hid ⟨by simpa [List.append_assoc] using hv, below_own HY.out.2.1 HY.out.1 HY.out.2.1.size hg, ebox_k8 HY.out.2.2.1 (k8_grown HY.out.1 hg)⟩
      have HL10 : Hid ((acc8 ++ txt e.coll).length ≤ 50000) := hid (by have := HL8.out; have := HKH.out.coll; rw [List.length_append]; omega)
      clear hv hg HY
      go_wp2_with fail
      go_ret
      refine ⟨_, rfl, ?_, HX10.out.2.1⟩
      have hfin : codeE e = acc8 ++ txt e.coll := by rw [HCE.out, C1.out, C2.out, C3.out, C4.out, C5.out, HA8.out]; simp [List.append_assoc]
      rw [hfin]
      exact HX10.out.1
    · have C1 := hid c1
      have C2 := hid c2
      have C3 := hid c3
      have C4 := hid c4
      have C5 := hid c5
      rw [c1, c2, c3, c4, c5]
      clear c1 c2 c3 c4 c5
      have y2 := HX8.out.2.2.g2
      have HP := hid (rtext_any e.coll w8 (by have := HKH.out.cz; omega))
      go_wp2_with fail
      refine HP.out.mono ?_
      rintro q w9 ⟨x, rfl, hx, hb⟩
      have HY : Hid (OwnB w9 w.heap.size v8 (acc8) ∧ Below w.heap.size w w9 ∧ EBox w9 w.heap.size e IA ic IA' ic' DA dc DA' dc' LA lc ∧ Rd w9 w9.heap.size x (txt e.coll)) := hid ⟨HX8.out.1.below hb, HX8.out.2.1.trans (hb.mono HX8.out.2.1.size), HX8.out.2.2.below hb, hx.rd⟩
      clear hx hb HP HX8 y2
      go_wp2_with (at_builtin; go_must (refine wpList_append_bytes rfl _ _ rfl w.heap.size _ (acc8) rfl HY.out.1 w9.heap.size x (txt e.coll) rfl HY.out.2.2.2 HY.out.2.1.size (by have := HL8.out; have := (HKH.out.coll); omega) ?_))
      intro v10 w10 hv hg
      have HX10 : Hid (OwnB w10 w.heap.size v10 (acc8 ++ txt e.coll) ∧ Below w.heap.size w w10 ∧ EBox w10 w.heap.size e IA ic IA' ic' DA dc DA' dc' LA lc) := hid ⟨by simpa [List.append_assoc] using hv, below_own HY.out.2.1 HY.out.1 HY.out.2.1.size hg, ebox_k8 HY.out.2.2.1 (k8_grown HY.out.1 hg)⟩
      have HL10 : Hid ((acc8 ++ txt e.coll).length ≤ 50000) := hid (by have := HL8.out; have := HKH.out.coll; rw [List.length_append]; omega)
      clear hv hg HY
      have y3 := HX10.out.2.2.g3
      have HP := hid (rtext_any e.to w10 (by have := HKH.out.tz; omega))
      go_wp2_with fail
      refine HP.out.mono ?_
      rintro q w11 ⟨x, rfl, hx, hb⟩
      have HY : Hid (OwnB w11 w.heap.size v10 (acc8 ++ txt e.coll) ∧ Below w.heap.size w w11 ∧ EBox w11 w.heap.size e IA ic IA' ic' DA dc DA' dc' LA lc ∧ Rd w11 w11.heap.size x (txt e.to)) := hid ⟨HX10.out.1.below hb, HX10.out.2.1.trans (hb.mono HX10.out.2.1.size), HX10.out.2.2.below hb, hx.rd⟩
      clear hx hb HP HX10 y3
      go_wp2_with (at_builtin; go_must (refine wpList_append_bytes rfl _ _ rfl w.heap.size _ (acc8 ++ txt e.coll) rfl HY.out.1 w11.heap.size x (txt e.to) rfl HY.out.2.2.2 HY.out.2.1.size (by have := HL10.out; have := (HKH.out.to); omega) ?_))
      intro v12 w12 hv hg
      have HX12 : Hid (OwnB w12 w.heap.size v12 (acc8 ++ txt e.coll ++ txt e.to) ∧ Below w.heap.size w w12 ∧ EBox w12 w.heap.size e IA ic IA' ic' DA dc DA' dc' LA lc) := hid ⟨by simpa [List.append_assoc] using hv, below_own HY.out.2.1 HY.out.1 HY.out.2.1.size hg, ebox_k8 HY.out.2.2.1 (k8_grown HY.out.1 hg)⟩
      have HL12 : Hid ((acc8 ++ txt e.coll ++ txt e.to).length ≤ 60000) := hid (by have := HL10.out; have := HKH.out.to; rw [List.length_append]; omega)
      clear hv hg HY
      go_wp2_with fail
      go_ret
      refine ⟨_, rfl, ?_, HX12.out.2.1⟩
      have hfin : codeE e = acc8 ++ txt e.coll ++ txt e.to := by rw [HCE.out, C1.out, C2.out, C3.out, C4.out, C5.out, HA8.out]; simp [List.append_assoc]
      rw [hfin]
      exact HX12.out.1
theorem fine_ent {w : World} {S : Nat → Prop} {e : EntT} {cs : Array Value} (h : EntL w S e cs) (hd : SmE e) (hm : mayE e = true) : FineE e := by
  obtain ⟨IA, ic, IA', ic', DA, dc, DA', dc', LA, lc, -, hat⟩ := h.at
  refine ⟨⟨hd.idz, rng_lv _ _ _ (Nat.le_refl _) hat.id⟩, ⟨hd.docz, rng_lv _ _ _ (Nat.le_refl _) hat.doc⟩, ?_, hat.dels.rng⟩
  have hdm := ((mayE_iff e).1 hm).dels
  split at hdm
  · unfold mayDo at hdm
    simp only [Bool.and_eq_true, decide_eq_true_eq] at hdm
    exact (hd.dels (checkD_zero hdm.1.1).1).2
  · exact (hd.dels (by omega)).2
theorem dec_code {e : EntT} (hm : mayE e = true) (hf : FineE e) : decEC (codeE e) = 0 ∧ decEE (codeE e) = e := by
  have h := rdE_code hm hf []
  rw [List.append_nil] at h
  have h1 : decEC (codeE e) = 0 := by unfold decEC; rw [h]; rfl
  exact ⟨h1, by unfold decEE; rw [if_pos h1, h]⟩
theorem encE_may {e : EntT} (hm : mayE e = true) : encE e = codeE e ∧ errE e = 0 := ⟨by unfold encE; rw [if_pos hm], by unfold errE; rw [if_pos hm]⟩
theorem encE_not {e : EntT} (hm : mayE e = false) : encE e = [] ∧ errE e = 1 := ⟨by unfold encE; rw [hm]; rfl, by unfold errE; rw [hm]; rfl⟩
theorem Rd.lenE {w : World} {B : Nat} {v : Value} {l : List UInt8} (h : Rd w B v l) : l.length ≤ 9223372036854775807 := by
  obtain ⟨A, cap, -, h2, h3, -⟩ := h
  omega
theorem EBox.later {w : World} {g : Nat} {e : EntT} {IA : Option Addr} {ic : Nat} {IA' : Option Addr} {ic' : Nat} {DA : Option Addr} {dc : Nat} {DA' : Option Addr} {dc' : Nat} {LA : Option Addr} {lc : Nat} (h : EBox w g e IA ic IA' ic' DA dc DA' dc' LA lc) : ∀ u, CR w.heap.size w u → u.heap[g]? = some (.cells #[.int .i64 e.term, .int .i64 e.kind, .string e.coll, .string e.to, .int .i64 e.id.kind, .int .i64 e.id.num, .string e.id.text, .slice IA e.id.items.length ic, .slice IA' e.id.names.length ic', .int .i64 e.doc.kind, .int .i64 e.doc.num, .string e.doc.text, .slice DA e.doc.items.length dc, .slice DA' e.doc.names.length dc', .slice LA e.dels.length lc, .int .i64 e.session, .int .i64 e.number] 28 (0, 0)) := fun u ⟨p, hp⟩ => by
  rw [hp]
  exact (p.h.block g h.lt).trans h
theorem same_true {w : World} {e : EntT} {a b : Array Value} (ha : EntL w (fun b => b < w.heap.size) e a) (hb : EntL w (fun b => b < w.heap.size) e b) : Calls Tryz.prog 16 #[.agg a, .agg b] w fun q w' => q = .returned (.bool true) ∧ Below w.heap.size w w' :=
  (r13same_any (fun b => b < w.heap.size) e e a b w (fun _ h => h) ha hb).mono fun q w' ⟨⟨r, h1, h2⟩, h3⟩ => ⟨by rw [h1, h2.2 rfl], h3⟩
theorem EntAt.up {w w' : World} {e : EntT} {IA : Option Addr} {ic : Nat} {IA' : Option Addr} {ic' : Nat} {DA : Option Addr} {dc : Nat} {DA' : Option Addr} {dc' : Nat} {LA : Option Addr} {lc : Nat} (h : EntAt w (fun b => b < w.heap.size) e IA ic IA' ic' DA dc DA' dc' LA lc) (hb : Below w.heap.size w w') : EntAt w' (fun b => b < w'.heap.size) e IA ic IA' ic' DA dc DA' dc' LA lc :=
  (h.below (fun _ h => h) hb).imp fun _ h => Nat.lt_of_lt_of_le h hb.size
end Go.Proofs.YtpcdngpppjdgcaaGreat

/- Entries that came in. -/
namespace Go.Proofs.YtpcdngpppjdgcaaGreat
set_option linter.unusedVariables false
set_option linter.unusedSimpArgs false
open Go.ChangeShapes Go.WideShapes Go.RowKit Go.Joins Go.Deep
set_option linter.unusedVariables false
set_option maxRecDepth 100000
theorem cellsEnt : Tryz.prog.cellsOf 28 = 17 := by kernel_rfl
theorem fieldsEnt : ∃ f0 f1 f2 f3 f4 f5 f6 f7 f8 : Field, Tryz.prog.underlying 28 = some (.struct #[f0, f1, f2, f3, f4, f5, f6, f7, f8]) ∧ (f0.type = 3 ∧ f1.type = 3 ∧ f2.type = 9 ∧ f3.type = 9 ∧ f4.type = 25 ∧ f5.type = 25 ∧ f6.type = 26 ∧ f7.type = 3 ∧ f8.type = 3) ∧ (f0.offset = 0 ∧ f1.offset = 1 ∧ f2.offset = 2 ∧ f3.offset = 3 ∧ f4.offset = 4 ∧ f5.offset = 9 ∧ f6.offset = 14 ∧ f7.offset = 15 ∧ f8.offset = 16) :=
  ⟨_, _, _, _, _, _, _, _, _, Tryz.underlying28, ⟨rfl, rfl, rfl, rfl, rfl, rfl, rfl, rfl, rfl⟩, ⟨rfl, rfl, rfl, rfl, rfl, rfl, rfl, rfl, rfl⟩⟩
section
variable {H : Type} {enc : TypeId × Value → H} {W : World} {sp : Nat → Bool}
theorem open_ent {fuel : Nat} {cs : List Value} {x : DataW H × List MemPlace} (h : DataW.trod enc Tryz.prog W 0 sp true fuel 28 cs = some x) (hw : ∀ n ∈ x.1.weights Tryz.prog 28, n ≤ reachBytes) :
    ∃ e : EntT, EntL W (fun b => b < W.heap.size) e cs.toArray := by
  obtain ⟨f0, f1, f2, f3, f4, f5, f6, f7, f8, hu, ⟨t0, t1, t2, t3, t4, t5, t6, t7, t8⟩, ⟨o0, o1, o2, o3, o4, o5, o6, o7, o8⟩⟩ := fieldsEnt
  obtain ⟨xs, n, hfu, hx, hlen, hxl, hg⟩ := DataW.trod_struct hu h
  rw [cellsEnt] at hlen
  match cs, hlen with
  | [c0, c1, c2, c3, c4, c5, c6, c7, c8, c9, c10, c11, c12, c13, c14, c15, c16], _ =>
    match xs, hxl with
    | [y0, y1, y2, y3, y4, y5, y6, y7, y8], _ =>
      have g0 := hg 0 f0 rfl
      have g1 := hg 1 f1 rfl
      have g2 := hg 2 f2 rfl
      have g3 := hg 3 f3 rfl
      have g4 := hg 4 f4 rfl
      have g5 := hg 5 f5 rfl
      have g6 := hg 6 f6 rfl
      have g7 := hg 7 f7 rfl
      have g8 := hg 8 f8 rfl
      rw [t0, o0, cellsI] at g0
      rw [t1, o1, cellsI] at g1
      rw [t2, o2, cellsStr] at g2
      rw [t3, o3, cellsStr] at g3
      rw [t4, o4, cellsVal] at g4
      rw [t5, o5, cellsVal] at g5
      rw [t6, o6, cellsDeltas] at g6
      rw [t7, o7, cellsI] at g7
      rw [t8, o8, cellsI] at g8
      have hws := hw
      rw [hx] at hws
      simp only [DataW.weights, hu, List.map_cons, List.map_nil, t0, t1, t2, t3, t4, t5, t6, t7, t8] at hws
      simp only [DataW.weightsEach, List.mem_append] at hws
      obtain ⟨a0, e0, -, w0⟩ := DataW.trod_int Tryz.underlying3 g0
      obtain ⟨a1, e1, -, w1⟩ := DataW.trod_int Tryz.underlying3 g1
      obtain ⟨a2, e2, x2, w2⟩ := DataW.trod_string Tryz.underlying9 g2
      obtain ⟨a3, e3, x3, w3⟩ := DataW.trod_string Tryz.underlying9 g3
      obtain ⟨a7, e7, -, w7⟩ := DataW.trod_int Tryz.underlying3 g7
      obtain ⟨a8, e8, -, w8⟩ := DataW.trod_int Tryz.underlying3 g8
      simp at e0 e1 e2 e3 e7 e8
      subst e0 e1 e2 e3 e7 e8
      have hs2 : a2.size ≤ 140737488351232 := by
        have := hws a2.data.toList.length (.inr (.inr (.inl (by rw [x2]; simp [DataW.weights]))))
        simpa [reachBytes] using this
      have hs3 : a3.size ≤ 140737488351232 := by
        have := hws a3.data.toList.length (.inr (.inr (.inr (.inl (by rw [x3]; simp [DataW.weights])))))
        simpa [reachBytes] using this
      obtain ⟨ti, hti⟩ := open_val _ _ _ g4 (fun n hn => hws n (.inr (.inr (.inr (.inr (.inl hn))))))
      obtain ⟨td, htd⟩ := open_val _ _ _ g5 (fun n hn => hws n (.inr (.inr (.inr (.inr (.inr (.inl hn)))))))
      obtain ⟨LA, lc, ds, e6, q1, q2, q3, q4, -⟩ := open_dels g6 (fun n hn => hws n (.inr (.inr (.inr (.inr (.inr (.inr (.inl hn))))))))
      simp at e6
      subst e6
      obtain ⟨IA, ic, IA', ic', hvi, -⟩ := hti.shape
      obtain ⟨DA, dc, DA', dc', hvd, -⟩ := htd.shape
      simp at hvi hvd
      obtain ⟨rfl, rfl, rfl, rfl, rfl⟩ := hvi
      obtain ⟨rfl, rfl, rfl, rfl, rfl⟩ := hvd
      exact ⟨⟨a0, a1, a2, a3, ti, td, ds, a7, a8⟩, IA, ic, IA', ic', DA, dc, DA', dc', LA, lc, rfl, hti, htd, q4, q2, fun h => (q1 h).1, q3, in64_of_wf w0, in64_of_wf w1, in64_of_wf w7, in64_of_wf w8, hs2, hs3⟩
end
end Go.Proofs.YtpcdngpppjdgcaaGreat
