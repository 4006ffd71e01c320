/- What a filter matches, the same one without its path, without its kinds, and the empty one match too. No conditions. -/
import Derived.Test.YtlipkmdjpligeaaGreatKEnY
import Derived.SizedLaws
import Derived.ProofKit
import Derived.OpenShut
import Derived.ShutString
import Derived.ChangeOld
import Derived.ChangeMaps5
import Derived.Below
namespace Go.Proofs.YtlipkmdjpligeaaGreat.FWider
set_option linter.unusedVariables false
set_option linter.unusedSimpArgs false
open Go.ChangeShapes Go.WideShapes Go.ChangeAt Go.RowKit Go.Joins
set_option linter.unusedVariables false
set_option maxRecDepth 100000
theorem own : ownKnob Tryz.prog.godebug = none := by kernel_rfl
theorem laidOut : laidOutB Tryz.prog = true := by kernel_rfl
theorem match_wider {f : FilT} {e : EntT} (h : matchFl f e = true) : matchFl ⟨f.coll, [], f.kinds⟩ e = true ∧ matchFl ⟨f.coll, f.path, 0⟩ e = true ∧ matchFl ⟨⟨#[]⟩, [], 0⟩ e = true := by
 unfold matchFl at *
 simp only [Bool.and_eq_true] at h
 obtain ⟨⟨⟨⟨⟨h1, h2⟩, h3⟩, h4⟩, h5⟩, h6⟩ := h
 unfold mayFl at h1
 simp only [Bool.and_eq_true] at h1
 obtain ⟨⟨c1, c2⟩, c3⟩ := h1
 have k0 : kindsOk 0 = true := by decide
 refine ⟨?_, ?_, ?_⟩
 ·simp only [Bool.and_eq_true]
  exact ⟨⟨⟨⟨⟨by unfold mayFl; simp only [Bool.and_eq_true]; exact ⟨⟨c1, rfl⟩, c3⟩, h2⟩, h3⟩, h4⟩, h5⟩, rfl⟩
 ·simp only [Bool.and_eq_true]
  exact ⟨⟨⟨⟨⟨by unfold mayFl; simp only [Bool.and_eq_true]; exact ⟨⟨c1, c2⟩, k0⟩, h2⟩, h3⟩, rfl⟩, h5⟩, h6⟩
 ·simp only [Bool.and_eq_true]
  exact ⟨⟨⟨⟨⟨by unfold mayFl; simp only [Bool.and_eq_true]; exact ⟨⟨rfl, rfl⟩, k0⟩, h2⟩, h3⟩, rfl⟩, rfl⟩, rfl⟩
set_option maxHeartbeats 16000000 in
theorem walk (f : FilT) (PA : Option Addr) (pc : Nat) (e : EntT) (cs : Array Value) (w : World) (hf : FilAt w (fun b => b < w.heap.size) f PA pc) (h : EntL w (fun b => b < w.heap.size) e cs) : Calls Tryz.prog 5 #[.agg #[.string f.coll, .slice PA f.path.length pc, .int .i64 f.kinds], .agg cs] w fun q w' => q = .returned (.bool true) ∧ Below w.heap.size w w' := by
 have HSMF := Lib.hid (small_ent h)
 obtain ⟨IA, ic, IA', ic', DA, dc, DA', dc', LA, lc, rfl, hat⟩ := h.at
 obtain ⟨w2, hw2⟩ : ∃ W, W = (w.alloc (.cells #[.string f.coll, .slice PA f.path.length pc, .int .i64 f.kinds] 24)).alloc (.cells #[.int .i64 e.term, .int .i64 e.kind, .string e.coll, .string e.to, .int .i64 e.id.kind, .int .i64 e.id.num, .string e.id.text, .slice IA e.id.items.length ic, .slice IA' e.id.names.length ic', .int .i64 e.doc.kind, .int .i64 e.doc.num, .string e.doc.text, .slice DA e.doc.items.length dc, .slice DA' e.doc.names.length dc', .slice LA e.dels.length lc, .int .i64 e.session, .int .i64 e.number] 30) := ⟨_, rfl⟩
 have hz1 : (w.alloc (.cells #[.string f.coll, .slice PA f.path.length pc, .int .i64 f.kinds] 24)).heap.size = w.heap.size + 1 := by simp
 have hb2 : Below w.heap.size w w2 := by rw [hw2]; exact (below_box _).alloc (by omega) _
 have HK0 : Hid (EBox ((w.alloc (.cells #[.string f.coll, .slice PA f.path.length pc, .int .i64 f.kinds] 24)).alloc (.cells #[.int .i64 e.term, .int .i64 e.kind, .string e.coll, .string e.to, .int .i64 e.id.kind, .int .i64 e.id.num, .string e.id.text, .slice IA e.id.items.length ic, .slice IA' e.id.names.length ic', .int .i64 e.doc.kind, .int .i64 e.doc.num, .string e.doc.text, .slice DA e.doc.items.length dc, .slice DA' e.doc.names.length dc', .slice LA e.dels.length lc, .int .i64 e.session, .int .i64 e.number] 30)) (w.heap.size + 1) e IA ic IA' ic' DA dc DA' dc' LA lc) := Lib.hid (by unfold EBox; rw [← hz1]; exact heap_alloc_new _ _)
 have HF : Hid (FBox w2 w.heap.size f PA pc) := Lib.hid (by unfold FBox; rw [hw2, Below.heap_alloc _ _ _ (by omega)]; exact heap_alloc_new w _)
 have HK : Hid (EBox w2 (w.heap.size + 1) e IA ic IA' ic' DA dc DA' dc' LA lc) := Lib.hid (by rw [hw2]; exact HK0.out)
 have HB := Lib.hid hb2
 have HA := Lib.hid (hat.up hb2)
 have HFA : Hid (FilAt w2 (fun b => b < w2.heap.size) f PA pc) := Lib.hid ((hf.below (fun b hb => hb) hb2).imp fun b hb => Nat.lt_of_lt_of_le hb hb2.size)
 have HLG := Lib.hid (large19_any (fun b => b < w2.heap.size) f PA pc e _ w2 (fun b hb => hb) HA.out.l)
 clear h hf hat hb2 hz1
 go_enter Tryz.func5, Tryz.ntmps5
 go_wp2_with (refine wpList_load_ent (by rfl) _ rfl (w.heap.size + 1) rfl _ _ HK0.out rfl ?_; simp only [acR, Act.put])
 rw [← hw2]
 clear hw2 HK0
 refine HLG.out.mono ?_
 rintro q w3 ⟨rfl, hb⟩
 have HB := Lib.hid (HB.out.trans (hb.mono HB.out.size))
 have HF := Lib.hid (HF.out.below hb)
 have HK := Lib.hid (HK.out.below hb)
 have HA := Lib.hid (HA.out.up hb)
 have HFA := Lib.hid (fil_up HFA.out hb)
 clear hb
 clear HLG
 cases hlg : largeF f e with
 | true =>
  clear hlg
  go_wp2_with fail
  refine (lives19_any _).mono ?_
  rintro q v9 ⟨rfl, hb⟩
  have HZ := Lib.hid (HB.out.trans (hb.mono HB.out.size))
  clear hb
  go_wp2_with fail
  go_ret
  exact ⟨rfl, HZ.out⟩
 | false =>
 have HSM := Lib.hid (HSMF.out (large_part hlg)).1
 clear hlg HSMF
 have z0 := HF.out.g0
 have z1 := HF.out.g1
 have z2 := HF.out.g2
 go_wp2_with (refine wpList_load_ent (by rfl) _ rfl (w.heap.size + 1) rfl _ _ HK.out rfl ?_; simp only [acR, Act.put])
 refine (fmatch_any (fun b => b < w3.heap.size) f PA pc e _ w3 (fun b hb => hb) HFA.out HA.out.l HSM.out).mono ?_
 rintro q w4 ⟨rfl, hb⟩
 clear z0 z1 z2
 have HB := Lib.hid (HB.out.trans (hb.mono HB.out.size))
 have HF := Lib.hid (HF.out.below hb)
 have HK := Lib.hid (HK.out.below hb)
 have HA := Lib.hid (HA.out.up hb)
 have HFA := Lib.hid (fil_up HFA.out hb)
 clear hb
 cases hm : matchFl f e with
 | false =>
  clear hm
  go_wp2_with fail
  refine (lives19_any _).mono ?_
  rintro q v9 ⟨rfl, hb⟩
  have HZ := Lib.hid (HB.out.trans (hb.mono HB.out.size))
  clear hb
  go_wp2_with fail
  go_ret
  exact ⟨rfl, HZ.out⟩
 | true =>
 have HM := Lib.hid (match_wider hm)
 clear hm
 go_wp2_with fail
 have z0 := HF.out.g0
 have z1 := HF.out.g1
 have z2 := HF.out.g2
 have zq := HF.out.lt
 generalize hv : w.heap.size = v at z0 z1 z2 zq ⊢
 have HV := Lib.hid hv
 clear hv
 go_region
 all_goals (
  have hv := HV.out
  subst hv
  generalize hW : ((w4.alloc (.cells #[.string f.coll, .slice PA f.path.length pc, .int .i64 f.kinds] 24)).alloc (.cells #[.string f.coll, .slice PA f.path.length pc, .int .i64 f.kinds] 24)).drew = w5
  have hz1 : (w4.alloc (.cells #[.string f.coll, .slice PA f.path.length pc, .int .i64 f.kinds] 24)).heap.size = w4.heap.size + 1 := by simp
  have hn : FBox w5 w4.heap.size f PA pc := by
   rw [← hW]
   exact (Below.heap_alloc _ _ _ (by omega)).trans (heap_alloc_new w4 _)
  have hm : FBox w5 (w4.heap.size + 1) f PA pc := by
   rw [← hW, ← hz1]
   exact heap_alloc_new _ _
  have hb5 : Below w4.heap.size w4 w5 := by rw [← hW]; exact (((Below.refl _ _).alloc (Nat.le_refl _) _).alloc (by simp) _).drew
  obtain ⟨n4, h4⟩ : ∃ n, n = w4.heap.size := ⟨_, rfl⟩
  have HN4 := Lib.hid h4
  rw [← h4] at hn hm hb5 ⊢
  clear h4 hW hz1 z0 z1 z2 zq HV
  obtain ⟨n6, h6⟩ : ∃ n, n = n4 + 1 := ⟨_, rfl⟩
  have HN6 := Lib.hid h6
  rw [← h6] at hm ⊢
  clear h6)
 ·have HP := Lib.hid hn
  have HQ := Lib.hid hm
  obtain ⟨p5, h5⟩ : ∃ p, p = n4 := ⟨_, rfl⟩
  obtain ⟨p6, h6⟩ : ∃ p, p = n6 := ⟨_, rfl⟩
  have HPQ : Hid (n4 ≤ p5 ∧ n4 ≤ p6 ∧ p5 ≠ p6) := Lib.hid (by have := HN6.out; omega)
  have HB5 := Lib.hid hb5
  rw [← h5, ← h6]
  rw [← h5] at HP
  rw [← h6] at HQ
  clear hn hm h5 h6 hb5 HN6
  go_wp2_with (first | (refine wpList_store_ent (by rfl) 22 _ _ rfl rfl p5 1 rfl _ #[.slice none 0 0] rfl rfl _ #[.string f.coll, .slice none 0 0, .int .i64 f.kinds] 24 HP.out (by simp) (by kernel_rfl) (by simp [Value.oneCell']) (by kernel_rfl) ?_; intro w6 hk ho hz; have HG6 := Lib.hid hk; have HO6 := Lib.hid (And.intro ho hz); have HQ6 := Lib.hid (only_at ho HQ.out (fun h => HPQ.out.2.2 h.symm)); clear hk ho hz) | (refine wpList_store_ent (by rfl) 3 _ _ rfl rfl p6 2 rfl _ #[.int .i64 0] rfl rfl _ #[.string f.coll, .slice PA f.path.length pc, .int .i64 0] 24 HQ6.out (by simp) (by kernel_rfl) (by simp [Value.oneCell']) (by kernel_rfl) ?_; intro w7 hk ho hz; have HH7 := Lib.hid hk; have HO7 := Lib.hid (And.intro ho hz); have HG7 := Lib.hid (only_at ho HG6.out HPQ.out.2.2); clear hk ho hz))
  have hb : Below w4.heap.size w4 w7 := by
   have h1 : n4 ≤ w4.heap.size := Nat.le_of_eq HN4.out
   have h2 := only_below (by rw [← HN4.out]; exact Nat.le_refl _) HB5.out HO6.out.1 HO6.out.2 HPQ.out.1
   have h3 := only_below (by rw [← HN4.out]; exact Nat.le_refl _) h2 HO7.out.1 HO7.out.2 HPQ.out.2.1
   rw [← HN4.out]
   exact h3
  have HB := Lib.hid (HB.out.trans (hb.mono HB.out.size))
  have HF := Lib.hid (HF.out.below hb)
  have HK := Lib.hid (HK.out.below hb)
  have HA := Lib.hid (HA.out.up hb)
  have HFA := Lib.hid (fil_up HFA.out hb)
  clear hb
  have HG : Hid (FBox w7 p5 ⟨f.coll, [], f.kinds⟩ none 0) := Lib.hid HG7.out
  have HH : Hid (FBox w7 p6 ⟨f.coll, f.path, 0⟩ PA pc) := Lib.hid HH7.out
  clear HG7 HH7 HG6 HQ6 HP HQ HO6 HO7 HB5 HN4 HPQ
  refine (lives19_any _).mono ?_
  rintro q w8 ⟨rfl, hb⟩
  have HG := Lib.hid (HG.out.below hb)
  have HH := Lib.hid (HH.out.below hb)
  have HB := Lib.hid (HB.out.trans (hb.mono HB.out.size))
  have HF := Lib.hid (HF.out.below hb)
  have HK := Lib.hid (HK.out.below hb)
  have HA := Lib.hid (HA.out.up hb)
  have HFA := Lib.hid (fil_up HFA.out hb)
  clear hb
  have z0 := HG.out.g0
  have z1 := HG.out.g1
  have z2 := HG.out.g2
  go_wp2_with (refine wpList_load_ent (by rfl) _ rfl (w.heap.size + 1) rfl _ _ HK.out rfl ?_; simp only [acR, Act.put])
  refine (fmatch_any (fun b => b < w8.heap.size) ⟨f.coll, [], f.kinds⟩ none 0 e _ w8 (fun b hb => hb) (fil_at _ _ f.coll f.kinds HFA.out.rk HFA.out.cz) HA.out.l HSM.out).mono ?_
  rintro q w9 ⟨rfl, hb⟩
  rw [HM.out.1]
  clear z0 z1 z2
  have HH := Lib.hid (HH.out.below hb)
  have HB := Lib.hid (HB.out.trans (hb.mono HB.out.size))
  have HF := Lib.hid (HF.out.below hb)
  have HK := Lib.hid (HK.out.below hb)
  have HA := Lib.hid (HA.out.up hb)
  have HFA := Lib.hid (fil_up HFA.out hb)
  clear hb
  have z0 := HH.out.g0
  have z1 := HH.out.g1
  have z2 := HH.out.g2
  go_wp2_with (refine wpList_load_ent (by rfl) _ rfl (w.heap.size + 1) rfl _ _ HK.out rfl ?_; simp only [acR, Act.put])
  refine (fmatch_any (fun b => b < w9.heap.size) ⟨f.coll, f.path, 0⟩ PA pc e _ w9 (fun b hb => hb) ⟨HFA.out.path, HFA.out.len, HFA.out.cz, (show Rng 0 from rng_lit (by decide) (by decide)), HFA.out.cap, HFA.out.c63, HFA.out.nil⟩ HA.out.l HSM.out).mono ?_
  rintro q w10 ⟨rfl, hb⟩
  rw [HM.out.2.1]
  clear z0 z1 z2
  have HB := Lib.hid (HB.out.trans (hb.mono HB.out.size))
  have HF := Lib.hid (HF.out.below hb)
  have HK := Lib.hid (HK.out.below hb)
  have HA := Lib.hid (HA.out.up hb)
  have HFA := Lib.hid (fil_up HFA.out hb)
  clear hb
  go_wp2_with (refine wpList_load_ent (by rfl) _ rfl (w.heap.size + 1) rfl _ _ HK.out rfl ?_; simp only [acR, Act.put])
  refine (fmatch_any (fun b => b < w10.heap.size) ⟨⟨#[]⟩, [], 0⟩ none 0 e _ w10 (fun b hb => hb) (fil_at _ _ ⟨#[]⟩ 0 (rng_lit (by decide) (by decide)) (by decide)) HA.out.l HSM.out).mono ?_
  rintro q w11 ⟨rfl, hb⟩
  rw [HM.out.2.2]
  have HB := Lib.hid (HB.out.trans (hb.mono HB.out.size))
  have HF := Lib.hid (HF.out.below hb)
  have HK := Lib.hid (HK.out.below hb)
  have HA := Lib.hid (HA.out.up hb)
  have HFA := Lib.hid (fil_up HFA.out hb)
  clear hb
  go_wp2_with fail
  go_ret
  exact ⟨rfl, HB.out⟩
 ·have HP := Lib.hid hm
  have HQ := Lib.hid hn
  obtain ⟨p5, h5⟩ : ∃ p, p = n6 := ⟨_, rfl⟩
  obtain ⟨p6, h6⟩ : ∃ p, p = n4 := ⟨_, rfl⟩
  have HPQ : Hid (n4 ≤ p5 ∧ n4 ≤ p6 ∧ p5 ≠ p6) := Lib.hid (by have := HN6.out; omega)
  have HB5 := Lib.hid hb5
  rw [← h5, ← h6]
  rw [← h5] at HP
  rw [← h6] at HQ
  clear hn hm h5 h6 hb5 HN6
  go_wp2_with (first | (refine wpList_store_ent (by rfl) 22 _ _ rfl rfl p5 1 rfl _ #[.slice none 0 0] rfl rfl _ #[.string f.coll, .slice none 0 0, .int .i64 f.kinds] 24 HP.out (by simp) (by kernel_rfl) (by simp [Value.oneCell']) (by kernel_rfl) ?_; intro w6 hk ho hz; have HG6 := Lib.hid hk; have HO6 := Lib.hid (And.intro ho hz); have HQ6 := Lib.hid (only_at ho HQ.out (fun h => HPQ.out.2.2 h.symm)); clear hk ho hz) | (refine wpList_store_ent (by rfl) 3 _ _ rfl rfl p6 2 rfl _ #[.int .i64 0] rfl rfl _ #[.string f.coll, .slice PA f.path.length pc, .int .i64 0] 24 HQ6.out (by simp) (by kernel_rfl) (by simp [Value.oneCell']) (by kernel_rfl) ?_; intro w7 hk ho hz; have HH7 := Lib.hid hk; have HO7 := Lib.hid (And.intro ho hz); have HG7 := Lib.hid (only_at ho HG6.out HPQ.out.2.2); clear hk ho hz))
  have hb : Below w4.heap.size w4 w7 := by
   have h1 : n4 ≤ w4.heap.size := Nat.le_of_eq HN4.out
   have h2 := only_below (by rw [← HN4.out]; exact Nat.le_refl _) HB5.out HO6.out.1 HO6.out.2 HPQ.out.1
   have h3 := only_below (by rw [← HN4.out]; exact Nat.le_refl _) h2 HO7.out.1 HO7.out.2 HPQ.out.2.1
   rw [← HN4.out]
   exact h3
  have HB := Lib.hid (HB.out.trans (hb.mono HB.out.size))
  have HF := Lib.hid (HF.out.below hb)
  have HK := Lib.hid (HK.out.below hb)
  have HA := Lib.hid (HA.out.up hb)
  have HFA := Lib.hid (fil_up HFA.out hb)
  clear hb
  have HG : Hid (FBox w7 p5 ⟨f.coll, [], f.kinds⟩ none 0) := Lib.hid HG7.out
  have HH : Hid (FBox w7 p6 ⟨f.coll, f.path, 0⟩ PA pc) := Lib.hid HH7.out
  clear HG7 HH7 HG6 HQ6 HP HQ HO6 HO7 HB5 HN4 HPQ
  refine (lives19_any _).mono ?_
  rintro q w8 ⟨rfl, hb⟩
  have HG := Lib.hid (HG.out.below hb)
  have HH := Lib.hid (HH.out.below hb)
  have HB := Lib.hid (HB.out.trans (hb.mono HB.out.size))
  have HF := Lib.hid (HF.out.below hb)
  have HK := Lib.hid (HK.out.below hb)
  have HA := Lib.hid (HA.out.up hb)
  have HFA := Lib.hid (fil_up HFA.out hb)
  clear hb
  have z0 := HG.out.g0
  have z1 := HG.out.g1
  have z2 := HG.out.g2
  go_wp2_with (refine wpList_load_ent (by rfl) _ rfl (w.heap.size + 1) rfl _ _ HK.out rfl ?_; simp only [acR, Act.put])
  refine (fmatch_any (fun b => b < w8.heap.size) ⟨f.coll, [], f.kinds⟩ none 0 e _ w8 (fun b hb => hb) (fil_at _ _ f.coll f.kinds HFA.out.rk HFA.out.cz) HA.out.l HSM.out).mono ?_
  rintro q w9 ⟨rfl, hb⟩
  rw [HM.out.1]
  clear z0 z1 z2
  have HH := Lib.hid (HH.out.below hb)
  have HB := Lib.hid (HB.out.trans (hb.mono HB.out.size))
  have HF := Lib.hid (HF.out.below hb)
  have HK := Lib.hid (HK.out.below hb)
  have HA := Lib.hid (HA.out.up hb)
  have HFA := Lib.hid (fil_up HFA.out hb)
  clear hb
  have z0 := HH.out.g0
  have z1 := HH.out.g1
  have z2 := HH.out.g2
  go_wp2_with (refine wpList_load_ent (by rfl) _ rfl (w.heap.size + 1) rfl _ _ HK.out rfl ?_; simp only [acR, Act.put])
  refine (fmatch_any (fun b => b < w9.heap.size) ⟨f.coll, f.path, 0⟩ PA pc e _ w9 (fun b hb => hb) ⟨HFA.out.path, HFA.out.len, HFA.out.cz, (show Rng 0 from rng_lit (by decide) (by decide)), HFA.out.cap, HFA.out.c63, HFA.out.nil⟩ HA.out.l HSM.out).mono ?_
  rintro q w10 ⟨rfl, hb⟩
  rw [HM.out.2.1]
  clear z0 z1 z2
  have HB := Lib.hid (HB.out.trans (hb.mono HB.out.size))
  have HF := Lib.hid (HF.out.below hb)
  have HK := Lib.hid (HK.out.below hb)
  have HA := Lib.hid (HA.out.up hb)
  have HFA := Lib.hid (fil_up HFA.out hb)
  clear hb
  go_wp2_with (refine wpList_load_ent (by rfl) _ rfl (w.heap.size + 1) rfl _ _ HK.out rfl ?_; simp only [acR, Act.put])
  refine (fmatch_any (fun b => b < w10.heap.size) ⟨⟨#[]⟩, [], 0⟩ none 0 e _ w10 (fun b hb => hb) (fil_at _ _ ⟨#[]⟩ 0 (rng_lit (by decide) (by decide)) (by decide)) HA.out.l HSM.out).mono ?_
  rintro q w11 ⟨rfl, hb⟩
  rw [HM.out.2.2]
  have HB := Lib.hid (HB.out.trans (hb.mono HB.out.size))
  have HF := Lib.hid (HF.out.below hb)
  have HK := Lib.hid (HK.out.below hb)
  have HA := Lib.hid (HA.out.up hb)
  have HFA := Lib.hid (fil_up HFA.out hb)
  clear hb
  go_wp2_with fail
  go_ret
  exact ⟨rfl, HB.out⟩
set_option maxRecDepth 100000 in
theorem lifted (os : Os) (started : os.Started) (H : Type) (enc : TypeId × Value → H) :
  ReturnsInHanded {} Tryz.checked os 5 .any (Rows.filterWiderSpec.pre6 enc Tryz.prog Tryz.f5 Rows.filterWiderRow.domain false) (Rows.filterWiderSpec.post enc Tryz.prog Tryz.f5 false true false false) := by
 refine returnsInHanded_of_change_sized (C := Tryz.checked) own started (by kernel_rfl) Tryz.func5
  (ChangeSpec.witness6 (enc := enc) (C := Tryz.checked) false ⟨#[], #[.agg #[.string ByteArray.empty, .slice none 0 0, .int .i64 0], .agg #[.int .i64 0, .int .i64 0, .string ByteArray.empty, .string ByteArray.empty, .int .i64 0, .int .i64 0, .string ByteArray.empty, .slice none 0 0, .slice none 0 0, .int .i64 0, .int .i64 0, .string ByteArray.empty, .slice none 0 0, .slice none 0 0, .slice none 0 0, .int .i64 0, .int .i64 0]], []⟩ 8 (by kernel_rfl) (by kernel_rfl) (by kernel_rfl) (by kernel_rfl)) ?_
 intro W base args ds gs before hval0 hW hcnd hsz0 _
 have hval : ∀ (j : Nat) t v, Tryz.f5.params[j]? = some t → args[j]? = some v → Value.okWide Tryz.prog W .any base t v := hval0
 have hsz : (DataW.weightsEach Tryz.prog (Tryz.f5.params.toList ++ Rows.filterWiderSpec.plain.varTypes Tryz.prog) (ds ++ gs)).all (· ≤ reachBytes) = true := hsz0
 have hW' := hW
 obtain ⟨p, q, hA0, hV, rfl, hfz, hnd⟩ := hW
 have hA : DataW.TrodAll enc Tryz.prog W 0 (fun _ => true) true Tryz.f5.params.toList args.toList ds p := hA0
 rw [Tryz.params5] at hA hval hsz
 obtain ⟨v0, v1, d0, d1, p0, p1, rfl, rfl, rfl, h0, h1⟩ := trodAll_two hA
 obtain ⟨rfl, rfl⟩ := trodVars_none hV
 obtain ⟨a0, rfl, -⟩ := okWide_struct Tryz.underlying24 (hval 0 24 v0 rfl rfl)
 have k0 := h0
 have lt0 : ∀ x ∈ p0, x.block < W.heap.size := by obtain ⟨m, hm⟩ := k0; exact DataW.trod_lt m _ _ _ hm
 have wt0 : ∀ n ∈ d0.weights Tryz.prog 24, n ≤ reachBytes := fun n hn => by have := List.all_eq_true.1 hsz n (DataW.weights_mem_each (j := 0) rfl rfl n hn); simpa using this
 obtain ⟨a1, rfl, -⟩ := okWide_struct Tryz.underlying30 (hval 1 30 v1 rfl rfl)
 have k1 := h1
 have lt1 : ∀ x ∈ p1, x.block < W.heap.size := by obtain ⟨m, hm⟩ := k1; exact DataW.trod_lt m _ _ _ hm
 have wt1 : ∀ n ∈ d1.weights Tryz.prog 30, n ≤ reachBytes := fun n hn => by have := List.all_eq_true.1 hsz n (DataW.weights_mem_each (j := 1) rfl rfl n hn); simpa using this
 clear hA0 hval0
 obtain ⟨fl0, PA0, pc0, ha0, hfl0⟩ : ∃ (f : FilT) (PA : Option Addr) (pc : Nat), a0 = #[.string f.coll, .slice PA f.path.length pc, .int .i64 f.kinds] ∧ FilAt W (fun b => b < W.heap.size) f PA pc := by
  obtain ⟨m, hm⟩ := k0
  obtain ⟨f, PA, pc, e, r⟩ := open_fil hm wt0
  refine ⟨f, PA, pc, ?_, r⟩
  have e2 : a0.toList = [.string f.coll, .slice PA f.path.length pc, .int .i64 f.kinds] := by simpa [Value.cells] using e
  rw [← Array.toArray_toList (xs := a0), e2]
 subst ha0
 obtain ⟨en1, hen1⟩ : ∃ e : EntT, EntL W (fun b => b < W.heap.size) e a1 := by
  obtain ⟨m, hm⟩ := k1
  obtain ⟨s, h3⟩ := open_ent hm wt1
  exact ⟨s, by simpa [Value.cells] using h3⟩
 refine (walk fl0 PA0 pc0 en1 a1 W hfl0 hen1).mono fun e W' ⟨he, bel⟩ => ?_
 subst he
 exact ⟨_, rfl, _, _, _, [], _, [], hW', trodAll_mk1 (shut_bool Tryz.underlying4 _), trodAll_mk2 (Below.trod laidOut (by kernel_rfl) (of_decide_eq_true (by kernel_rfl)) k0 bel lt0) (Below.trod laidOut (by kernel_rfl) (of_decide_eq_true (by kernel_rfl)) k1 bel lt1), rfl, bel.frame _, fun h => by cases h⟩

theorem proved : Rows.FilterWiderSaid :=
 OpenClaim.holds_of_wide 5 Tryz.f5 rfl rfl rfl rfl rfl rfl rfl ⟨rfl, rfl, rfl, rfl, rfl⟩ rfl rfl rfl rfl rfl (by kernel_rfl) Tryz.func5 (by kernel_rfl)
  (of_decide_eq_true (by kernel_rfl)) (by unfold Func.isWrapper; first | (rw [if_pos (by decide +kernel)]; kernel_rfl) | (rw [if_neg (by decide +kernel)]; exact ⟨rfl, rfl⟩))
  (fun os started H enc _ => lifted os started H enc)

end Go.Proofs.YtlipkmdjpligeaaGreat.FWider
