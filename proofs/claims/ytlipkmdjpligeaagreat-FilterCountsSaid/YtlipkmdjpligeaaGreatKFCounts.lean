/- How many of any entries are matched, up to the one that ends the stream: as the document says. No conditions. -/
import Derived.Test.YtlipkmdjpligeaaGreatKEnY
import Derived.SizedLaws
import Derived.ProofKit
import Derived.OpenShut
import Derived.ShutString
import Derived.ChangeOld
import Derived.ChangeMaps5
import Derived.Below
namespace Go.Proofs.YtlipkmdjpligeaaGreat.FCounts
set_option linter.unusedVariables false
set_option linter.unusedSimpArgs false
open Go.ChangeShapes Go.WideShapes Go.ChangeAt Go.RowKit Go.Joins
set_option linter.unusedVariables false
set_option maxRecDepth 100000
theorem own : ownKnob Tryz.prog.godebug = none := by kernel_rfl
theorem laidOut : laidOutB Tryz.prog = true := by kernel_rfl
def seen (f : FilT) (l : List EntT) (j : Nat) (m : Nat) (end' : Bool) : Prop := countFl f l = m + if end' = true then 0 else countFl f (l.drop j)
theorem seen_next {f : FilT} {l : List EntT} {j m : Nat} {d : Bool} (h : seen f l j m d) (hj : j < l.length) : seen f l (j + 1) (if (!d && matchFl f l[j]) = true then m + 1 else m) (d || endsFl f l[j]) := by
 unfold seen at *
 cases d with
 | true => simpa using h
 | false =>
  rw [h, if_neg (by decide), count_cons f l j hj]
  cases matchFl f l[j] <;> cases endsFl f l[j] <;> simp <;> omega
theorem ent_later {w : World} {b o : Nat} {cs : List Value} (h : w.rangeAt b o cs) (hb : b < w.heap.size) : ∀ u, CR w.heap.size w u → u.rangeAt b o cs := fun v ⟨p, hp⟩ => by
 rw [hp]
 exact fun j u hu => (World.cell?_of_block (a := ⟨b, o + j, none⟩) (p.h.block b hb)).trans (h j u hu)
theorem wpQuiet_load_rng {P : Program} {ops : Array Oper} {C : World → Prop} {Q : Act → Prop} {rest : List Oper} {o : Oper} {a : Act} (hP : P = Tryz.prog) (hw : Region.wanted o (yielded ops a.tmps) = true) (x : Operand) (ho : o.op = .load 30 x)
  (g off : Nat) (hx : a.eval x = .pointer (some ⟨g, off, none⟩)) (cs : List Value) (hg : ∀ u, C u → u.rangeAt g off cs) (hn : cs.length = 17)
  (h : wpQuiet P ops C Q rest (a.put o.dst (.agg cs.toArray))) : wpQuiet P ops C Q (o :: rest) a := by
 subst hP
 unfold wpQuiet
 rw [if_pos hw]
 refine ⟨.agg cs.toArray, fun u hu => ?_, h⟩
 have e := run_loadVar_mid (P := Tryz.prog) u g off 30 cs _ (hg u hu) Tryz.underlying30 rfl (by rw [hn]; kernel_rfl)
 unfold Oper.quietAt execOp
 simp only [ho, hx, Instr.loadAt, Instr.sureAddr, Sem.run_bind, Sem.run_pure, Result.andThen_ok, e]
 exact ⟨rfl, rfl⟩
set_option maxHeartbeats 16000000 in
theorem walk (f : FilT) (PA : Option Addr) (pc : Nat) (A : Option Addr) (c : Nat) (l : List EntT) (w : World) (hf : FilAt w (fun b => b < w.heap.size) f PA pc) (h : EntsL w (fun b => b < w.heap.size) A l) (hl : l.length ≤ 567493904640) : Calls Tryz.prog 4 #[.agg #[.string f.coll, .slice PA f.path.length pc, .int .i64 f.kinds], .slice A l.length c] w fun q w' => q = .returned (.bool true) ∧ Below w.heap.size w w' := by
 obtain ⟨w1, hw1⟩ : ∃ W, W = w.alloc (.cells #[.string f.coll, .slice PA f.path.length pc, .int .i64 f.kinds] 24) := ⟨_, rfl⟩
 have hb1 : Below w.heap.size w w1 := by rw [hw1]; exact below_box _
 have HF1 : Hid (FBox w1 w.heap.size f PA pc) := Lib.hid (by rw [hw1]; exact heap_alloc_new w _)
 have HB1 := Lib.hid hb1
 have HFA := Lib.hid hf
 have HA := Lib.hid h
 obtain ⟨n, hn⟩ : ∃ n, n = l.length := ⟨_, rfl⟩
 have HN := Lib.hid hn
 rw [← hn] at hl ⊢
 clear hn hb1 hf h
 go_enter Tryz.func4, Tryz.ntmps4
 go_wp2_with fail
 rw [← hw1]
 clear hw1
 go_loopw [5, 6, 7] (fun k d i wr => ∃ (j m : Nat) (b : Bool), i = .int .i64 j ∧ k = .int .i64 m ∧ d = .bool b ∧ j ≤ n ∧ m ≤ j ∧ j ≤ 100 ∧ Hid (seen f l j m b) ∧ Hid (∀ i (h : i < l.length), i < j → SmE l[i]) ∧ Hid (Below w.heap.size w wr) ∧ Hid (FBox wr w.heap.size f PA pc)) (fun _ _ i _ => n - (intOf i).toNat)
 case atStart => exact ⟨0, 0, false, rfl, rfl, rfl, by omega, by omega, by omega, Lib.hid (by unfold seen; simp), Lib.hid fun i _ h => absurd h (by omega), HB1, HF1⟩
 case round =>
  clear HB1 HF1
  obtain ⟨j, m, d, rfl, rfl, rfl, hj, hm, h100, HC, HSM, HB, HF⟩ := hrel
  by_cases hlt : j < n
  rotate_left
  ·have d1 : decide ((j : Int) < (n : Int)) = false := decide_eq_false (by omega)
   have HE : Hid (countFl f l = m) := Lib.hid (by
    have h1 := HC.out
    unfold seen at h1
    rw [h1, count_end f l j (by have := HN.out; omega)]
    cases d <;> rfl)
   go_wp2_with fail
   refine (lives19_any _).mono ?_
   rintro q w3 ⟨rfl, hb⟩
   have HB3 := Lib.hid (HB.out.trans (hb.mono HB.out.size))
   have HF3 := Lib.hid (HF.out.below hb)
   clear hb
   have z0 := HF3.out.g0
   have z1 := HF3.out.g1
   have z2 := HF3.out.g2
   have HCN := Lib.hid (fcount_any (fun b => b < w.heap.size) f PA pc A c l w3 (fun b hb => Nat.lt_of_lt_of_le hb HB3.out.size) (HFA.out.below (fun _ h => h) HB3.out) (HA.out.keep lrelE fun b hb => HB3.out.block b hb) (by have := HN.out; omega) (fun e he => by
    obtain ⟨i, hi, rfl⟩ := List.getElem_of_mem he
    exact HSM.out i hi (by have := HN.out; omega)))
   rw [← HN.out] at HCN
   go_wp2_with fail
   refine HCN.out.mono ?_
   rintro q w4 ⟨rfl, hb⟩
   rw [HE.out]
   have HB4 := Lib.hid (HB3.out.trans (hb.mono HB3.out.size))
   clear hb z0 z1 z2 HCN
   go_wp2_with fail
   go_ret
   exact ⟨by simp, HB4.out⟩
  have d1 : decide ((j : Int) < (n : Int)) = true := decide_eq_true (by omega)
  have hjl : j < l.length := by have := HN.out; omega
  by_cases hbig : 100 ≤ j
  ·have d2 : decide ((j : Int) ≥ 100) = true := decide_eq_true (by omega)
   go_wp2_with fail
   refine wp_region_mix [0, 1, 2, 3, 4, 5, 6, 7, 8, 9] (by kernel_rfl) (by kernel_rfl) (fun _ d _ _ _ h => by cases d <;> exact h) ?_
   simp only [atR]
   have hdr : Below wr.heap.size wr wr.drew := (Below.refl _ _).drew
   have HB3 := Lib.hid (HB.out.trans (hdr.mono HB.out.size))
   clear hdr
   generalize wr.drew = w3 at *
   first | refine mix_pure ?_ | refine mix_pureB ?_
   simp only [List.takeWhile, List.dropWhile, isPure]
   repeat (go_big_quiet_step (fail))
   refine wpQuiet_nil ?_
   first | refine mix_call rfl (fun K hK => ?_) | refine mix_callB rfl (fun K hK => ?_)
   go_simp
   refine hK _ _ (Below.refl _ _) ?_
   clear hK K
   try simp only [Act.put]
   first | refine mix_pure ?_ | refine mix_pureB ?_
   simp only [List.takeWhile, List.dropWhile, isPure]
   repeat (go_big_quiet_step (fail))
   refine wpQuiet_nil ?_
   unfold wpMix
   go_wp2_with fail
   refine (lives19_any _).mono ?_
   rintro q v9 ⟨rfl, hb⟩
   have HZ := Lib.hid (HB3.out.trans (hb.mono HB3.out.size))
   clear hb
   go_wp2_with fail
   go_ret
   exact ⟨rfl, HZ.out⟩
  have d2 : decide ((j : Int) ≥ 100) = false := decide_eq_false (by omega)
  obtain ⟨b, off, cs, hA, hb, hrg, hcz, he⟩ := EntsL.at (RowsG.keep lrelE HA.out fun b hb => HB.out.block b hb) j hjl
  obtain ⟨IA, ic, IA', ic', DA, dc, DA', dc', LA, lc, hcs, hat⟩ := he.at
  have hcs' : cs = [.int .i64 l[j].term, .int .i64 l[j].kind, .string l[j].coll, .string l[j].to, .int .i64 l[j].id.kind, .int .i64 l[j].id.num, .string l[j].id.text, .slice IA l[j].id.items.length ic, .slice IA' l[j].id.names.length ic', .int .i64 l[j].doc.kind, .int .i64 l[j].doc.num, .string l[j].doc.text, .slice DA l[j].doc.items.length dc, .slice DA' l[j].doc.names.length dc', .slice LA l[j].dels.length lc, .int .i64 l[j].session, .int .i64 l[j].number] := by have := congrArg Array.toList hcs; simpa using this
  subst hcs'
  have HSN := Lib.hid (seen_next HC.out hjl)
  have HSS := Lib.hid (small_ent he)
  obtain ⟨e, heq⟩ : ∃ e, e = l[j] := ⟨_, rfl⟩
  rw [← heq] at HSN HSS hat hrg
  have HEQ := Lib.hid heq
  clear heq hcs he hcz
  have HRG := Lib.hid hrg
  have HAT := Lib.hid hat
  obtain ⟨b', off', rfl, rfl⟩ : ∃ b' off', b' = b ∧ off' = off := ⟨_, _, rfl, rfl⟩
  have HBB := Lib.hid hb
  clear hat hrg hb
  subst hA
  go_wp2_with fail
  refine wp_region_mix [0, 1, 2, 3, 4, 5, 6, 7, 8, 9] (by kernel_rfl) (by kernel_rfl) (fun _ d _ _ _ h => by cases d <;> exact h) ?_
  simp only [atR]
  have hdr : Below wr.heap.size wr wr.drew := (Below.refl _ _).drew
  have HB3 := Lib.hid (HB.out.trans (hdr.mono HB.out.size))
  have HF3 := Lib.hid (HF.out.below hdr)
  have HRG3 : Hid (wr.drew.rangeAt b' (off' + j * 17) [.int .i64 e.term, .int .i64 e.kind, .string e.coll, .string e.to, .int .i64 e.id.kind, .int .i64 e.id.num, .string e.id.text, .slice IA e.id.items.length ic, .slice IA' e.id.names.length ic', .int .i64 e.doc.kind, .int .i64 e.doc.num, .string e.doc.text, .slice DA e.doc.items.length dc, .slice DA' e.doc.names.length dc', .slice LA e.dels.length lc, .int .i64 e.session, .int .i64 e.number]) := Lib.hid HRG.out
  have HAT3 : Hid (EntAt wr.drew (fun b => b < w.heap.size) e IA ic IA' ic' DA dc DA' dc' LA lc) := Lib.hid (HAT.out.keep fun b hb => rfl)
  have HBL : Hid (b' < wr.drew.heap.size) := Lib.hid (Nat.lt_of_lt_of_le HBB.out HB.out.size)
  clear hdr HB HF HRG HAT
  generalize wr.drew = w3 at *
  have LR3 := ent_later HRG3.out HBL.out
  have u0 := cell_later (B := w3.heap.size) (w := w3) HF3.out.g0 HF3.out.lt
  have u1 := cell_later (B := w3.heap.size) (w := w3) HF3.out.g1 HF3.out.lt
  have u2 := cell_later (B := w3.heap.size) (w := w3) HF3.out.g2 HF3.out.lt
  first | refine mix_pure ?_ | refine mix_pureB ?_
  simp only [List.takeWhile, List.dropWhile, isPure, Nat.reduceBNe]
  repeat (first | (refine wpQuiet_load_rng rfl (by rfl) _ rfl b' (off' + j * 17) rfl _ LR3 rfl ?_; simp only [acR, Act.put]) | go_big_quiet_step (fail))
  refine wpQuiet_nil ?_
  clear u0 u1 u2 LR3
  first | refine mix_call rfl (fun K hK => ?_) | refine mix_callB rfl (fun K hK => ?_)
  go_simp
  refine (large19_any (fun b => b < w.heap.size) f PA pc e _ w3 (fun b hb => Nat.lt_of_lt_of_le hb HB3.out.size) HAT3.out.l).mono ?_
  rintro q w4 ⟨rfl, hb⟩
  refine hK _ _ (hb) ?_
  clear hK K
  try simp only [Act.put]
  have HB4 := Lib.hid (HB3.out.trans (hb.mono HB3.out.size))
  have HF4 := Lib.hid (HF3.out.below hb)
  have HRG4 : Hid (w4.rangeAt b' (off' + j * 17) [.int .i64 e.term, .int .i64 e.kind, .string e.coll, .string e.to, .int .i64 e.id.kind, .int .i64 e.id.num, .string e.id.text, .slice IA e.id.items.length ic, .slice IA' e.id.names.length ic', .int .i64 e.doc.kind, .int .i64 e.doc.num, .string e.doc.text, .slice DA e.doc.items.length dc, .slice DA' e.doc.names.length dc', .slice LA e.dels.length lc, .int .i64 e.session, .int .i64 e.number]) := Lib.hid (fun k v hv => (World.cell?_of_block (a := ⟨b', off' + j * 17 + k, none⟩) (hb.block b' HBL.out)).trans (HRG3.out k v hv))
  have HAT4 : Hid (EntAt w4 (fun b => b < w.heap.size) e IA ic IA' ic' DA dc DA' dc' LA lc) := Lib.hid (HAT3.out.keep fun b hb' => hb.block b (Nat.lt_of_lt_of_le hb' HB3.out.size))
  have HBL : Hid (b' < w4.heap.size) := Lib.hid (Nat.lt_of_lt_of_le HBL.out hb.size)
  clear hb HB3 HF3 HRG3 HAT3
  generalize hlg : largeF f e = lg
  first | refine mix_pure ?_ | refine mix_pureB ?_
  simp only [List.takeWhile, List.dropWhile, isPure]
  repeat (go_big_quiet_step (fail))
  refine wpQuiet_nil ?_
  unfold wpMix
  cases lg with
  | true =>
   clear hlg
   have HB3 := HB4
   go_wp2_with fail
   refine (lives19_any _).mono ?_
   rintro q v9 ⟨rfl, hb⟩
   have HZ := Lib.hid (HB3.out.trans (hb.mono HB3.out.size))
   clear hb
   go_wp2_with fail
   go_ret
   exact ⟨rfl, HZ.out⟩
  | false =>
  have HDJ := Lib.hid (HSS.out (large_part hlg)).1
  clear hlg HSS
  have HSM2 : Hid (∀ i (h : i < l.length), i < j + 1 → SmE l[i]) := Lib.hid fun i hi hij => by
   by_cases e : i = j
   ·subst e; rw [← HEQ.out]; exact HDJ.out
   ·exact HSM.out i hi (by omega)
  clear HSM HEQ
  obtain ⟨mt, hmt⟩ : ∃ x, x = matchFl f e := ⟨_, rfl⟩
  obtain ⟨en, hen⟩ : ∃ x, x = endsFl f e := ⟨_, rfl⟩
  rw [← hmt, ← hen] at HSN
  have HMT := Lib.hid hmt
  have HEN := Lib.hid hen
  clear hmt hen HC
  have SUB : Hid (∀ W, Below w.heap.size w W → ∀ b, b < w.heap.size → b < W.heap.size) := Lib.hid fun W hW b hb => Nat.lt_of_lt_of_le hb hW.size
  have hn62 : n ≤ 567493904640 := hl
  cases d
  ·go_wp2_with fail
   refine wp_region_mix [0, 1, 2, 3, 4, 5, 6, 7, 8, 9] (by kernel_rfl) (by kernel_rfl) (fun _ d _ _ _ h => by cases d <;> exact h) ?_
   simp only [atR]
   have hb : Below w4.heap.size w4 w4.drew := (Below.refl _ _).drew
   have HB5 := Lib.hid (HB4.out.trans (hb.mono HB4.out.size))
   have HF5 := Lib.hid (HF4.out.below hb)
   have HRG5 : Hid (w4.drew.rangeAt b' (off' + j * 17) [.int .i64 e.term, .int .i64 e.kind, .string e.coll, .string e.to, .int .i64 e.id.kind, .int .i64 e.id.num, .string e.id.text, .slice IA e.id.items.length ic, .slice IA' e.id.names.length ic', .int .i64 e.doc.kind, .int .i64 e.doc.num, .string e.doc.text, .slice DA e.doc.items.length dc, .slice DA' e.doc.names.length dc', .slice LA e.dels.length lc, .int .i64 e.session, .int .i64 e.number]) := Lib.hid (fun k v hv => (World.cell?_of_block (a := ⟨b', off' + j * 17 + k, none⟩) (hb.block b' HBL.out)).trans (HRG4.out k v hv))
   have HAT5 : Hid (EntAt w4.drew (fun b => b < w.heap.size) e IA ic IA' ic' DA dc DA' dc' LA lc) := Lib.hid (HAT4.out.keep fun b hb' => hb.block b (Nat.lt_of_lt_of_le hb' HB4.out.size))
   have HBL : Hid (b' < w4.drew.heap.size) := Lib.hid (Nat.lt_of_lt_of_le HBL.out hb.size)
   clear hb HB4 HF4 HRG4 HAT4
   generalize w4.drew = w5 at *
   have LR5 := ent_later HRG5.out HBL.out
   have u0 := cell_later (B := w5.heap.size) (w := w5) HF5.out.g0 HF5.out.lt
   have u1 := cell_later (B := w5.heap.size) (w := w5) HF5.out.g1 HF5.out.lt
   have u2 := cell_later (B := w5.heap.size) (w := w5) HF5.out.g2 HF5.out.lt
   first | refine mix_pure ?_ | refine mix_pureB ?_
   simp only [List.takeWhile, List.dropWhile, isPure, Nat.reduceBNe]
   repeat (first | (refine wpQuiet_load_rng rfl (by rfl) _ rfl b' (off' + j * 17) rfl _ LR5 rfl ?_; simp only [acR, Act.put]) | go_big_quiet_step (fail))
   refine wpQuiet_nil ?_
   clear u0 u1 u2 LR5
   first | refine mix_call rfl (fun K hK => ?_) | refine mix_callB rfl (fun K hK => ?_)
   go_simp
   refine (r19match_any (fun b => b < w.heap.size) f PA pc e _ w5 (SUB.out _ HB5.out) (HFA.out.below (fun _ h => h) HB5.out) HAT5.out.l HDJ.out).mono ?_
   rintro q w6 ⟨rfl, hb⟩
   refine hK _ _ (hb) ?_
   clear hK K
   try simp only [Act.put]
   rw [← HMT.out]
   have HB6 := Lib.hid (HB5.out.trans (hb.mono HB5.out.size))
   have HF6 := Lib.hid (HF5.out.below hb)
   have HRG6 : Hid (w6.rangeAt b' (off' + j * 17) [.int .i64 e.term, .int .i64 e.kind, .string e.coll, .string e.to, .int .i64 e.id.kind, .int .i64 e.id.num, .string e.id.text, .slice IA e.id.items.length ic, .slice IA' e.id.names.length ic', .int .i64 e.doc.kind, .int .i64 e.doc.num, .string e.doc.text, .slice DA e.doc.items.length dc, .slice DA' e.doc.names.length dc', .slice LA e.dels.length lc, .int .i64 e.session, .int .i64 e.number]) := Lib.hid (fun k v hv => (World.cell?_of_block (a := ⟨b', off' + j * 17 + k, none⟩) (hb.block b' HBL.out)).trans (HRG5.out k v hv))
   have HAT6 : Hid (EntAt w6 (fun b => b < w.heap.size) e IA ic IA' ic' DA dc DA' dc' LA lc) := Lib.hid (HAT5.out.keep fun b hb' => hb.block b (Nat.lt_of_lt_of_le hb' HB5.out.size))
   have HBL : Hid (b' < w6.heap.size) := Lib.hid (Nat.lt_of_lt_of_le HBL.out hb.size)
   clear hb HB5 HF5 HRG5 HAT5
   first | refine mix_pure ?_ | refine mix_pureB ?_
   simp only [List.takeWhile, List.dropWhile, isPure]
   repeat (go_big_quiet_step (fail))
   refine wpQuiet_nil ?_
   unfold wpMix
   cases mt
   all_goals (
    go_wp2_with fail
    refine wp_region_mix [0, 1, 2, 3, 4, 5, 6, 7, 8, 9] (by kernel_rfl) (by kernel_rfl) (fun _ d _ _ _ h => by cases d <;> exact h) ?_
    simp only [atR]
    have hb : Below w6.heap.size w6 w6.drew := (Below.refl _ _).drew
    have HB7 := Lib.hid (HB6.out.trans (hb.mono HB6.out.size))
    have HF7 := Lib.hid (HF6.out.below hb)
    have HRG7 : Hid (w6.drew.rangeAt b' (off' + j * 17) [.int .i64 e.term, .int .i64 e.kind, .string e.coll, .string e.to, .int .i64 e.id.kind, .int .i64 e.id.num, .string e.id.text, .slice IA e.id.items.length ic, .slice IA' e.id.names.length ic', .int .i64 e.doc.kind, .int .i64 e.doc.num, .string e.doc.text, .slice DA e.doc.items.length dc, .slice DA' e.doc.names.length dc', .slice LA e.dels.length lc, .int .i64 e.session, .int .i64 e.number]) := Lib.hid (fun k v hv => (World.cell?_of_block (a := ⟨b', off' + j * 17 + k, none⟩) (hb.block b' HBL.out)).trans (HRG6.out k v hv))
    have HAT7 : Hid (EntAt w6.drew (fun b => b < w.heap.size) e IA ic IA' ic' DA dc DA' dc' LA lc) := Lib.hid (HAT6.out.keep fun b hb' => hb.block b (Nat.lt_of_lt_of_le hb' HB6.out.size))
    have HBL : Hid (b' < w6.drew.heap.size) := Lib.hid (Nat.lt_of_lt_of_le HBL.out hb.size)
    clear hb HB6 HF6 HRG6 HAT6
    generalize w6.drew = w7 at *
    have LR7 := ent_later HRG7.out HBL.out
    have u0 := cell_later (B := w7.heap.size) (w := w7) HF7.out.g0 HF7.out.lt
    have u1 := cell_later (B := w7.heap.size) (w := w7) HF7.out.g1 HF7.out.lt
    have u2 := cell_later (B := w7.heap.size) (w := w7) HF7.out.g2 HF7.out.lt
    first | refine mix_pure ?_ | refine mix_pureB ?_
    simp only [List.takeWhile, List.dropWhile, isPure, Nat.reduceBNe]
    repeat (first | (refine wpQuiet_load_rng rfl (by rfl) _ rfl b' (off' + j * 17) rfl _ LR7 rfl ?_; simp only [acR, Act.put]) | go_big_quiet_step (fail))
    refine wpQuiet_nil ?_
    clear u0 u1 u2 LR7
    first | refine mix_call rfl (fun K hK => ?_) | refine mix_callB rfl (fun K hK => ?_)
    go_simp
    refine (r19ends_any (fun b => b < w.heap.size) f PA pc e _ w7 (SUB.out _ HB7.out) (HFA.out.below (fun _ h => h) HB7.out) HAT7.out.l HDJ.out).mono ?_
    rintro q w8 ⟨rfl, hb⟩
    refine hK _ _ (hb) ?_
    clear hK K
    try simp only [Act.put]
    rw [← HEN.out]
    have HB8 := Lib.hid (HB7.out.trans (hb.mono HB7.out.size))
    have HF8 := Lib.hid (HF7.out.below hb)
    have HRG8 : Hid (w8.rangeAt b' (off' + j * 17) [.int .i64 e.term, .int .i64 e.kind, .string e.coll, .string e.to, .int .i64 e.id.kind, .int .i64 e.id.num, .string e.id.text, .slice IA e.id.items.length ic, .slice IA' e.id.names.length ic', .int .i64 e.doc.kind, .int .i64 e.doc.num, .string e.doc.text, .slice DA e.doc.items.length dc, .slice DA' e.doc.names.length dc', .slice LA e.dels.length lc, .int .i64 e.session, .int .i64 e.number]) := Lib.hid (fun k v hv => (World.cell?_of_block (a := ⟨b', off' + j * 17 + k, none⟩) (hb.block b' HBL.out)).trans (HRG7.out k v hv))
    have HAT8 : Hid (EntAt w8 (fun b => b < w.heap.size) e IA ic IA' ic' DA dc DA' dc' LA lc) := Lib.hid (HAT7.out.keep fun b hb' => hb.block b (Nat.lt_of_lt_of_le hb' HB7.out.size))
    have HBL : Hid (b' < w8.heap.size) := Lib.hid (Nat.lt_of_lt_of_le HBL.out hb.size)
    clear hb HB7 HF7 HRG7 HAT7
    first | refine mix_pure ?_ | refine mix_pureB ?_
    simp only [List.takeWhile, List.dropWhile, isPure]
    repeat (go_big_quiet_step (fail))
    refine wpQuiet_nil ?_
    unfold wpMix
    go_wp2_with fail
    go_roundw)
   case rel => exact ⟨j + 1, m, en, by go_num, rfl, by simp, by omega, by omega, by omega, Lib.hid (by have := HSN.out; simpa using this), HSM2, HB8, HF8⟩
   case measure => simp [intOf]; omega
   case rel => exact ⟨j + 1, m + 1, en, by go_num, by go_num, by simp, by omega, by omega, by omega, Lib.hid (by have := HSN.out; simpa using this), HSM2, HB8, HF8⟩
   case measure => simp [intOf]; omega
  ·go_wp2_with fail
   refine wp_region_mix [0, 1, 2, 3, 4, 5, 6, 7, 8, 9] (by kernel_rfl) (by kernel_rfl) (fun _ d _ _ _ h => by cases d <;> exact h) ?_
   simp only [atR]
   have hb : Below w4.heap.size w4 w4.drew := (Below.refl _ _).drew
   have HB5 := Lib.hid (HB4.out.trans (hb.mono HB4.out.size))
   have HF5 := Lib.hid (HF4.out.below hb)
   have HRG5 : Hid (w4.drew.rangeAt b' (off' + j * 17) [.int .i64 e.term, .int .i64 e.kind, .string e.coll, .string e.to, .int .i64 e.id.kind, .int .i64 e.id.num, .string e.id.text, .slice IA e.id.items.length ic, .slice IA' e.id.names.length ic', .int .i64 e.doc.kind, .int .i64 e.doc.num, .string e.doc.text, .slice DA e.doc.items.length dc, .slice DA' e.doc.names.length dc', .slice LA e.dels.length lc, .int .i64 e.session, .int .i64 e.number]) := Lib.hid (fun k v hv => (World.cell?_of_block (a := ⟨b', off' + j * 17 + k, none⟩) (hb.block b' HBL.out)).trans (HRG4.out k v hv))
   have HAT5 : Hid (EntAt w4.drew (fun b => b < w.heap.size) e IA ic IA' ic' DA dc DA' dc' LA lc) := Lib.hid (HAT4.out.keep fun b hb' => hb.block b (Nat.lt_of_lt_of_le hb' HB4.out.size))
   have HBL : Hid (b' < w4.drew.heap.size) := Lib.hid (Nat.lt_of_lt_of_le HBL.out hb.size)
   clear hb HB4 HF4 HRG4 HAT4
   generalize w4.drew = w5 at *
   have LR5 := ent_later HRG5.out HBL.out
   have u0 := cell_later (B := w5.heap.size) (w := w5) HF5.out.g0 HF5.out.lt
   have u1 := cell_later (B := w5.heap.size) (w := w5) HF5.out.g1 HF5.out.lt
   have u2 := cell_later (B := w5.heap.size) (w := w5) HF5.out.g2 HF5.out.lt
   clear u0 u1 u2 LR5
   first | refine mix_pure ?_ | refine mix_pureB ?_
   simp only [List.takeWhile, List.dropWhile, isPure]
   repeat (go_big_quiet_step (fail))
   refine wpQuiet_nil ?_
   first | refine mix_call rfl (fun K hK => ?_) | refine mix_callB rfl (fun K hK => ?_)
   go_simp
   refine hK _ _ (Below.refl _ _) ?_
   clear hK K
   try simp only [Act.put]
   first | refine mix_pure ?_ | refine mix_pureB ?_
   simp only [List.takeWhile, List.dropWhile, isPure]
   repeat (go_big_quiet_step (fail))
   refine wpQuiet_nil ?_
   unfold wpMix
   go_wp2_with fail
   refine wp_region_mix [0, 1, 2, 3, 4, 5, 6, 7, 8, 9] (by kernel_rfl) (by kernel_rfl) (fun _ d _ _ _ h => by cases d <;> exact h) ?_
   simp only [atR]
   have hdr : Below w5.heap.size w5 w5.drew := (Below.refl _ _).drew
   have HB6 := Lib.hid (HB5.out.trans (hdr.mono HB5.out.size))
   have HF6 := Lib.hid (HF5.out.below hdr)
   clear hdr
   generalize w5.drew = w6 at *
   first | refine mix_pure ?_ | refine mix_pureB ?_
   simp only [List.takeWhile, List.dropWhile, isPure]
   repeat (go_big_quiet_step (fail))
   refine wpQuiet_nil ?_
   first | refine mix_call rfl (fun K hK => ?_) | refine mix_callB rfl (fun K hK => ?_)
   go_simp
   refine hK _ _ (Below.refl _ _) ?_
   clear hK K
   try simp only [Act.put]
   first | refine mix_pure ?_ | refine mix_pureB ?_
   simp only [List.takeWhile, List.dropWhile, isPure]
   repeat (go_big_quiet_step (fail))
   refine wpQuiet_nil ?_
   unfold wpMix
   go_wp2_with fail
   go_roundw
   case rel => exact ⟨j + 1, m, true, by go_num, rfl, by simp, by omega, by omega, by omega, Lib.hid (by have := HSN.out; simpa using this), HSM2, HB6, HF6⟩
   case measure => simp [intOf]; omega
set_option maxRecDepth 100000 in
theorem lifted (os : Os) (started : os.Started) (H : Type) (enc : TypeId × Value → H) :
  ReturnsInHanded {} Tryz.checked os 4 .any (Rows.filterCountsSpec.pre6 enc Tryz.prog Tryz.f4 Rows.filterCountsRow.domain false) (Rows.filterCountsSpec.post enc Tryz.prog Tryz.f4 false true false false) := by
 refine returnsInHanded_of_change_sized (C := Tryz.checked) own started (by kernel_rfl) Tryz.func4
  (ChangeSpec.witness6 (enc := enc) (C := Tryz.checked) false ⟨#[], #[.agg #[.string ByteArray.empty, .slice none 0 0, .int .i64 0], .slice none 0 0], []⟩ 8 (by kernel_rfl) (by kernel_rfl) (by kernel_rfl) (by kernel_rfl)) ?_
 intro W base args ds gs before hval0 hW hcnd hsz0 _
 have hval : ∀ (j : Nat) t v, Tryz.f4.params[j]? = some t → args[j]? = some v → Value.okWide Tryz.prog W .any base t v := hval0
 have hsz : (DataW.weightsEach Tryz.prog (Tryz.f4.params.toList ++ Rows.filterCountsSpec.plain.varTypes Tryz.prog) (ds ++ gs)).all (· ≤ reachBytes) = true := hsz0
 have hW' := hW
 obtain ⟨p, q, hA0, hV, rfl, hfz, hnd⟩ := hW
 have hA : DataW.TrodAll enc Tryz.prog W 0 (fun _ => true) true Tryz.f4.params.toList args.toList ds p := hA0
 rw [Tryz.params4] at hA hval hsz
 obtain ⟨v0, v1, d0, d1, p0, p1, rfl, rfl, rfl, h0, h1⟩ := trodAll_two hA
 obtain ⟨rfl, rfl⟩ := trodVars_none hV
 obtain ⟨a0, rfl, -⟩ := okWide_struct Tryz.underlying24 (hval 0 24 v0 rfl rfl)
 have k0 := h0
 have lt0 : ∀ x ∈ p0, x.block < W.heap.size := by obtain ⟨m, hm⟩ := k0; exact DataW.trod_lt m _ _ _ hm
 have wt0 : ∀ n ∈ d0.weights Tryz.prog 24, n ≤ reachBytes := fun n hn => by have := List.all_eq_true.1 hsz n (DataW.weights_mem_each (j := 0) rfl rfl n hn); simpa using this
 obtain ⟨A1, n1, c1, rfl⟩ := okWide_slice Tryz.underlying34 (hval 1 34 v1 rfl rfl)
 have k1 := h1
 have lt1 : ∀ x ∈ p1, x.block < W.heap.size := by obtain ⟨m, hm⟩ := k1; exact DataW.trod_lt m _ _ _ hm
 have wt1 : ∀ n ∈ d1.weights Tryz.prog 34, n ≤ reachBytes := fun n hn => by have := List.all_eq_true.1 hsz n (DataW.weights_mem_each (j := 1) rfl rfl n hn); simpa using this
 clear hA0 hval0
 obtain ⟨fl0, PA0, pc0, ha0, hfl0⟩ : ∃ (f : FilT) (PA : Option Addr) (pc : Nat), a0 = #[.string f.coll, .slice PA f.path.length pc, .int .i64 f.kinds] ∧ FilAt W (fun b => b < W.heap.size) f PA pc := by
  obtain ⟨m, hm⟩ := k0
  obtain ⟨f, PA, pc, e, r⟩ := open_fil hm wt0
  refine ⟨f, PA, pc, ?_, r⟩
  have e2 : a0.toList = [.string f.coll, .slice PA f.path.length pc, .int .i64 f.kinds] := by simpa [Value.cells] using e
  rw [← Array.toArray_toList (xs := a0), e2]
 subst ha0
 obtain ⟨es1, hn1, ho1, hc1, hl1, hes1⟩ : ∃ es : List EntT, n1 = es.length ∧ (A1 = none → c1 = 0 ∧ es = []) ∧ es.length ≤ c1 ∧ es.length ≤ 567493904640 ∧ EntsL W (fun b => b < W.heap.size) A1 es := by
  obtain ⟨m, hm⟩ := k1
  obtain ⟨B, e, es, he, g0, g1, g2, g3⟩ := open_ents hm wt1
  have he' : [Value.slice A1 n1 c1] = [Value.slice B es.length e] := he
  simp only [List.cons.injEq, Value.slice.injEq, and_true] at he'
  obtain ⟨rfl, rfl, rfl⟩ := he'
  exact ⟨es, rfl, g0, g1, g2, g3⟩
 subst hn1
 refine (walk fl0 PA0 pc0 A1 c1 es1 W hfl0 hes1 hl1).mono fun e W' ⟨he, bel⟩ => ?_
 subst he
 exact ⟨_, rfl, _, _, _, [], _, [], hW', trodAll_mk1 (shut_bool Tryz.underlying4 _), trodAll_mk2 (Below.trod laidOut (by kernel_rfl) (of_decide_eq_true (by kernel_rfl)) k0 bel lt0) (Below.trod laidOut (by kernel_rfl) (of_decide_eq_true (by kernel_rfl)) k1 bel lt1), rfl, bel.frame _, fun h => by cases h⟩

theorem proved : Rows.FilterCountsSaid :=
 OpenClaim.holds_of_wide 4 Tryz.f4 rfl rfl rfl rfl rfl rfl rfl ⟨rfl, rfl, rfl, rfl, rfl⟩ rfl rfl rfl rfl rfl (by kernel_rfl) Tryz.func4 (by kernel_rfl)
  (of_decide_eq_true (by kernel_rfl)) (by unfold Func.isWrapper; first | (rw [if_pos (by decide +kernel)]; kernel_rfl) | (rw [if_neg (by decide +kernel)]; exact ⟨rfl, rfl⟩))
  (fun os started H enc _ => lifted os started H enc)

end Go.Proofs.YtlipkmdjpligeaaGreat.FCounts
