/- The lives of layer 13. -/
import Derived.Test.YtpcdngpppjdgcaaGreatKEnV
import Derived.Test.YtpcdngpppjdgcaaGreatKEnT
import Derived.Test.YtpcdngpppjdgcaaGreatKEnN
import Derived.Test.YtpcdngpppjdgcaaGreatKDlS
import Derived.Test.YtpcdngpppjdgcaaGreatKCodG
import Derived.Test.YtpcdngpppjdgcaaGreatKValP
import Derived.Test.YtpcdngpppjdgcaaGreatKDlK
import Derived.Test.YtpcdngpppjdgcaaGreatKRefT
import Derived.Deep.Slices
import Derived.SizedLaws
import Derived.ProofKit
import Derived.OpenShut
import Derived.ChangeOld
namespace Go.Proofs.YtpcdngpppjdgcaaGreat
open Lib (hid)
set_option linter.unusedVariables false
set_option linter.unusedSimpArgs false
open Go.RowKit
set_option maxRecDepth 100000
def e0L : EntT := ⟨3, 1, ⟨#[]⟩, ⟨#[]⟩, noneV, noneV, [], 0, 0⟩
def e1L : EntT := ⟨1, 5, ⟨#[99]⟩, ⟨#[]⟩, noneV, noneV, [], 2, 5⟩
def b0L : List UInt8 := [3, 1, 0, 0]
def b1L : List UInt8 := [1, 5, 2, 5, 1, 99]
theorem e0_enc : encE e0L = b0L := by decide +kernel
theorem e0_err : errE e0L = 0 := by decide +kernel
theorem e1_enc : encE e1L = b1L := by decide +kernel
theorem e1_err : errE e1L = 0 := by decide +kernel
theorem ez_err : errE emptyE = 1 := by decide +kernel
theorem e0_may : mayE e0L = true := by decide +kernel
theorem e0_same : sameC e0L e0L = true := by decide +kernel
theorem b0_dec : decEE b0L = e0L := by kernel_rfl
theorem b0_err : decEC b0L = 0 := by kernel_rfl
theorem b1_read : rdE (some b1L) = (e1L, some []) := by kernel_rfl
theorem n_cL : nameC ⟨#[99]⟩ = true := by decide +kernel
theorem n_dL : nameC ⟨#[36]⟩ = false := by decide +kernel
theorem smL (e : EntT) (h1 : e.id = noneV) (h2 : e.doc = noneV) (h3 : e.dels = []) : SmE e := by
  refine ⟨?_, ?_, ?_, ?_, fun _ => ?_⟩
  · rw [h1]; exact Nat.le_trans (show depthT noneV ≤ 8 by decide) (by omega)
  · rw [h2]; exact Nat.le_trans (show depthT noneV ≤ 8 by decide) (by omega)
  · rw [h1]; exact Nat.le_trans (show sizeT noneV ≤ 8 by decide) (by omega)
  · rw [h2]; exact Nat.le_trans (show sizeT noneV ≤ 8 by decide) (by omega)
  · rw [h3]; exact ⟨fun d hd => absurd hd List.not_mem_nil, fun d hd => absurd hd List.not_mem_nil⟩
theorem e0_at (w : World) (S : Nat → Prop) : EntL w S e0L #[.int .i64 3, .int .i64 1, .string ⟨#[]⟩, .string ⟨#[]⟩, .int .i64 0, .int .i64 0, .string ⟨#[]⟩, .slice none 0 0, .slice none 0 0, .int .i64 0, .int .i64 0, .string ⟨#[]⟩, .slice none 0 0, .slice none 0 0, .slice none 0 0, .int .i64 0, .int .i64 0] :=
  ⟨none, 0, none, 0, none, 0, none, 0, none, 0, rfl, leaf_lv _ _ _ _ _ (by unfold Rng; omega) (by unfold Rng; omega) (by decide), leaf_lv _ _ _ _ _ (by unfold Rng; omega) (by unfold Rng; omega) (by decide), nil_dels _ _, by show 0 ≤ 0; omega, fun _ => rfl, by show 0 ≤ _; omega, by unfold Rng e0L; simp only; omega, by unfold Rng e0L; simp only; omega, by unfold Rng e0L; simp only; omega, by unfold Rng e0L; simp only; omega, by show (⟨#[]⟩ : ByteArray).size ≤ _; decide, by show (⟨#[]⟩ : ByteArray).size ≤ _; decide⟩
theorem e1_at (w : World) (S : Nat → Prop) : EntL w S e1L #[.int .i64 1, .int .i64 5, .string ⟨#[99]⟩, .string ⟨#[]⟩, .int .i64 0, .int .i64 0, .string ⟨#[]⟩, .slice none 0 0, .slice none 0 0, .int .i64 0, .int .i64 0, .string ⟨#[]⟩, .slice none 0 0, .slice none 0 0, .slice none 0 0, .int .i64 2, .int .i64 5] :=
  ⟨none, 0, none, 0, none, 0, none, 0, none, 0, rfl, leaf_lv _ _ _ _ _ (by unfold Rng; omega) (by unfold Rng; omega) (by decide), leaf_lv _ _ _ _ _ (by unfold Rng; omega) (by unfold Rng; omega) (by decide), nil_dels _ _, by show 0 ≤ 0; omega, fun _ => rfl, by show 0 ≤ _; omega, by unfold Rng e1L; simp only; omega, by unfold Rng e1L; simp only; omega, by unfold Rng e1L; simp only; omega, by unfold Rng e1L; simp only; omega, by show (⟨#[99]⟩ : ByteArray).size ≤ _; decide, by show (⟨#[]⟩ : ByteArray).size ≤ _; decide⟩
theorem wpQuiet_load_ent {P : Program} {ops : Array Oper} {C : World → Prop} {Q : Act → Prop} {rest : List Oper} {o : Oper} {a : Act} (hP : P = Tryz.prog) (hw : Region.wanted o (yielded ops a.tmps) = true) (x : Operand) (ho : o.op = .load 28 x)
    (g : Nat) (hx : a.eval x = .pointer (some ⟨g, 0, none⟩)) (cs : Array Value) (hg : ∀ u, C u → u.heap[g]? = some (.cells cs 28 (0, 0))) (hn : cs.size = 17)
    (h : wpQuiet P ops C Q rest (a.put o.dst (.agg cs))) : wpQuiet P ops C Q (o :: rest) a := by
  subst hP
  unfold wpQuiet
  rw [if_pos hw]
  refine ⟨.agg cs, fun u hu => ?_, h⟩
  have e := run_loadVar_row (P := Tryz.prog) u g 28 28 cs (0, 0) _ (hg u hu) Tryz.underlying28 rfl (by rw [hn]; kernel_rfl)
  unfold Oper.quietAt execOp
  simp only [ho, hx, Instr.loadAt, Instr.sureAddr, Sem.run_bind, Sem.run_pure, Result.andThen_ok, e]
  exact ⟨rfl, rfl⟩
theorem KeepG.only {g : Nat} {w w' : World} (h : Only w w' g) : KeepG g w w' := ⟨h.size, fun b hb hg => h.block b hb (fun e => hg (by cases e; rfl))⟩
theorem OwnB.convG {w : World} {B g : Nat} {v : Value} {l : List UInt8} (h : Rd w B v l) (hB : B ≤ w.heap.size) (hg : B ≤ g) : ∀ p : LaterR (KeepG g) w, (convert 35 9 v).run Tryz.prog p.u = .ok (.string ⟨l.toArray⟩) p.u := fun p => by
  obtain ⟨A, cap, h1, h2, h3, h4⟩ := h
  refine Rd.strY (B := B) ⟨A, cap, h1, h2, h3, fun hl => ?_⟩
  obtain ⟨b, off, e, hb, hc⟩ := h4 hl
  exact ⟨b, off, e, hb, fun i hi => (World.cell?_of_block (p.h.2 b (by omega) (by omega))).trans (hc i hi)⟩
theorem fieldE2 (a0 a1 a2 a3 a4 a5 a6 a7 a8 a9 a10 a11 a12 a13 a14 a15 a16 : Value) (w : World) : (Instr.field 28 (.agg #[a0, a1, a2, a3, a4, a5, a6, a7, a8, a9, a10, a11, a12, a13, a14, a15, a16]) 2).run Tryz.prog w = .ok a2 w := by kernel_rfl
structure T13 (w u : World) (z g : Nat) (st : Option (List UInt8)) (cs : Array Value) : Prop where
  b : Below w.heap.size w u
  x : u.heap[z]? = some (.cells cs 28 (0, 0))
  e : EntL u (fun b => b < g) e0L cs
  s : SrcL u g st
  zg : z < g
  wg : w.heap.size ≤ g
theorem T13.call {w u u' : World} {z g : Nat} {st : Option (List UInt8)} {cs : Array Value} (h : T13 w u z g st cs) (hb : Below u.heap.size u u') : T13 w u' z g st cs :=
  have hg := h.s.lt
  ⟨h.b.trans (hb.mono h.b.size), (hb.block z (Nat.lt_trans h.zg hg)).trans h.x, h.e.keep fun b hb' => hb.block b (Nat.lt_trans hb' hg), h.s.of (hb.block g hg), h.zg, h.wg⟩
theorem T13.only {w u u' : World} {z g : Nat} {st st' : Option (List UInt8)} {cs : Array Value} (h : T13 w u z g st cs) (ho : Only u u' g) (hs : SrcL u' g st') : T13 w u' z g st' cs :=
  have hg := h.s.lt
  have hw := h.wg
  ⟨⟨ho.os.trans h.b.os, ho.tape.trans h.b.tape, ho.output.trans h.b.output, Nat.le_trans h.b.size ho.size, fun k hk => (ho.block k (by omega) (by intro e; injection e; omega)).trans (h.b.block k hk)⟩, (ho.block z (Nat.lt_trans h.zg hg) (by intro e; have := h.zg; injection e; omega)).trans h.x, h.e.keep fun b hb' => ho.block b (Nat.lt_trans hb' hg) (by intro e; injection e; omega), hs, h.zg, h.wg⟩
theorem T13.box {w u : World} {z g : Nat} {st : Option (List UInt8)} {cs : Array Value} (h : T13 w u z g st cs) : ∀ v, CRR (KeepG g) u v → v.heap[z]? = some (.cells cs 28 (0, 0)) := fun v ⟨p, hp⟩ => by
  rw [hp]
  exact (p.h.2 z (Nat.lt_trans h.zg h.s.lt) (Nat.ne_of_lt h.zg)).trans h.x
theorem T13.sub {w u : World} {z g : Nat} {st : Option (List UInt8)} {cs : Array Value} (h : T13 w u z g st cs) : ∀ b, b < g → b < u.heap.size := fun b hb => Nat.lt_trans hb h.s.lt
set_option maxHeartbeats 32000000 in
theorem lives13_any (w : World) : Calls Tryz.prog 13 #[] w fun e w' => e = .returned (.bool true) ∧ Below w.heap.size w w' := by
  have HE0 := hid (eencode_any (fun _ => False) e0L _ w (fun b hb => hb.elim) (e0_at _ _) (smL _ rfl rfl rfl))
  go_enter Tryz.func13, Tryz.ntmps13
  go_wp2_with fail
  refine HE0.out.mono ?_
  rintro q w1 ⟨v1, rfl, ho1, hb1⟩
  rw [e0_err]
  rw [e0_enc] at ho1
  have HX1 : Hid (Below w.heap.size w w1 ∧ Rd w1 w1.heap.size v1 b0L) := hid ⟨hb1, ho1.rdY⟩
  have HD := hid (edecode_any v1 b0L w1 ho1.rdY (by decide))
  clear ho1 hb1 HE0
  go_wp2_with fail
  refine HD.out.mono ?_
  rintro q w2 ⟨cs, rfl, he, hb⟩
  rw [b0_err]
  rw [b0_dec] at he
  obtain ⟨IA, ic, IA', ic', DA, dc, DA', dc', LA, lc, rfl, hat⟩ := he.at
  obtain ⟨z, hz⟩ : ∃ z, z = w2.heap.size := ⟨_, rfl⟩
  obtain ⟨w3, hw3⟩ : ∃ W, W = w2.alloc (.cells #[.int .i64 e0L.term, .int .i64 e0L.kind, .string e0L.coll, .string e0L.to, .int .i64 e0L.id.kind, .int .i64 e0L.id.num, .string e0L.id.text, .slice IA e0L.id.items.length ic, .slice IA' e0L.id.names.length ic', .int .i64 e0L.doc.kind, .int .i64 e0L.doc.num, .string e0L.doc.text, .slice DA e0L.doc.items.length dc, .slice DA' e0L.doc.names.length dc', .slice LA e0L.dels.length lc, .int .i64 e0L.session, .int .i64 e0L.number] 28) := ⟨_, rfl⟩
  have hb3 : Below w2.heap.size w2 w3 := by rw [hw3]; exact below_box _
  have HX3 : Hid (Below w.heap.size w w3 ∧ Rd w3 w3.heap.size v1 b0L ∧ EBox w3 z e0L IA ic IA' ic' DA dc DA' dc' LA lc ∧ EntAt w3 (fun b => b < w3.heap.size) e0L IA ic IA' ic' DA dc DA' dc' LA lc) := hid
    ⟨(HX1.out.1.trans (hb.mono HX1.out.1.size)).trans (hb3.mono (by have := HX1.out.1.size; have := hb.size; omega)), ((HX1.out.2.keep hb).keep (hb3.mono hb.size)).upE (by have := hb.size; have := hb3.size; omega), by rw [hw3, hz]; exact heap_alloc_new w2 _, (hat.imp (fun b hb' => hb'.2)).below (fun b hb' => hb') hb3 |>.imp fun b hb' => Nat.lt_of_lt_of_le hb' hb3.size⟩
  have HE1 := hid (eencode_any (fun _ => False) e1L _ w3 (fun b hb => hb.elim) (e1_at _ _) (smL _ rfl rfl rfl))
  clear hb3 he hat hb HX1 HD
  go_wp2_with fail
  rw [← hw3]
  try rw [← hz]
  clear hw3 hz
  refine HE1.out.mono ?_
  rintro q w4 ⟨v2, rfl, ho4, hb4⟩
  rw [e1_err]
  rw [e1_enc] at ho4
  have HX4 : Hid (Below w.heap.size w w4 ∧ Rd w4 w4.heap.size v1 b0L ∧ EBox w4 z e0L IA ic IA' ic' DA dc DA' dc' LA lc ∧ EntAt w4 (fun b => b < w4.heap.size) e0L IA ic IA' ic' DA dc DA' dc' LA lc ∧ Rd w4 w4.heap.size v2 b1L) := hid
    ⟨HX3.out.1.trans (hb4.mono HX3.out.1.size), (HX3.out.2.1.keep hb4).upE hb4.size, HX3.out.2.2.1.below hb4, (HX3.out.2.2.2.below (fun b hb' => hb') hb4).imp fun b hb' => Nat.lt_of_lt_of_le hb' hb4.size, ho4.rdY⟩
  have HE2 := hid (eencode_any (fun _ => False) emptyE _ w4 (fun b hb => hb.elim) (emptyE_at _ _) (smL _ rfl rfl rfl))
  clear ho4 hb4 HX3 HE1
  go_wp2_with fail
  refine HE2.out.mono ?_
  rintro q w5 ⟨v3, rfl, -, hb5⟩
  rw [ez_err]
  have HX5 : Hid (Below w.heap.size w w5 ∧ Rd w5 w5.heap.size v1 b0L ∧ EBox w5 z e0L IA ic IA' ic' DA dc DA' dc' LA lc ∧ EntAt w5 (fun b => b < w5.heap.size) e0L IA ic IA' ic' DA dc DA' dc' LA lc ∧ Rd w5 w5.heap.size v2 b1L) := hid
    ⟨HX4.out.1.trans (hb5.mono HX4.out.1.size), (HX4.out.2.1.keep hb5).upE hb5.size, HX4.out.2.2.1.below hb5, (HX4.out.2.2.2.1.below (fun b hb' => hb') hb5).imp fun b hb' => Nat.lt_of_lt_of_le hb' hb5.size, (HX4.out.2.2.2.2.keep hb5).upE hb5.size⟩
  have HF := hid (from_any v2 ⟨b1L.toArray⟩ w5 HX5.out.2.2.2.2.strY)
  clear hb5 HX4 HE2
  go_wp2_with fail
  refine HF.out.mono ?_
  rintro q w6 ⟨rfl, hs6, hb6⟩
  obtain ⟨g, hg⟩ : ∃ g, g = w5.heap.size := ⟨_, rfl⟩
  have hsl : SrcL w6 w5.heap.size (some b1L) := ⟨hs6, by decide⟩
  rw [← hg] at hsl hb6 ⊢
  have HX6 : Hid (Below w.heap.size w w6 ∧ Rd w6 g v1 b0L ∧ EBox w6 z e0L IA ic IA' ic' DA dc DA' dc' LA lc ∧ EntAt w6 (fun b => b < g) e0L IA ic IA' ic' DA dc DA' dc' LA lc ∧ Rd w6 g v2 b1L ∧ SrcL w6 g (some b1L) ∧ z < g ∧ g < w6.heap.size ∧ w.heap.size ≤ g) := hid (by
    have h := HX5.out
    have hzl := h.2.2.1.lt
    rw [← hg] at h hzl
    have hw := h.1.size
    rw [← hg] at hw
    exact ⟨h.1.trans (hb6.mono hw), h.2.1.keep hb6, (hb6.block _ hzl).trans h.2.2.1, h.2.2.2.1.below (fun b hb' => hb') hb6, h.2.2.2.2.keep hb6, hsl, hzl, hsl.lt, hw⟩)
  clear hs6 hb6 hsl hg HX5 HF
  go_wp2_with fail
  try simp only [List.append_eq, List.cons_append, List.nil_append]
  refine wp_region_lexR (KeepG g) (KeepG.refl g) (KeepG.trans g) (by kernel_rfl) (by kernel_rfl) (fun _ d _ _ _ h => by cases d <;> exact h) ?_
  have T : Hid (Below w.heap.size w w6.drew ∧ EBox w6.drew z e0L IA ic IA' ic' DA dc DA' dc' LA lc ∧ EntAt w6.drew (fun b => b < g) e0L IA ic IA' ic' DA dc DA' dc' LA lc ∧ SrcL w6.drew g (some b1L) ∧ z < g ∧ g < w6.drew.heap.size ∧ w.heap.size ≤ g) := hid (by
    have h := HX6.out
    exact ⟨h.1.drew, h.2.2.1, h.2.2.2.1.keep fun _ _ => rfl, h.2.2.2.2.2.1.of rfl, h.2.2.2.2.2.2.1, h.2.2.2.2.2.2.2.1, h.2.2.2.2.2.2.2.2⟩)
  have HR : Hid (Rd w6.drew g v1 b0L ∧ Rd w6.drew g v2 b1L) := hid ⟨HX6.out.2.1.keep ((Below.refl _ _).drew), HX6.out.2.2.2.2.1.keep ((Below.refl _ _).drew)⟩
  clear HX6
  generalize w6.drew = u0 at *
  have q0 : ∀ p : LaterR (KeepG g) u0, p.u.cell? ⟨z, 0, none⟩ = some (.int .i64 3) := cell_laterG (g := g) (w := u0) T.out.2.1.g0 (Nat.lt_trans T.out.2.2.2.2.1 T.out.2.2.2.2.2.1) (Nat.ne_of_lt T.out.2.2.2.2.1)
  have f1 : ∀ p : LaterR (KeepG g) u0, (convert 35 9 v1).run Tryz.prog p.u = .ok (.string ⟨#[3, 1, 0, 0]⟩) p.u := OwnB.convG (g := g) HR.out.1 (Nat.le_of_lt T.out.2.2.2.2.2.1) (Nat.le_refl g)
  have f2 : ∀ p : LaterR (KeepG g) u0, (convert 35 9 v2).run Tryz.prog p.u = .ok (.string ⟨#[1, 5, 2, 5, 1, 99]⟩) p.u := OwnB.convG (g := g) HR.out.2 (Nat.le_of_lt T.out.2.2.2.2.2.1) (Nat.le_refl g)
  refine lexR_pure ?_
  simp only [List.takeWhile, List.dropWhile, isPure, Nat.reduceBNe]
  repeat (go_big_quiet_step (fail))
  refine wpQuiet_nil ?_
  clear q0 f1 f2 HR
  refine lexR_call rfl (fun K hK => ?_)
  go_simp
  refine (eread_any g (some b1L) u0 T.out.2.2.2.1).mono ?_
  rintro q u1 ⟨cs, rfl, he, hs, ho⟩
  refine hK _ _ (KeepG.only ho) ?_
  clear hK K
  try simp only [Act.put]
  rw [b1_read] at he hs
  have T : Hid (T13 w u1 z g (some []) #[.int .i64 e0L.term, .int .i64 e0L.kind, .string e0L.coll, .string e0L.to, .int .i64 e0L.id.kind, .int .i64 e0L.id.num, .string e0L.id.text, .slice IA e0L.id.items.length ic, .slice IA' e0L.id.names.length ic', .int .i64 e0L.doc.kind, .int .i64 e0L.doc.num, .string e0L.doc.text, .slice DA e0L.doc.items.length dc, .slice DA' e0L.doc.names.length dc', .slice LA e0L.dels.length lc, .int .i64 e0L.session, .int .i64 e0L.number]) := hid (T13.only (st := some b1L) ⟨T.out.1, T.out.2.1, T.out.2.2.1.l, T.out.2.2.2.1, T.out.2.2.2.2.1, T.out.2.2.2.2.2.2⟩ ho hs)
  obtain ⟨JA, jc, JA', jc', FA, fc, FA', fc', MA, mc, rfl, -⟩ := he.at
  have fd : ∀ p : LaterR (KeepG g) u1, (Instr.field 28 (.agg #[.int .i64 e1L.term, .int .i64 e1L.kind, .string e1L.coll, .string e1L.to, .int .i64 e1L.id.kind, .int .i64 e1L.id.num, .string e1L.id.text, .slice JA e1L.id.items.length jc, .slice JA' e1L.id.names.length jc', .int .i64 e1L.doc.kind, .int .i64 e1L.doc.num, .string e1L.doc.text, .slice FA e1L.doc.items.length fc, .slice FA' e1L.doc.names.length fc', .slice MA e1L.dels.length mc, .int .i64 e1L.session, .int .i64 e1L.number]) 2).run Tryz.prog p.u = .ok (.string ⟨#[99]⟩) p.u := fun p => fieldE2 _ _ _ _ _ _ _ _ _ _ _ _ _ _ _ _ _ p.u
  clear he hs ho
  refine lexR_pure ?_
  simp only [List.takeWhile, List.dropWhile, isPure, Nat.reduceBNe]
  repeat (go_big_quiet_step (fail))
  refine wpQuiet_nil ?_
  clear fd
  refine lexR_call rfl (fun K hK => ?_)
  go_simp
  refine (sdone_st g (some []) u1 T.out.s).mono ?_
  rintro q _ ⟨rfl, rfl⟩
  refine hK _ _ (KeepG.refl g _) ?_
  clear hK K
  try simp only [Act.put]
  rw [show doneOf (some ([] : List UInt8)) = 0 from rfl]
  have HQ := hid T.out.box
  refine lexR_pure ?_
  simp only [List.takeWhile, List.dropWhile, isPure, Nat.reduceBNe]
  repeat (first | (refine wpQuiet_load_ent rfl (by rfl) _ rfl z rfl _ HQ.out rfl ?_; simp only [Act.put, List.setIfInBounds_toArray, List.set_cons_succ, List.set_cons_zero]) | go_big_quiet_step (fail))
  refine wpQuiet_nil ?_
  clear HQ
  refine lexR_call rfl (fun K hK => ?_)
  go_simp
  refine (emay_any (fun b => b < g) e0L _ u1 T.out.sub T.out.e (smL _ rfl rfl rfl)).mono ?_
  rintro q u2 ⟨rfl, hb⟩
  refine hK _ _ (KeepG.of hb) ?_
  clear hK K
  try simp only [Act.put]
  rw [e0_may]
  have T := hid (T.out.call hb)
  clear hb
  have HQ := hid T.out.box
  refine lexR_pure ?_
  simp only [List.takeWhile, List.dropWhile, isPure, Nat.reduceBNe]
  repeat (first | (refine wpQuiet_load_ent rfl (by rfl) _ rfl z rfl _ HQ.out rfl ?_; simp only [Act.put, List.setIfInBounds_toArray, List.set_cons_succ, List.set_cons_zero]) | go_big_quiet_step (fail))
  refine wpQuiet_nil ?_
  clear HQ
  refine lexR_call rfl (fun K hK => ?_)
  go_simp
  refine (eclone_any (fun b => b < g) e0L _ u2 T.out.sub T.out.e (by decide)).mono ?_
  rintro q u3 ⟨ds, rfl, hd, hb⟩
  refine hK _ _ (KeepG.of hb) ?_
  clear hK K
  try simp only [Act.put]
  have T := hid (T.out.call hb)
  have HD := hid hd
  clear hb hd
  refine lexR_call rfl (fun K hK => ?_)
  go_simp
  refine (esame_any (fun b => b < g) (fun b => b < u3.heap.size) e0L e0L _ ds u3 T.out.sub (fun b hb => hb) T.out.e HD.out (smL _ rfl rfl rfl) (smL _ rfl rfl rfl)).mono ?_
  rintro q u4 ⟨rfl, hb⟩
  refine hK _ _ (KeepG.of hb) ?_
  clear hK K
  try simp only [Act.put]
  rw [e0_same]
  have T := hid (T.out.call hb)
  clear hb HD
  refine lexR_pure ?_
  simp only [List.takeWhile, List.dropWhile, isPure, Nat.reduceBNe]
  repeat (go_big_quiet_step (fail))
  refine wpQuiet_nil ?_
  refine lexR_call rfl (fun K hK => ?_)
  go_simp
  refine (ename_any ⟨#[99]⟩ u4).mono ?_
  rintro q u5 ⟨rfl, hb⟩
  refine hK _ _ (KeepG.of hb) ?_
  clear hK K
  try simp only [Act.put]
  rw [n_cL]
  have T := hid (T.out.call hb)
  clear hb
  refine lexR_pure ?_
  simp only [List.takeWhile, List.dropWhile, isPure, Nat.reduceBNe]
  repeat (go_big_quiet_step (fail))
  refine wpQuiet_nil ?_
  refine lexR_call rfl (fun K hK => ?_)
  go_simp
  refine (ename_any ⟨#[36]⟩ u5).mono ?_
  rintro q u6 ⟨rfl, hb⟩
  refine hK _ _ (KeepG.of hb) ?_
  clear hK K
  try simp only [Act.put]
  rw [n_dL]
  have T := hid (T.out.call hb)
  clear hb
  refine lexR_pure ?_
  simp only [List.takeWhile, List.dropWhile, isPure, Nat.reduceBNe]
  repeat (go_big_quiet_step (fail))
  refine wpQuiet_nil ?_
  unfold wpLexR
  have HF := hid T.out.b
  clear T
  go_wp2_with fail
  go_ret
  exact ⟨rfl, HF.out⟩
theorem fine_ent {w : World} {S : Nat → Prop} {e : EntT} {cs : Array Value} (h : EntL w S e cs) (hd : SmE e) (hm : mayE e = true) : FineE e := by
  obtain ⟨IA, ic, IA', ic', DA, dc, DA', dc', LA, lc, -, hat⟩ := h.at
  refine ⟨⟨hd.idz, rng_lv _ _ _ (Nat.le_refl _) hat.id⟩, ⟨hd.docz, rng_lv _ _ _ (Nat.le_refl _) hat.doc⟩, ?_, hat.dels.rng⟩
  have hdm := ((mayE_iff e).1 hm).dels
  split at hdm
  · unfold mayDo at hdm
    simp only [Bool.and_eq_true, decide_eq_true_eq] at hdm
    exact (hd.dels (checkD_zero hdm.1.1).1).2
  · exact (hd.dels (by omega)).2
theorem encE_may {e : EntT} (hm : mayE e = true) : encE e = codeE e ∧ errE e = 0 := ⟨by unfold encE; rw [if_pos hm], by unfold errE; rw [if_pos hm]⟩
theorem sameC_iff {a b : EntT} (ha : mayE a = true) (hb : mayE b = true) (fa : FineE a) (fb : FineE b) : sameC a b = true ↔ a = b := by
  unfold sameC
  rw [(encE_may ha).1, (encE_may ha).2, (encE_may hb).1]
  simp only [Bool.and_eq_true, decide_eq_true_eq]
  exact ⟨fun h => codeE_inj ha hb fa fb h.2, fun h => ⟨trivial, by rw [h]⟩⟩
theorem EBox.later {w : World} {g : Nat} {e : EntT} {IA : Option Addr} {ic : Nat} {IA' : Option Addr} {ic' : Nat} {DA : Option Addr} {dc : Nat} {DA' : Option Addr} {dc' : Nat} {LA : Option Addr} {lc : Nat} (h : EBox w g e IA ic IA' ic' DA dc DA' dc' LA lc) : ∀ u, CR w.heap.size w u → u.heap[g]? = some (.cells #[.int .i64 e.term, .int .i64 e.kind, .string e.coll, .string e.to, .int .i64 e.id.kind, .int .i64 e.id.num, .string e.id.text, .slice IA e.id.items.length ic, .slice IA' e.id.names.length ic', .int .i64 e.doc.kind, .int .i64 e.doc.num, .string e.doc.text, .slice DA e.doc.items.length dc, .slice DA' e.doc.names.length dc', .slice LA e.dels.length lc, .int .i64 e.session, .int .i64 e.number] 28 (0, 0)) := fun u ⟨p, hp⟩ => by
  rw [hp]
  exact (p.h.block g h.lt).trans h
theorem EntAt.up {w w' : World} {e : EntT} {IA : Option Addr} {ic : Nat} {IA' : Option Addr} {ic' : Nat} {DA : Option Addr} {dc : Nat} {DA' : Option Addr} {dc' : Nat} {LA : Option Addr} {lc : Nat} (h : EntAt w (fun b => b < w.heap.size) e IA ic IA' ic' DA dc DA' dc' LA lc) (hb : Below w.heap.size w w') : EntAt w' (fun b => b < w'.heap.size) e IA ic IA' ic' DA dc DA' dc' LA lc :=
  (h.below (fun _ h => h) hb).imp fun _ h => Nat.lt_of_lt_of_le h hb.size
end Go.Proofs.YtpcdngpppjdgcaaGreat

/- Entries that came in. -/
namespace Go.Proofs.YtpcdngpppjdgcaaGreat
set_option linter.unusedVariables false
set_option linter.unusedSimpArgs false
open Go.ChangeShapes Go.WideShapes Go.RowKit Go.Joins Go.Deep
set_option linter.unusedVariables false
set_option maxRecDepth 100000
theorem cellsEnt : Tryz.prog.cellsOf 28 = 17 := by kernel_rfl
theorem fieldsEnt : ∃ f0 f1 f2 f3 f4 f5 f6 f7 f8 : Field, Tryz.prog.underlying 28 = some (.struct #[f0, f1, f2, f3, f4, f5, f6, f7, f8]) ∧ (f0.type = 3 ∧ f1.type = 3 ∧ f2.type = 9 ∧ f3.type = 9 ∧ f4.type = 25 ∧ f5.type = 25 ∧ f6.type = 26 ∧ f7.type = 3 ∧ f8.type = 3) ∧ (f0.offset = 0 ∧ f1.offset = 1 ∧ f2.offset = 2 ∧ f3.offset = 3 ∧ f4.offset = 4 ∧ f5.offset = 9 ∧ f6.offset = 14 ∧ f7.offset = 15 ∧ f8.offset = 16) :=
  ⟨_, _, _, _, _, _, _, _, _, Tryz.underlying28, ⟨rfl, rfl, rfl, rfl, rfl, rfl, rfl, rfl, rfl⟩, ⟨rfl, rfl, rfl, rfl, rfl, rfl, rfl, rfl, rfl⟩⟩
section
variable {H : Type} {enc : TypeId × Value → H} {W : World} {sp : Nat → Bool}
theorem open_ent {fuel : Nat} {cs : List Value} {x : DataW H × List MemPlace} (h : DataW.trod enc Tryz.prog W 0 sp true fuel 28 cs = some x) (hw : ∀ n ∈ x.1.weights Tryz.prog 28, n ≤ reachBytes) :
    ∃ e : EntT, EntL W (fun b => b < W.heap.size) e cs.toArray := by
  obtain ⟨f0, f1, f2, f3, f4, f5, f6, f7, f8, hu, ⟨t0, t1, t2, t3, t4, t5, t6, t7, t8⟩, ⟨o0, o1, o2, o3, o4, o5, o6, o7, o8⟩⟩ := fieldsEnt
  obtain ⟨xs, n, hfu, hx, hlen, hxl, hg⟩ := DataW.trod_struct hu h
  rw [cellsEnt] at hlen
  match cs, hlen with
  | [c0, c1, c2, c3, c4, c5, c6, c7, c8, c9, c10, c11, c12, c13, c14, c15, c16], _ =>
    match xs, hxl with
    | [y0, y1, y2, y3, y4, y5, y6, y7, y8], _ =>
      have g0 := hg 0 f0 rfl
      have g1 := hg 1 f1 rfl
      have g2 := hg 2 f2 rfl
      have g3 := hg 3 f3 rfl
      have g4 := hg 4 f4 rfl
      have g5 := hg 5 f5 rfl
      have g6 := hg 6 f6 rfl
      have g7 := hg 7 f7 rfl
      have g8 := hg 8 f8 rfl
      rw [t0, o0, cellsI] at g0
      rw [t1, o1, cellsI] at g1
      rw [t2, o2, cellsStr] at g2
      rw [t3, o3, cellsStr] at g3
      rw [t4, o4, cellsVal] at g4
      rw [t5, o5, cellsVal] at g5
      rw [t6, o6, cellsDeltas] at g6
      rw [t7, o7, cellsI] at g7
      rw [t8, o8, cellsI] at g8
      have hws := hw
      rw [hx] at hws
      simp only [DataW.weights, hu, List.map_cons, List.map_nil, t0, t1, t2, t3, t4, t5, t6, t7, t8] at hws
      simp only [DataW.weightsEach, List.mem_append] at hws
      obtain ⟨a0, e0, -, w0⟩ := DataW.trod_int Tryz.underlying3 g0
      obtain ⟨a1, e1, -, w1⟩ := DataW.trod_int Tryz.underlying3 g1
      obtain ⟨a2, e2, x2, w2⟩ := DataW.trod_string Tryz.underlying9 g2
      obtain ⟨a3, e3, x3, w3⟩ := DataW.trod_string Tryz.underlying9 g3
      obtain ⟨a7, e7, -, w7⟩ := DataW.trod_int Tryz.underlying3 g7
      obtain ⟨a8, e8, -, w8⟩ := DataW.trod_int Tryz.underlying3 g8
      simp at e0 e1 e2 e3 e7 e8
      subst e0 e1 e2 e3 e7 e8
      have hs2 : a2.size ≤ 140737488351232 := by
        have := hws a2.data.toList.length (.inr (.inr (.inl (by rw [x2]; simp [DataW.weights]))))
        simpa [reachBytes] using this
      have hs3 : a3.size ≤ 140737488351232 := by
        have := hws a3.data.toList.length (.inr (.inr (.inr (.inl (by rw [x3]; simp [DataW.weights])))))
        simpa [reachBytes] using this
      obtain ⟨ti, hti⟩ := open_val _ _ _ g4 (fun n hn => hws n (.inr (.inr (.inr (.inr (.inl hn))))))
      obtain ⟨td, htd⟩ := open_val _ _ _ g5 (fun n hn => hws n (.inr (.inr (.inr (.inr (.inr (.inl hn)))))))
      obtain ⟨LA, lc, ds, e6, q1, q2, q3, q4, -⟩ := open_dels g6 (fun n hn => hws n (.inr (.inr (.inr (.inr (.inr (.inr (.inl hn))))))))
      simp at e6
      subst e6
      obtain ⟨IA, ic, IA', ic', hvi, -⟩ := hti.shape
      obtain ⟨DA, dc, DA', dc', hvd, -⟩ := htd.shape
      simp at hvi hvd
      obtain ⟨rfl, rfl, rfl, rfl, rfl⟩ := hvi
      obtain ⟨rfl, rfl, rfl, rfl, rfl⟩ := hvd
      exact ⟨⟨a0, a1, a2, a3, ti, td, ds, a7, a8⟩, IA, ic, IA', ic', DA, dc, DA', dc', LA, lc, rfl, hti, htd, q4, q2, fun h => (q1 h).1, q3, in64_of_wf w0, in64_of_wf w1, in64_of_wf w7, in64_of_wf w8, hs2, hs3⟩
end
end Go.Proofs.YtpcdngpppjdgcaaGreat

/- Bytes that came in. -/
namespace Go.Proofs.YtpcdngpppjdgcaaGreat.OpenB
set_option linter.unusedVariables false
set_option linter.unusedSimpArgs false
open Go.ChangeShapes Go.WideShapes Go.ChangeAt Go.RowKit Go.Joins Go.Deep
set_option linter.unusedVariables false
section
variable {H : Type} {enc : TypeId × Value → H} {W : World} {sp : Nat → Bool}
theorem add_at (b off i : Nat) : ((⟨b, off, none⟩ : Addr).add i) = ⟨b, off + i, none⟩ := by
  unfold Addr.add
  split
  · next h => simp [h]
  · rfl

end
end Go.Proofs.YtpcdngpppjdgcaaGreat.OpenB
