/- The lives of layer 13. -/
import Derived.Test.YtpcdngpppjdgcaaGreatKEnV
import Derived.Test.YtpcdngpppjdgcaaGreatKDlL
import Derived.Test.YtpcdngpppjdgcaaGreatKDlS
import Derived.Test.YtpcdngpppjdgcaaGreatKCodA
namespace Go.Proofs.YtpcdngpppjdgcaaGreat
open Lib (hid)
set_option linter.unusedVariables false
set_option linter.unusedSimpArgs false
open Go.RowKit
set_option maxRecDepth 100000
def e0L : EntT := ⟨3, 1, ⟨#[]⟩, ⟨#[]⟩, noneV, noneV, [], 0, 0⟩
def e1L : EntT := ⟨1, 5, ⟨#[99]⟩, ⟨#[]⟩, noneV, noneV, [], 2, 5⟩
def b0L : List UInt8 := [3, 1, 0, 0]
def b1L : List UInt8 := [1, 5, 2, 5, 1, 99]
theorem e0_enc : encE e0L = b0L := by decide +kernel
theorem e0_err : errE e0L = 0 := by decide +kernel
theorem e1_enc : encE e1L = b1L := by decide +kernel
theorem e1_err : errE e1L = 0 := by decide +kernel
theorem ez_err : errE emptyE = 1 := by decide +kernel
theorem e0_may : mayE e0L = true := by decide +kernel
theorem e0_same : sameC e0L e0L = true := by decide +kernel
theorem b0_dec : decEE b0L = e0L := by kernel_rfl
theorem b0_err : decEC b0L = 0 := by kernel_rfl
theorem b1_read : rdE (some b1L) = (e1L, some []) := by kernel_rfl
theorem n_cL : nameC ⟨#[99]⟩ = true := by decide +kernel
theorem n_dL : nameC ⟨#[36]⟩ = false := by decide +kernel
theorem smL (e : EntT) (h1 : e.id = noneV) (h2 : e.doc = noneV) (h3 : e.dels = []) : SmE e := by
  refine ⟨?_, ?_, ?_, ?_, fun _ => ?_⟩
  · rw [h1]; exact Nat.le_trans (show depthT noneV ≤ 8 by decide) (by omega)
  · rw [h2]; exact Nat.le_trans (show depthT noneV ≤ 8 by decide) (by omega)
  · rw [h1]; exact Nat.le_trans (show sizeT noneV ≤ 8 by decide) (by omega)
  · rw [h2]; exact Nat.le_trans (show sizeT noneV ≤ 8 by decide) (by omega)
  · rw [h3]; exact ⟨fun d hd => absurd hd List.not_mem_nil, fun d hd => absurd hd List.not_mem_nil⟩
theorem e0_at (w : World) (S : Nat → Prop) : EntL w S e0L #[.int .i64 3, .int .i64 1, .string ⟨#[]⟩, .string ⟨#[]⟩, .int .i64 0, .int .i64 0, .string ⟨#[]⟩, .slice none 0 0, .slice none 0 0, .int .i64 0, .int .i64 0, .string ⟨#[]⟩, .slice none 0 0, .slice none 0 0, .slice none 0 0, .int .i64 0, .int .i64 0] :=
  ⟨none, 0, none, 0, none, 0, none, 0, none, 0, rfl, leaf_lv _ _ _ _ _ (by unfold Rng; omega) (by unfold Rng; omega) (by decide), leaf_lv _ _ _ _ _ (by unfold Rng; omega) (by unfold Rng; omega) (by decide), nil_dels _ _, by show 0 ≤ 0; omega, fun _ => rfl, by show 0 ≤ _; omega, by unfold Rng e0L; simp only; omega, by unfold Rng e0L; simp only; omega, by unfold Rng e0L; simp only; omega, by unfold Rng e0L; simp only; omega, by show (⟨#[]⟩ : ByteArray).size ≤ _; decide, by show (⟨#[]⟩ : ByteArray).size ≤ _; decide⟩
theorem e1_at (w : World) (S : Nat → Prop) : EntL w S e1L #[.int .i64 1, .int .i64 5, .string ⟨#[99]⟩, .string ⟨#[]⟩, .int .i64 0, .int .i64 0, .string ⟨#[]⟩, .slice none 0 0, .slice none 0 0, .int .i64 0, .int .i64 0, .string ⟨#[]⟩, .slice none 0 0, .slice none 0 0, .slice none 0 0, .int .i64 2, .int .i64 5] :=
  ⟨none, 0, none, 0, none, 0, none, 0, none, 0, rfl, leaf_lv _ _ _ _ _ (by unfold Rng; omega) (by unfold Rng; omega) (by decide), leaf_lv _ _ _ _ _ (by unfold Rng; omega) (by unfold Rng; omega) (by decide), nil_dels _ _, by show 0 ≤ 0; omega, fun _ => rfl, by show 0 ≤ _; omega, by unfold Rng e1L; simp only; omega, by unfold Rng e1L; simp only; omega, by unfold Rng e1L; simp only; omega, by unfold Rng e1L; simp only; omega, by show (⟨#[99]⟩ : ByteArray).size ≤ _; decide, by show (⟨#[]⟩ : ByteArray).size ≤ _; decide⟩
theorem wpQuiet_load_ent {P : Program} {ops : Array Oper} {C : World → Prop} {Q : Act → Prop} {rest : List Oper} {o : Oper} {a : Act} (hP : P = Tryz.prog) (hw : Region.wanted o (yielded ops a.tmps) = true) (x : Operand) (ho : o.op = .load 28 x)
    (g : Nat) (hx : a.eval x = .pointer (some ⟨g, 0, none⟩)) (cs : Array Value) (hg : ∀ u, C u → u.heap[g]? = some (.cells cs 28 (0, 0))) (hn : cs.size = 17)
    (h : wpQuiet P ops C Q rest (a.put o.dst (.agg cs))) : wpQuiet P ops C Q (o :: rest) a := by
  subst hP
  unfold wpQuiet
  rw [if_pos hw]
  refine ⟨.agg cs, fun u hu => ?_, h⟩
  have e := run_loadVar_row (P := Tryz.prog) u g 28 28 cs (0, 0) _ (hg u hu) Tryz.underlying28 rfl (by rw [hn]; kernel_rfl)
  unfold Oper.quietAt execOp
  simp only [ho, hx, Instr.loadAt, Instr.sureAddr, Sem.run_bind, Sem.run_pure, Result.andThen_ok, e]
  exact ⟨rfl, rfl⟩
theorem KeepG.only {g : Nat} {w w' : World} (h : Only w w' g) : KeepG g w w' := ⟨h.size, fun b hb hg => h.block b hb (fun e => hg (by cases e; rfl))⟩
theorem OwnB.convG {w : World} {B g : Nat} {v : Value} {l : List UInt8} (h : Rd w B v l) (hB : B ≤ w.heap.size) (hg : B ≤ g) : ∀ p : LaterR (KeepG g) w, (convert 35 9 v).run Tryz.prog p.u = .ok (.string ⟨l.toArray⟩) p.u := fun p => by
  obtain ⟨A, cap, h1, h2, h3, h4⟩ := h
  refine Rd.strY (B := B) ⟨A, cap, h1, h2, h3, fun hl => ?_⟩
  obtain ⟨b, off, e, hb, hc⟩ := h4 hl
  exact ⟨b, off, e, hb, fun i hi => (World.cell?_of_block (p.h.2 b (by omega) (by omega))).trans (hc i hi)⟩
theorem fieldE2 (a0 a1 a2 a3 a4 a5 a6 a7 a8 a9 a10 a11 a12 a13 a14 a15 a16 : Value) (w : World) : (Instr.field 28 (.agg #[a0, a1, a2, a3, a4, a5, a6, a7, a8, a9, a10, a11, a12, a13, a14, a15, a16]) 2).run Tryz.prog w = .ok a2 w := by kernel_rfl
structure T13 (w u : World) (z g : Nat) (st : Option (List UInt8)) (cs : Array Value) : Prop where
  b : Below w.heap.size w u
  x : u.heap[z]? = some (.cells cs 28 (0, 0))
  e : EntL u (fun b => b < g) e0L cs
  s : SrcL u g st
  zg : z < g
  wg : w.heap.size ≤ g
theorem T13.call {w u u' : World} {z g : Nat} {st : Option (List UInt8)} {cs : Array Value} (h : T13 w u z g st cs) (hb : Below u.heap.size u u') : T13 w u' z g st cs :=
  have hg := h.s.lt
  ⟨h.b.trans (hb.mono h.b.size), (hb.block z (Nat.lt_trans h.zg hg)).trans h.x, h.e.keep fun b hb' => hb.block b (Nat.lt_trans hb' hg), h.s.of (hb.block g hg), h.zg, h.wg⟩
theorem T13.only {w u u' : World} {z g : Nat} {st st' : Option (List UInt8)} {cs : Array Value} (h : T13 w u z g st cs) (ho : Only u u' g) (hs : SrcL u' g st') : T13 w u' z g st' cs :=
  have hg := h.s.lt
  have hw := h.wg
  ⟨⟨ho.os.trans h.b.os, ho.tape.trans h.b.tape, ho.output.trans h.b.output, Nat.le_trans h.b.size ho.size, fun k hk => (ho.block k (by omega) (by intro e; injection e; omega)).trans (h.b.block k hk)⟩, (ho.block z (Nat.lt_trans h.zg hg) (by intro e; have := h.zg; injection e; omega)).trans h.x, h.e.keep fun b hb' => ho.block b (Nat.lt_trans hb' hg) (by intro e; injection e; omega), hs, h.zg, h.wg⟩
theorem T13.box {w u : World} {z g : Nat} {st : Option (List UInt8)} {cs : Array Value} (h : T13 w u z g st cs) : ∀ v, CRR (KeepG g) u v → v.heap[z]? = some (.cells cs 28 (0, 0)) := fun v ⟨p, hp⟩ => by
  rw [hp]
  exact (p.h.2 z (Nat.lt_trans h.zg h.s.lt) (Nat.ne_of_lt h.zg)).trans h.x
theorem T13.sub {w u : World} {z g : Nat} {st : Option (List UInt8)} {cs : Array Value} (h : T13 w u z g st cs) : ∀ b, b < g → b < u.heap.size := fun b hb => Nat.lt_trans hb h.s.lt
set_option maxHeartbeats 32000000 in
theorem lives13_any (w : World) : Calls Tryz.prog 13 #[] w fun e w' => e = .returned (.bool true) ∧ Below w.heap.size w w' := by
  have HE0 := hid (eencode_any (fun _ => False) e0L _ w (fun b hb => hb.elim) (e0_at _ _) (smL _ rfl rfl rfl))
  go_enter Tryz.func13, Tryz.ntmps13
  go_wp2_with fail
  refine HE0.out.mono ?_
  rintro q w1 ⟨v1, rfl, ho1, hb1⟩
  rw [e0_err]
  rw [e0_enc] at ho1
  have HX1 : Hid (Below w.heap.size w w1 ∧ Rd w1 w1.heap.size v1 b0L) := hid ⟨hb1, ho1.rdY⟩
  have HD := hid (edecode_any v1 b0L w1 ho1.rdY (by decide))
  clear ho1 hb1 HE0
  go_wp2_with fail
  refine HD.out.mono ?_
  rintro q w2 ⟨cs, rfl, he, hb⟩
  rw [b0_err]
  rw [b0_dec] at he
  obtain ⟨IA, ic, IA', ic', DA, dc, DA', dc', LA, lc, rfl, hat⟩ := he.at
  obtain ⟨z, hz⟩ : ∃ z, z = w2.heap.size := ⟨_, rfl⟩
  obtain ⟨w3, hw3⟩ : ∃ W, W = w2.alloc (.cells #[.int .i64 e0L.term, .int .i64 e0L.kind, .string e0L.coll, .string e0L.to, .int .i64 e0L.id.kind, .int .i64 e0L.id.num, .string e0L.id.text, .slice IA e0L.id.items.length ic, .slice IA' e0L.id.names.length ic', .int .i64 e0L.doc.kind, .int .i64 e0L.doc.num, .string e0L.doc.text, .slice DA e0L.doc.items.length dc, .slice DA' e0L.doc.names.length dc', .slice LA e0L.dels.length lc, .int .i64 e0L.session, .int .i64 e0L.number] 28) := ⟨_, rfl⟩
  have hb3 : Below w2.heap.size w2 w3 := by rw [hw3]; exact below_box _
  have HX3 : Hid (Below w.heap.size w w3 ∧ Rd w3 w3.heap.size v1 b0L ∧ EBox w3 z e0L IA ic IA' ic' DA dc DA' dc' LA lc ∧ EntAt w3 (fun b => b < w3.heap.size) e0L IA ic IA' ic' DA dc DA' dc' LA lc) := hid
    ⟨(HX1.out.1.trans (hb.mono HX1.out.1.size)).trans (hb3.mono (by have := HX1.out.1.size; have := hb.size; omega)), ((HX1.out.2.keep hb).keep (hb3.mono hb.size)).upE (by have := hb.size; have := hb3.size; omega), by rw [hw3, hz]; exact heap_alloc_new w2 _, (hat.imp (fun b hb' => hb'.2)).below (fun b hb' => hb') hb3 |>.imp fun b hb' => Nat.lt_of_lt_of_le hb' hb3.size⟩
  have HE1 := hid (eencode_any (fun _ => False) e1L _ w3 (fun b hb => hb.elim) (e1_at _ _) (smL _ rfl rfl rfl))
  clear hb3 he hat hb HX1 HD
  go_wp2_with fail
  rw [← hw3]
  try rw [← hz]
  clear hw3 hz
  refine HE1.out.mono ?_
  rintro q w4 ⟨v2, rfl, ho4, hb4⟩
  rw [e1_err]
  rw [e1_enc] at ho4
  have HX4 : Hid (Below w.heap.size w w4 ∧ Rd w4 w4.heap.size v1 b0L ∧ EBox w4 z e0L IA ic IA' ic' DA dc DA' dc' LA lc ∧ EntAt w4 (fun b => b < w4.heap.size) e0L IA ic IA' ic' DA dc DA' dc' LA lc ∧ Rd w4 w4.heap.size v2 b1L) := hid
    ⟨HX3.out.1.trans (hb4.mono HX3.out.1.size), (HX3.out.2.1.keep hb4).upE hb4.size, HX3.out.2.2.1.below hb4, (HX3.out.2.2.2.below (fun b hb' => hb') hb4).imp fun b hb' => Nat.lt_of_lt_of_le hb' hb4.size, ho4.rdY⟩
  have HE2 := hid (eencode_any (fun _ => False) emptyE _ w4 (fun b hb => hb.elim) (emptyE_at _ _) (smL _ rfl rfl rfl))
  clear ho4 hb4 HX3 HE1
  go_wp2_with fail
  refine HE2.out.mono ?_
  rintro q w5 ⟨v3, rfl, -, hb5⟩
  rw [ez_err]
  have HX5 : Hid (Below w.heap.size w w5 ∧ Rd w5 w5.heap.size v1 b0L ∧ EBox w5 z e0L IA ic IA' ic' DA dc DA' dc' LA lc ∧ EntAt w5 (fun b => b < w5.heap.size) e0L IA ic IA' ic' DA dc DA' dc' LA lc ∧ Rd w5 w5.heap.size v2 b1L) := hid
    ⟨HX4.out.1.trans (hb5.mono HX4.out.1.size), (HX4.out.2.1.keep hb5).upE hb5.size, HX4.out.2.2.1.below hb5, (HX4.out.2.2.2.1.below (fun b hb' => hb') hb5).imp fun b hb' => Nat.lt_of_lt_of_le hb' hb5.size, (HX4.out.2.2.2.2.keep hb5).upE hb5.size⟩
  have HF := hid (from_any v2 ⟨b1L.toArray⟩ w5 HX5.out.2.2.2.2.strY)
  clear hb5 HX4 HE2
  go_wp2_with fail
  refine HF.out.mono ?_
  rintro q w6 ⟨rfl, hs6, hb6⟩
  obtain ⟨g, hg⟩ : ∃ g, g = w5.heap.size := ⟨_, rfl⟩
  have hsl : SrcL w6 w5.heap.size (some b1L) := ⟨hs6, by decide⟩
  rw [← hg] at hsl hb6 ⊢
  have HX6 : Hid (Below w.heap.size w w6 ∧ Rd w6 g v1 b0L ∧ EBox w6 z e0L IA ic IA' ic' DA dc DA' dc' LA lc ∧ EntAt w6 (fun b => b < g) e0L IA ic IA' ic' DA dc DA' dc' LA lc ∧ Rd w6 g v2 b1L ∧ SrcL w6 g (some b1L) ∧ z < g ∧ g < w6.heap.size ∧ w.heap.size ≤ g) := hid (by
    have h := HX5.out
    have hzl := h.2.2.1.lt
    rw [← hg] at h hzl
    have hw := h.1.size
    rw [← hg] at hw
    exact ⟨h.1.trans (hb6.mono hw), h.2.1.keep hb6, (hb6.block _ hzl).trans h.2.2.1, h.2.2.2.1.below (fun b hb' => hb') hb6, h.2.2.2.2.keep hb6, hsl, hzl, hsl.lt, hw⟩)
  clear hs6 hb6 hsl hg HX5 HF
  go_wp2_with fail
  try simp only [List.append_eq, List.cons_append, List.nil_append]
  refine wp_region_lexR (KeepG g) (KeepG.refl g) (KeepG.trans g) (by kernel_rfl) (by kernel_rfl) (fun _ d _ _ _ h => by cases d <;> exact h) ?_
  have T : Hid (Below w.heap.size w w6.drew ∧ EBox w6.drew z e0L IA ic IA' ic' DA dc DA' dc' LA lc ∧ EntAt w6.drew (fun b => b < g) e0L IA ic IA' ic' DA dc DA' dc' LA lc ∧ SrcL w6.drew g (some b1L) ∧ z < g ∧ g < w6.drew.heap.size ∧ w.heap.size ≤ g) := hid (by
    have h := HX6.out
    exact ⟨h.1.drew, h.2.2.1, h.2.2.2.1.keep fun _ _ => rfl, h.2.2.2.2.2.1.of rfl, h.2.2.2.2.2.2.1, h.2.2.2.2.2.2.2.1, h.2.2.2.2.2.2.2.2⟩)
  have HR : Hid (Rd w6.drew g v1 b0L ∧ Rd w6.drew g v2 b1L) := hid ⟨HX6.out.2.1.keep ((Below.refl _ _).drew), HX6.out.2.2.2.2.1.keep ((Below.refl _ _).drew)⟩
  clear HX6
  generalize w6.drew = u0 at *
  have q0 : ∀ p : LaterR (KeepG g) u0, p.u.cell? ⟨z, 0, none⟩ = some (.int .i64 3) := cell_laterG (g := g) (w := u0) T.out.2.1.g0 (Nat.lt_trans T.out.2.2.2.2.1 T.out.2.2.2.2.2.1) (Nat.ne_of_lt T.out.2.2.2.2.1)
  have f1 : ∀ p : LaterR (KeepG g) u0, (convert 35 9 v1).run Tryz.prog p.u = .ok (.string ⟨#[3, 1, 0, 0]⟩) p.u := OwnB.convG (g := g) HR.out.1 (Nat.le_of_lt T.out.2.2.2.2.2.1) (Nat.le_refl g)
  have f2 : ∀ p : LaterR (KeepG g) u0, (convert 35 9 v2).run Tryz.prog p.u = .ok (.string ⟨#[1, 5, 2, 5, 1, 99]⟩) p.u := OwnB.convG (g := g) HR.out.2 (Nat.le_of_lt T.out.2.2.2.2.2.1) (Nat.le_refl g)
  refine lexR_pure ?_
  simp only [List.takeWhile, List.dropWhile, isPure, Nat.reduceBNe]
  repeat (go_big_quiet_step (fail))
  refine wpQuiet_nil ?_
  clear q0 f1 f2 HR
  refine lexR_call rfl (fun K hK => ?_)
  go_simp
  refine (eread_any g (some b1L) u0 T.out.2.2.2.1).mono ?_
  rintro q u1 ⟨cs, rfl, he, hs, ho⟩
  refine hK _ _ (KeepG.only ho) ?_
  clear hK K
  try simp only [Act.put]
  rw [b1_read] at he hs
  have T : Hid (T13 w u1 z g (some []) #[.int .i64 e0L.term, .int .i64 e0L.kind, .string e0L.coll, .string e0L.to, .int .i64 e0L.id.kind, .int .i64 e0L.id.num, .string e0L.id.text, .slice IA e0L.id.items.length ic, .slice IA' e0L.id.names.length ic', .int .i64 e0L.doc.kind, .int .i64 e0L.doc.num, .string e0L.doc.text, .slice DA e0L.doc.items.length dc, .slice DA' e0L.doc.names.length dc', .slice LA e0L.dels.length lc, .int .i64 e0L.session, .int .i64 e0L.number]) := hid (T13.only (st := some b1L) ⟨T.out.1, T.out.2.1, T.out.2.2.1.l, T.out.2.2.2.1, T.out.2.2.2.2.1, T.out.2.2.2.2.2.2⟩ ho hs)
  obtain ⟨JA, jc, JA', jc', FA, fc, FA', fc', MA, mc, rfl, -⟩ := he.at
  have fd : ∀ p : LaterR (KeepG g) u1, (Instr.field 28 (.agg #[.int .i64 e1L.term, .int .i64 e1L.kind, .string e1L.coll, .string e1L.to, .int .i64 e1L.id.kind, .int .i64 e1L.id.num, .string e1L.id.text, .slice JA e1L.id.items.length jc, .slice JA' e1L.id.names.length jc', .int .i64 e1L.doc.kind, .int .i64 e1L.doc.num, .string e1L.doc.text, .slice FA e1L.doc.items.length fc, .slice FA' e1L.doc.names.length fc', .slice MA e1L.dels.length mc, .int .i64 e1L.session, .int .i64 e1L.number]) 2).run Tryz.prog p.u = .ok (.string ⟨#[99]⟩) p.u := fun p => fieldE2 _ _ _ _ _ _ _ _ _ _ _ _ _ _ _ _ _ p.u
  clear he hs ho
  refine lexR_pure ?_
  simp only [List.takeWhile, List.dropWhile, isPure, Nat.reduceBNe]
  repeat (go_big_quiet_step (fail))
  refine wpQuiet_nil ?_
  clear fd
  refine lexR_call rfl (fun K hK => ?_)
  go_simp
  refine (sdone_st g (some []) u1 T.out.s).mono ?_
  rintro q _ ⟨rfl, rfl⟩
  refine hK _ _ (KeepG.refl g _) ?_
  clear hK K
  try simp only [Act.put]
  rw [show doneOf (some ([] : List UInt8)) = 0 from rfl]
  have HQ := hid T.out.box
  refine lexR_pure ?_
  simp only [List.takeWhile, List.dropWhile, isPure, Nat.reduceBNe]
  repeat (first | (refine wpQuiet_load_ent rfl (by rfl) _ rfl z rfl _ HQ.out rfl ?_; simp only [Act.put, List.setIfInBounds_toArray, List.set_cons_succ, List.set_cons_zero]) | go_big_quiet_step (fail))
  refine wpQuiet_nil ?_
  clear HQ
  refine lexR_call rfl (fun K hK => ?_)
  go_simp
  refine (emay_any (fun b => b < g) e0L _ u1 T.out.sub T.out.e (smL _ rfl rfl rfl)).mono ?_
  rintro q u2 ⟨rfl, hb⟩
  refine hK _ _ (KeepG.of hb) ?_
  clear hK K
  try simp only [Act.put]
  rw [e0_may]
  have T := hid (T.out.call hb)
  clear hb
  have HQ := hid T.out.box
  refine lexR_pure ?_
  simp only [List.takeWhile, List.dropWhile, isPure, Nat.reduceBNe]
  repeat (first | (refine wpQuiet_load_ent rfl (by rfl) _ rfl z rfl _ HQ.out rfl ?_; simp only [Act.put, List.setIfInBounds_toArray, List.set_cons_succ, List.set_cons_zero]) | go_big_quiet_step (fail))
  refine wpQuiet_nil ?_
  clear HQ
  refine lexR_call rfl (fun K hK => ?_)
  go_simp
  refine (eclone_any (fun b => b < g) e0L _ u2 T.out.sub T.out.e (by decide)).mono ?_
  rintro q u3 ⟨ds, rfl, hd, hb⟩
  refine hK _ _ (KeepG.of hb) ?_
  clear hK K
  try simp only [Act.put]
  have T := hid (T.out.call hb)
  have HD := hid hd
  clear hb hd
  refine lexR_call rfl (fun K hK => ?_)
  go_simp
  refine (esame_any (fun b => b < g) (fun b => b < u3.heap.size) e0L e0L _ ds u3 T.out.sub (fun b hb => hb) T.out.e HD.out (smL _ rfl rfl rfl) (smL _ rfl rfl rfl)).mono ?_
  rintro q u4 ⟨rfl, hb⟩
  refine hK _ _ (KeepG.of hb) ?_
  clear hK K
  try simp only [Act.put]
  rw [e0_same]
  have T := hid (T.out.call hb)
  clear hb HD
  refine lexR_pure ?_
  simp only [List.takeWhile, List.dropWhile, isPure, Nat.reduceBNe]
  repeat (go_big_quiet_step (fail))
  refine wpQuiet_nil ?_
  refine lexR_call rfl (fun K hK => ?_)
  go_simp
  refine (ename_any ⟨#[99]⟩ u4).mono ?_
  rintro q u5 ⟨rfl, hb⟩
  refine hK _ _ (KeepG.of hb) ?_
  clear hK K
  try simp only [Act.put]
  rw [n_cL]
  have T := hid (T.out.call hb)
  clear hb
  refine lexR_pure ?_
  simp only [List.takeWhile, List.dropWhile, isPure, Nat.reduceBNe]
  repeat (go_big_quiet_step (fail))
  refine wpQuiet_nil ?_
  refine lexR_call rfl (fun K hK => ?_)
  go_simp
  refine (ename_any ⟨#[36]⟩ u5).mono ?_
  rintro q u6 ⟨rfl, hb⟩
  refine hK _ _ (KeepG.of hb) ?_
  clear hK K
  try simp only [Act.put]
  rw [n_dL]
  have T := hid (T.out.call hb)
  clear hb
  refine lexR_pure ?_
  simp only [List.takeWhile, List.dropWhile, isPure, Nat.reduceBNe]
  repeat (go_big_quiet_step (fail))
  refine wpQuiet_nil ?_
  unfold wpLexR
  have HF := hid T.out.b
  clear T
  go_wp2_with fail
  go_ret
  exact ⟨rfl, HF.out⟩
theorem dbox_keep {w w' : World} {g : Nat} {ob : Obj} (h : w.heap[g]? = some ob) (hb : Below w.heap.size w w') : w'.heap[g]? = some ob := (hb.block g (Array.getElem?_eq_some_iff.1 h).1).trans h
theorem dbox_k8 {w w' : World} {g : Nat} {cs : Array Value} {fr : Nat × Nat} (h : w.heap[g]? = some (.cells cs 95 fr)) (hk : K8 w w') : w'.heap[g]? = some (.cells cs 95 fr) := hk g _ h (fun h => by cases h) (fun c fz h => by injection h with _ h; exact absurd h (by decide))
theorem mayD_kind3 {d : DelT} (h : mayD d = true) : d.kind = 1 ∨ d.kind = 2 ∨ (d.kind = 3 ∧ 0 ≤ d.num ∧ d.num ≤ 999) := by
  unfold mayD at h
  rw [Bool.and_eq_true] at h
  have h2 := h.2
  split at h2
  · omega
  split at h2
  · omega
  split at h2
  · simp only [Bool.and_eq_true, decide_eq_true_eq] at h2
    exact .inr (.inr ⟨by omega, h2.2.1, h2.2.2⟩)
  · cases h2
theorem mayD_check {d : DelT} (h : mayD d = true) (hk : d.kind = 1) : checkT d.val = 0 := by
  unfold mayD at h
  rw [Bool.and_eq_true, if_pos hk, Bool.and_eq_true, decide_eq_true_eq] at h
  exact h.2.1
theorem mayP_length {p : List ByteArray} (h : mayP p = true) : p.length ≤ 8 := ((mayP_iff p).1 h).2.1
theorem grp_pos (n : Nat) : 0 < (grp n).length := (grp_length n).2
set_option maxHeartbeats 32000000 in
theorem r6code_any (S : Nat → Prop) (A : Option Addr) (c : Nat) (l : List DelT) (w : World) (hS : ∀ b, S b → b < w.heap.size) (h : DelsL w S A l) (hz : SmallZD l) (hc : checkD l = 0) :
    Calls Tryz.prog 62 #[.slice A l.length c] w (Gives (codeDs l) w) := by
  obtain ⟨h64, hm⟩ := checkD_zero hc
  have HL := hid h
  have HS := hid hS
  have HD := hid (And.intro hm hz)
  have HCN := hid (rcount_any l.length w (by omega))
  have HSM : Hid (∀ k, (((l.take k).map codeD1).flatten).length ≤ 134400000) := hid fun k => by
    have h1 := codeDs_small (l := l.take k) fun o ho => ⟨hm o (List.mem_of_mem_take ho), hz o (List.mem_of_mem_take ho)⟩
    rw [List.length_take] at h1
    omega
  have hfin : codeDs l = grp l.length ++ (l.map codeD1).flatten := by unfold codeDs; rw [if_pos hc]
  have HF := hid hfin
  clear h hS hz hc hm hfin
  go_enter Tryz.func62, Tryz.ntmps62
  go_wp2_with fail
  refine HCN.out.mono ?_
  rintro e w1 ⟨v1, rfl, hv1, hb1⟩
  have h0 : Hid (OwnB w1 w.heap.size v1 (grp l.length ++ ((l.take 0).map codeD1).flatten) ∧ Below w.heap.size w w1) := hid ⟨by simpa using hv1, hb1⟩
  clear hv1 hb1 HCN
  go_wp2_with fail
  go_loopw [3, 4] (fun v0 i wr => ∃ k : Nat, i = .int .i64 k ∧ k ≤ l.length ∧ Hid (OwnB wr w.heap.size v0 (grp l.length ++ ((l.take k).map codeD1).flatten) ∧ Below w.heap.size w wr)) (fun _ i _ => l.length - (intOf i).toNat)
  case atStart => exact ⟨0, rfl, by omega, h0⟩
  case round =>
    obtain ⟨k, rfl, hk, HH⟩ := hrel
    by_cases hlt : k < l.length
    · have d1 : decide ((k : Int) < (l.length : Int)) = true := decide_eq_true (by omega)
      obtain ⟨p, off, PA, pc, VA, vc, VA', vc', rfl, hpS, ho, x0, x1, x2, x3, x4, x5, x6, x7⟩ := HL.out.cells k hlt
      have hp := HH.out.2.block p (HS.out p hpS)
      have z0 := (World.cell?_of_block (a := ⟨p, off + k * 8, none⟩) hp).trans x0
      have z1 := (World.cell?_of_block (a := ⟨p, off + k * 8 + 1, none⟩) hp).trans x1
      have z2 := (World.cell?_of_block (a := ⟨p, off + k * 8 + 2, none⟩) hp).trans x2
      have z3 := (World.cell?_of_block (a := ⟨p, off + k * 8 + 3, none⟩) hp).trans x3
      have z4 := (World.cell?_of_block (a := ⟨p, off + k * 8 + 4, none⟩) hp).trans x4
      have z5 := (World.cell?_of_block (a := ⟨p, off + k * 8 + 5, none⟩) hp).trans x5
      have z6 := (World.cell?_of_block (a := ⟨p, off + k * 8 + 6, none⟩) hp).trans x6
      have z7 := (World.cell?_of_block (a := ⟨p, off + k * 8 + 7, none⟩) hp).trans x7
      have HOK := hid ho
      have hmay := HD.out.1 _ (List.getElem_mem hlt)
      have HMAY := hid hmay
      obtain ⟨kd, hkd⟩ : ∃ kd, kd = l[k].kind := ⟨_, rfl⟩
      have hkr : kd = 1 ∨ kd = 2 ∨ (kd = 3 ∧ 0 ≤ l[k].num ∧ l[k].num ≤ 999) := by rw [hkd]; exact mayD_kind3 hmay
      rw [← hkd] at z0
      obtain ⟨acc, hacc⟩ : ∃ acc, acc = grp l.length ++ ((l.take k).map codeD1).flatten := ⟨_, rfl⟩
      rw [← hacc] at HH
      have hal : acc.length ≤ 134500000 := by
        have h1 := HSM.out k
        have h2 := (grp_length l.length).1
        rw [hacc]
        simp only [List.length_append]
        omega
      have HAL := hid hal
      obtain ⟨ob, hob⟩ : ∃ ob : Obj, ob = .cells #[.int .i64 kd, .slice PA l[k].path.length pc, .int .i64 l[k].val.kind, .int .i64 l[k].val.num, .string l[k].val.text, .slice VA l[k].val.items.length vc, .slice VA' l[k].val.names.length vc', .int .i64 l[k].num] 95 := ⟨_, rfl⟩
      have HOB := hid hob
      obtain ⟨w4, hw4⟩ : ∃ W, W = (wr.alloc ob).drew := ⟨_, rfl⟩
      have HW4 := hid hw4
      have HX4 : Hid (OwnB w4 w.heap.size u3 acc ∧ Below w.heap.size w w4 ∧ w4.heap[wr.heap.size]? = some ob) := hid (by
        rw [hw4]
        exact ⟨(show OwnB (wr.alloc ob) _ _ _ from HH.out.1.below ((Below.refl _ _).alloc (Nat.le_refl _) _)), (HH.out.2.alloc HH.out.2.size _).drew, heap_alloc_new wr ob⟩)
      have HOP : Hid (∀ W, Below w.heap.size w W → StrsAt W S PA l[k].path ∧ LV W S l[k].val (.agg #[.int .i64 l[k].val.kind, .int .i64 l[k].val.num, .string l[k].val.text, .slice VA l[k].val.items.length vc, .slice VA' l[k].val.names.length vc'])) := hid fun W hW => by
        obtain ⟨PA1, pc1, VA1, vc1, VA2, vc2, he, hv2, hp2, -⟩ := HOK.out
        simp only [Array.mk.injEq, List.cons.injEq, Value.slice.injEq, true_and, and_true] at he
        obtain ⟨⟨rfl, rfl⟩, ⟨rfl, rfl⟩, ⟨rfl, rfl⟩⟩ := he
        exact ⟨hp2.keep fun b hb => hW.block b (HS.out b hb), hv2.keep fun b hb => hW.block b (HS.out b hb)⟩
      have HKD := hid (And.intro hkd hkr)
      have HACC := hid hacc
      have HNM := hid (mayD_names hmay)
      have hpl8 : l[k].path.length ≤ 8 := mayP_length (mayD_path hmay)
      rw [hob] at HX4
      clear x0 x1 x2 x3 x4 x5 x6 x7 hp hmay hacc hal hkd hkr hob ho
      go_wp2_with fail
      try simp only [← HOB.out]
      have q0 := cell_k8 (w := w4) (i := 0) HX4.out.2.2 (by decide) rfl
      have q1 := cell_k8 (w := w4) (i := 1) HX4.out.2.2 (by decide) rfl
      refine wp_region_OT K8 (fun w => Lib.OthersKept.refl _ _ _) (fun a b c h k => h.trans k) [] (.pure [0, 1, 2, 3, 6, 7, 8] (.step 4 (.step 5 (.step 9 (.step 10 (.free [11] (.tail []))))))) (by kernel_rfl) (by kernel_rfl) (fun _ d _ _ _ h => by cases d <;> exact h) ?_
      rw [← HW4.out]
      clear hw4
      refine ot_pure ?_
      simp only [atR]
      show wpQuiet _ _ _ _ [_, _, _, _, _, _, _] _
      try simp only [acR, Act.put] at *
      repeat (go_big_quiet_step (fail))
      refine wpQuiet_nil ?_
      clear q0 q1
      refine ot_step rfl (fun K hK => ?_)
      go_simp
      refine hK _ _ (.inr ((Lib.OthersKept.refl _ _ _).alloc _)) ?_
      clear hK K
      obtain ⟨kb, hkb⟩ : ∃ kb, kb = UInt8.ofNat kd.toNat := ⟨_, rfl⟩
      have hkx : kd % 256 = (kb.toNat : Int) := by
        have h1 := HKD.out.2
        rw [hkb, ofNat_toNat _ (by omega)]
        omega
      have HKB := hid hkb
      have HKX := hid hkx
      have hB4 : wr.heap.size < w4.heap.size := (Array.getElem?_eq_some_iff.1 HX4.out.2.2).1
      have hoA : OwnB (w4.alloc (.cells #[.int .u8 (kd % 256)] 5)) w.heap.size u3 acc := HX4.out.1.below ((Below.refl _ _).alloc (Nat.le_refl _) _)
      have hbA : Below w.heap.size w (w4.alloc (.cells #[.int .u8 (kd % 256)] 5)) := HX4.out.2.1.alloc HX4.out.2.1.size _
      have hkA : K8 w4 (w4.alloc (.cells #[.int .u8 (kd % 256)] 5)) := (Lib.OthersKept.refl _ _ _).alloc _
      clear hkb hkx hB4
      refine ot_act rfl rfl (fun K hK => ?_)
      refine wp_append_bytesR _ _ rfl w.heap.size u3 acc rfl hoA (w4.heap.size + 1) _ [kb] rfl (Rd.one' rfl kb HKX.out) (by simp) hbA.size (by have := HAL.out; simp; omega) (fun v5 w5 hv5 hg5 => ?_)
      refine hK _ _ (.inr (k8_grown hoA hg5)) ?_
      clear hK K
      have HX5 : Hid (OwnB w5 w.heap.size v5 (acc ++ [kb]) ∧ Below w.heap.size w w5 ∧ K8 w4 w5) := hid ⟨hv5, below_own hbA hoA hbA.size hg5, hkA.trans (k8_grown hoA hg5)⟩
      clear hv5 hg5 hoA hbA hkA
      simp only [acR, Act.put]
      have HC := hid (rcount_any l[k].path.length w5 (by omega))
      refine ot_step rfl (fun K hK => ?_)
      go_simp
      refine HC.out.mono ?_
      rintro e w6 ⟨v6, rfl, hv6, hb6⟩
      go_simp
      refine hK _ _ (.inr (k8_below hb6)) ?_
      clear hK K HC
      have hoB : OwnB w6 w.heap.size v5 (acc ++ [kb]) := HX5.out.1.below hb6
      have hbB : Below w.heap.size w w6 := HX5.out.2.1.trans (hb6.mono HX5.out.2.1.size)
      have hgl := (grp_length l[k].path.length).1
      refine ot_act rfl rfl (fun K hK => ?_)
      refine wp_append_bytesR _ _ rfl w.heap.size v5 (acc ++ [kb]) rfl hoB w6.heap.size _ (grp l[k].path.length) rfl hv6.rd (grp_pos _) hbB.size (by have := HAL.out; simp; omega) (fun v7 w7 hv7 hg7 => ?_)
      refine hK _ _ (.inr (k8_grown hoB hg7)) ?_
      clear hK K
      have hk7 : K8 w4 w7 := (HX5.out.2.2.trans (k8_below hb6)).trans (k8_grown hoB hg7)
      have HX7 : Hid (OwnB w7 w.heap.size v7 (acc ++ [kb] ++ grp l[k].path.length ++ ((l[k].path.take 0).map txt).flatten) ∧ Below w.heap.size w w7 ∧ w7.heap[wr.heap.size]? = some (.cells #[.int .i64 kd, .slice PA l[k].path.length pc, .int .i64 l[k].val.kind, .int .i64 l[k].val.num, .string l[k].val.text, .slice VA l[k].val.items.length vc, .slice VA' l[k].val.names.length vc', .int .i64 l[k].num] 95 (0, 0))) := hid ⟨by simpa using hv7, below_own hbB hoB hbB.size hg7, dbox_k8 HX4.out.2.2 hk7⟩
      clear hv7 hg7 hoB hbB hk7 hv6 hb6 HX5 HX4 hgl
      simp only [acR, Act.put]
      refine ot_free ?_
      simp only [atR]
      show wpQuiet _ _ _ _ [_] _
      try simp only [acR, Act.put] at *
      repeat (go_big_quiet_step (fail))
      refine wpQuiet_nil ?_
      refine ot_end ?_
      clear z0 z1 z2 z3 z4 z5 z6 z7
      obtain ⟨g5, hg5⟩ : ∃ g, g = wr.heap.size := ⟨_, rfl⟩
      rw [← hg5] at HX7 ⊢
      clear hg5 HW4 HOB
      go_wp2_with fail
      go_loopw [3, 6] (fun v0 i wj => ∃ j : Nat, i = .int .i64 j ∧ j ≤ l[k].path.length ∧ Hid (OwnB wj w.heap.size v0 (acc ++ [kb] ++ grp l[k].path.length ++ ((l[k].path.take j).map txt).flatten) ∧ Below w.heap.size w wj ∧ wj.heap[g5]? = some (.cells #[.int .i64 kd, .slice PA l[k].path.length pc, .int .i64 l[k].val.kind, .int .i64 l[k].val.num, .string l[k].val.text, .slice VA l[k].val.items.length vc, .slice VA' l[k].val.names.length vc', .int .i64 l[k].num] 95 (0, 0)))) (fun _ i _ => l[k].path.length - (intOf i).toNat)
      case atStart => exact ⟨0, rfl, by omega, HX7⟩
      case round =>
        obtain ⟨j, rfl, hj, HJ⟩ := hrel
        have r1 : wr.cell? ⟨g5, 1, none⟩ = some (.slice PA l[k].path.length pc) := Go.Joins.cell_of_block HJ.out.2.2 1
        by_cases hjl : j < l[k].path.length
        · have d2 : decide ((j : Int) < (l[k].path.length : Int)) = true := decide_eq_true (by omega)
          obtain ⟨b, boff, hPA, hbS, hcells⟩ := (HOP.out wr HJ.out.2.1).1 (by omega)
          rw [hPA] at r1
          clear hPA
          have hcj := (hcells j hjl).1
          have hsz := HNM.out.2 _ (List.getElem_mem hjl)
          obtain ⟨s, hs⟩ : ∃ s, s = l[k].path[j] := ⟨_, rfl⟩
          rw [← hs] at hcj hsz
          have HSX := hid hs
          have HT := hid (rtext_any s wr (by omega))
          have HTL := hid (txt_small hsz)
          have hfl := flat_small (p := l[k].path.take j) fun s hs => HNM.out.2 s (List.mem_of_mem_take hs)
          rw [List.length_take] at hfl
          have hcl : (acc ++ [kb] ++ grp l[k].path.length ++ ((l[k].path.take j).map txt).flatten).length ≤ 134600000 := by
            have h1 := (grp_length l[k].path.length).1
            have h3 := HAL.out
            simp only [List.length_append, List.length_cons, List.length_nil]
            omega
          have HCL := hid hcl
          have HSZ := hid HJ.out.2.1.size
          clear hcells hsz hs hbS hfl hcl
          go_wp2_with fail
          refine HT.out.mono ?_
          rintro e w8 ⟨v8, rfl, hv8, hb8⟩
          have HV8 := hid hv8
          have HO8 := hid (HJ.out.1.below hb8)
          have HB8 := hid hb8
          clear hv8 hb8 HT hcj r1
          go_wp2_with (at_builtin; go_must (refine wpList_append_bytes rfl _ _ rfl w.heap.size _ (acc ++ [kb] ++ grp l[k].path.length ++ ((l[k].path.take j).map txt).flatten) rfl HO8.out w8.heap.size _ (txt s) rfl HV8.out.rd (Nat.le_trans HSZ.out HB8.out.size) (by have := HCL.out; have := HTL.out; omega) ?_))
          intro v9 w9 hv9 hg9
          have HX : Hid (OwnB w9 w.heap.size v9 (acc ++ [kb] ++ grp l[k].path.length ++ ((l[k].path.take (j + 1)).map txt).flatten) ∧ Below w.heap.size w w9 ∧ w9.heap[g5]? = some (.cells #[.int .i64 kd, .slice PA l[k].path.length pc, .int .i64 l[k].val.kind, .int .i64 l[k].val.num, .string l[k].val.text, .slice VA l[k].val.items.length vc, .slice VA' l[k].val.names.length vc', .int .i64 l[k].num] 95 (0, 0))) := hid ⟨by
            have h1 : ((l[k].path.take (j + 1)).map txt).flatten = ((l[k].path.take j).map txt).flatten ++ txt s := by
              rw [List.take_add_one, List.getElem?_eq_getElem hjl, List.map_append, List.flatten_append, ← HSX.out]
              exact congrArg _ (List.append_nil _)
            rw [h1]
            simpa [List.append_assoc, List.map_take] using hv9, below_own (toStart HJ.out.2.1 HB8.out) HO8.out (Nat.le_trans HSZ.out HB8.out.size) hg9, dbox_k8 (dbox_keep HJ.out.2.2 HB8.out) (k8_grown HO8.out hg9)⟩
          clear hv9 hg9
          go_wp2_with fail
          go_roundw
          case rel => exact ⟨j + 1, by go_num, by omega, HX⟩
          case measure => simp [intOf]; omega
        · have hje : j = l[k].path.length := by omega
          have d2 : decide ((j : Int) < (l[k].path.length : Int)) = false := decide_eq_false (by omega)
          have HJ2 : Hid (OwnB wr w.heap.size u3 (acc ++ [kb] ++ pathC l[k].path) ∧ Below w.heap.size w wr ∧ wr.heap[g5]? = some (.cells #[.int .i64 kd, .slice PA l[k].path.length pc, .int .i64 l[k].val.kind, .int .i64 l[k].val.num, .string l[k].val.text, .slice VA l[k].val.items.length vc, .slice VA' l[k].val.names.length vc', .int .i64 l[k].num] 95 (0, 0))) := hid ⟨by
            have h9 := HJ.out.1
            rw [hje, List.take_length] at h9
            unfold pathC
            simpa [List.append_assoc] using h9, HJ.out.2⟩
          have HN : Hid (grp l.length ++ ((l.take (k + 1)).map codeD1).flatten = acc ++ [kb] ++ pathC l[k].path ++ (if kd = 1 then encO l[k].val else if kd = 3 then grp l[k].num.toNat else [])) := hid (by
            have h1 : ((l.take (k + 1)).map codeD1).flatten = ((l.take k).map codeD1).flatten ++ codeD1 l[k] := by
              rw [List.take_add_one, List.getElem?_eq_getElem hlt, List.map_append, List.flatten_append]
              exact congrArg _ (List.append_nil _)
            rw [h1, HACC.out, HKB.out, HKD.out.1]
            unfold codeD1
            simp only [List.append_assoc])
          have HL7 : Hid ((acc ++ [kb] ++ pathC l[k].path).length ≤ 140000000) := hid (by have := HAL.out; have := pathC_small HNM.out; simp; omega)
          have r0 : wr.cell? ⟨g5, 0, none⟩ = some (.int .i64 kd) := Go.Joins.cell_of_block HJ.out.2.2 0
          have r2 := Go.Joins.cell_of_block HJ.out.2.2 2
          have r3 := Go.Joins.cell_of_block HJ.out.2.2 3
          have r4 := Go.Joins.cell_of_block HJ.out.2.2 4
          have r5 := Go.Joins.cell_of_block HJ.out.2.2 5
          have r6 := Go.Joins.cell_of_block HJ.out.2.2 6
          have r7 := Go.Joins.cell_of_block HJ.out.2.2 7
          clear HJ hje
          by_cases h1k : kd = 1
          · have hv := HMAY.out
            have HC := hid (renc_any S l[k].val _ wr (fun b hb => Nat.lt_of_lt_of_le (HS.out b hb) HJ2.out.2.1.size) (HOP.out wr HJ2.out.2.1).2 (HD.out.2 _ (List.getElem_mem hlt)) (mayD_check hv (HKD.out.1 ▸ h1k)))
            have HK1 := hid h1k
            have d3 : (kd == 1) = true := by rw [h1k]; rfl
            clear h1k hv
            go_wp2_with fail
            refine HC.out.mono ?_
            rintro e w8 ⟨v8, rfl, hv8, hb8⟩
            have HX8 : Hid (OwnB w8 w.heap.size u3 (acc ++ [kb] ++ pathC l[k].path) ∧ Below w.heap.size w w8 ∧ Rd w8 w8.heap.size v8 (encO l[k].val)) := hid ⟨HJ2.out.1.below hb8, HJ2.out.2.1.trans (hb8.mono HJ2.out.2.1.size), hv8.rd⟩
            clear hv8 hb8 HC r0 r1 r2 r3 r4 r5 r6 r7
            go_wp2_with (at_builtin; go_must (refine wpList_append_bytes rfl _ _ rfl w.heap.size _ (acc ++ [kb] ++ pathC l[k].path) rfl HX8.out.1 w8.heap.size v8 (encO l[k].val) rfl HX8.out.2.2 HX8.out.2.1.size (by have := HL7.out; have := encO_length (t := l[k].val) (HD.out.2 _ (List.getElem_mem hlt)); omega) ?_))
            intro v9 w9 hv9 hg9
            have HX9 : Hid (OwnB w9 w.heap.size v9 (grp l.length ++ ((l.take (k + 1)).map codeD1).flatten) ∧ Below w.heap.size w w9) := hid ⟨by rw [HN.out, if_pos HK1.out]; simpa [List.append_assoc] using hv9, below_own HX8.out.2.1 HX8.out.1 HX8.out.2.1.size hg9⟩
            clear hv9 hg9
            go_wp2_with fail
            go_roundw
            case rel => exact ⟨k + 1, by go_num, by omega, HX9⟩
            case measure => simp [intOf]; omega
          have d3 : (kd == 1) = false := by simpa using h1k
          have HK1 := hid h1k
          clear h1k
          by_cases h3k : kd = 3
          · have d4 : (kd == 3) = true := by rw [h3k]; rfl
            have HK3 := hid h3k
            have hn9 : 0 ≤ l[k].num ∧ l[k].num ≤ 999 := by have := HKD.out.2; omega
            obtain ⟨n, hnn⟩ : ∃ n : Nat, l[k].num = n := ⟨l[k].num.toNat, by omega⟩
            have HNN := hid hnn
            rw [hnn] at r7
            have hn99 : n ≤ 999 := by omega
            have HC := hid (rcount_any n wr (by omega))
            clear h3k hn9 hnn
            go_wp2_with fail
            refine HC.out.mono ?_
            rintro e w8 ⟨v8, rfl, hv8, hb8⟩
            have HX8 : Hid (OwnB w8 w.heap.size u3 (acc ++ [kb] ++ pathC l[k].path) ∧ Below w.heap.size w w8 ∧ Rd w8 w8.heap.size v8 (grp n)) := hid ⟨HJ2.out.1.below hb8, HJ2.out.2.1.trans (hb8.mono HJ2.out.2.1.size), hv8.rd⟩
            clear hv8 hb8 HC r0 r1 r2 r3 r4 r5 r6 r7
            go_wp2_with (at_builtin; go_must (refine wpList_append_bytes rfl _ _ rfl w.heap.size _ (acc ++ [kb] ++ pathC l[k].path) rfl HX8.out.1 w8.heap.size v8 (grp n) rfl HX8.out.2.2 HX8.out.2.1.size (by have := HL7.out; have := (grp_length n).1; omega) ?_))
            intro v9 w9 hv9 hg9
            have HX9 : Hid (OwnB w9 w.heap.size v9 (grp l.length ++ ((l.take (k + 1)).map codeD1).flatten) ∧ Below w.heap.size w w9) := hid ⟨by rw [HN.out, if_neg HK1.out, if_pos HK3.out, HNN.out, Int.toNat_natCast]; simpa [List.append_assoc] using hv9, below_own HX8.out.2.1 HX8.out.1 HX8.out.2.1.size hg9⟩
            clear hv9 hg9
            go_wp2_with fail
            go_roundw
            case rel => exact ⟨k + 1, by go_num, by omega, HX9⟩
            case measure => simp [intOf]; omega
          · have d4 : (kd == 3) = false := by simpa using h3k
            have HX9 : Hid (OwnB wr w.heap.size u3 (grp l.length ++ ((l.take (k + 1)).map codeD1).flatten) ∧ Below w.heap.size w wr) := hid ⟨by rw [HN.out, if_neg HK1.out, if_neg h3k, List.append_nil]; exact HJ2.out.1, HJ2.out.2.1⟩
            clear h3k
            go_wp2_with fail
            go_roundw
            case rel => exact ⟨k + 1, by go_num, by omega, HX9⟩
            case measure => simp [intOf]; omega
    · have hke : k = l.length := by omega
      have d1 : decide ((k : Int) < (l.length : Int)) = false := decide_eq_false (by omega)
      have HE : Hid (OwnB wr w.heap.size u3 (codeDs l)) := hid (by
        have h9 := HH.out.1
        rw [hke, List.take_length] at h9
        rw [HF.out]
        exact h9)
      clear hke
      go_wp2_with fail
      go_ret
      exact ⟨_, rfl, HE.out, HH.out.2⟩
end Go.Proofs.YtpcdngpppjdgcaaGreat
