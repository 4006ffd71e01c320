/- What puts bytes behind a file. -/
import Derived.Test.YtflkaladkbkbgaaGreatKFlF
import Derived.Test.YtflkaladkbkbgaaGreatKOpenS
namespace Go.Proofs.YtflkaladkbkbgaaGreat
set_option linter.unusedVariables false
set_option linter.unusedSimpArgs false
open Go.RowKit Go.Maps
set_option maxRecDepth 100000
theorem slice_to (A : Option Addr) (len cap n : Nat) (hn : n ≤ cap) (w : World) :
    (Instr.slice 33 (.slice A len cap) none (some (.int .i64 (n : Int))) none).run Tryz.prog w = .ok (.slice A n cap) w := by
  have hd : (0 : Int) ≤ (n : Int) ∧ (n : Int) ≤ (cap : Int) := by omega
  obtain ⟨i0, hi, hz0, hz1, hz2⟩ := info_parts Tryz.infoU8
  have hc : (if cap = 0 then A else A.map fun x => x.add 0) = A := by
    split
    · rfl
    · cases A <;> simp [Addr.add]
  simp [Instr.slice, Instr.sliceBounds, Instr.sliceBound, run_underlying Tryz.underlying33, Result.andThen, asIntOf, sizeOf, hd, hi, hz1]
  rw [if_pos hn]
  show Result.ok (Value.slice (if cap = 0 then A else Option.map (fun x => x.add 0) A) n cap) w = _
  rw [hc]
theorem Rd.take {w : World} {B : Nat} {A : Option Addr} {c : Nat} {l : List UInt8} (h : Rd w B (.slice A l.length c) l) (n : Nat) (hn : n ≤ l.length) : Rd w B (.slice A n c) (l.take n) := by
  obtain ⟨A', cap', hv, h2, h3, hc⟩ := h
  injection hv with e1 e2 e3
  subst e1 e3
  refine ⟨A, c, by rw [List.length_take]; congr 1; omega, by rw [List.length_take]; omega, h3, fun hl => ?_⟩
  rw [List.length_take] at hl
  obtain ⟨b, o, h4, h5, h6⟩ := hc (by omega)
  refine ⟨b, o, h4, h5, fun i hi => ?_⟩
  rw [List.length_take] at hi
  rw [h6 i (by omega)]
  simp
/-- An append to a row of one's own: where the new row lies. -/
theorem run_append_bytes (w : World) (ty : TypeId) (B : Nat) (v : Value) (l : List UInt8) (hown : OwnB w B v l) (D : Nat) (vx : Value) (m : List UInt8) (hrd : Rd w D vx m) (hB : B ≤ w.heap.size) (hl : l.length + m.length ≤ 140737488355328) :
    ∃ v' w', (Builtin.append_ #[33, 33] ty #[v, vx]).run Tryz.prog w = .ok v' w' ∧ OwnB w' B v' (l ++ m) ∧ w.grownBy w' v.ownBlock ∧ (∀ k, v'.ownBlock = some k → v.ownBlock = some k ∨ w.heap.size ≤ k) := by
  obtain ⟨i0, hi, hz0, hz1, hz2⟩ := info_parts Tryz.infoU8
  obtain ⟨A, cap, rfl, hcap, ⟨hc2, hA⟩, hc⟩ := hrd
  cases A with
  | none =>
    have hm : m = [] := by
      match m, hc with
      | [], _ => rfl
      | b :: r, hc => obtain ⟨_, _, h, _⟩ := hc (by simp); cases h
    subst hm
    obtain rfl := hA rfl
    refine ⟨v, w, run_append_owned_none (P := Tryz.prog) (w := w) B 33 ty 5 i0 1 Tryz.underlying33 hi v l.length (bcells l) hown, by rw [List.append_nil]; exact hown, ⟨rfl, rfl, rfl, Nat.le_refl _, fun _ _ _ => rfl⟩, fun k hk => .inl hk⟩
  | some ad =>
    obtain ⟨v', w', hr, h1, h2, h3⟩ := run_append_moved (P := Tryz.prog) w B 33 ty 5 i0 (.int .u8 0) 1 1 Tryz.underlying33 hi hz0 hz1 hz2 rfl (by decide) v l.length (bcells l) hown ad m.length cap (bcells m) (by simp [bcells]) (by
      intro j u hj
      have hjl : j < m.length := by have := (List.getElem?_eq_some_iff.1 hj).1; simpa [bcells] using this
      obtain ⟨b, off, hAd, -, hcell⟩ := hc (by omega)
      injection hAd with hAd
      subst hAd
      rw [addr_addY, hcell j hjl]
      simpa [bcells, List.getElem?_map, List.getElem?_eq_getElem hjl] using hj) (bcells_oneCell m) (by unfold maxLen; omega) (by omega) hB
    refine ⟨v', w', hr, by unfold OwnB; rw [List.length_append, bcells_append]; exact h1, h2, fun k hk => ?_⟩
    rcases h3 with h3 | ⟨q, hq, h3⟩
    · exact .inl (h3 ▸ hk)
    · rw [h3] at hk; injection hk with hk; exact .inr (by omega)
theorem wp_append_bytes {w : World} {o : Oper} {a : Act} {K : Act → World → Prop} {Q : Exit → Act → World → Prop} (s x : Operand) (ho : o.op = .call { callee := .builtin .append, args := #[s, x], argTypes := #[33, 33] })
    (B : Nat) (v : Value) (l : List UInt8) (hs : a.eval s = v) (hown : OwnB w B v l) (D : Nat) (vx : Value) (m : List UInt8) (hx : a.eval x = vx) (hrd : Rd w D vx m) (hB : B ≤ w.heap.size) (hl : l.length + m.length ≤ 140737488355328)
    (h : ∀ v' w', OwnB w' B v' (l ++ m) → w.grownBy w' v.ownBlock → (∀ k, v'.ownBlock = some k → v.ownBlock = some k ∨ w.heap.size ≤ k) → K (a.put o.dst v') w') : o.wp Tryz.prog a w K Q := by
  obtain ⟨v', w', hr, h2, h3, h4⟩ := run_append_bytes w o.type B v l hown D vx m hrd hB hl
  unfold Oper.wp execOp
  simp only [ho, resolve, invoke, builtin, Sem.run_bind, Sem.run_pure, Result.andThen_ok, List.map_toArray, List.map_cons, List.map_nil, hs, hx, hr]
  exact h v' w' h2 h3 h4

/-- Other blocks than one stay. -/
def RowR (row : Option Nat) (a b : World) : Prop := a.grownBy b row
theorem RowR.refl (row : Option Nat) (w : World) : RowR row w w := ⟨rfl, rfl, rfl, Nat.le_refl _, fun _ _ _ => rfl⟩
theorem RowR.trans (row : Option Nat) (a b c : World) (x : RowR row a b) (y : RowR row b c) : RowR row a c := ⟨y.os.trans x.os, y.tape.trans x.tape, y.output.trans x.output, Nat.le_trans x.size y.size, fun k hk hn => (y.block k (Nat.lt_of_lt_of_le hk x.size) hn).trans (x.block k hk hn)⟩
instance (row : Option Nat) (w : World) : Inhabited (LaterR (RowR row) w) := ⟨⟨w, RowR.refl row w⟩⟩
theorem cell_row {row : Option Nat} {w : World} {b o : Nat} {v : Value} (x : w.cell? ⟨b, o, none⟩ = some v) (hn : some b ≠ row) : ∀ p : LaterR (RowR row) w, p.u.cell? ⟨b, o, none⟩ = some v := fun p => p.h.cell x hn

section
variable {w : World} {Ft : Nat → Prop} {d m : Nat} {gs : List UInt8 → Option Nat} {rv : List UInt8 → Value} {D : DataW Unit} {M : DiskM}
/-- What is behind a put. -/
def PutR (w : World) (Ft : Nat → Prop) (d : Nat) (M' : DiskM) (w' : World) : Prop := w'.heap[d]? = w.heap[d]? ∧ ∃ Ft', Gr Ft w Ft' w' ∧ DAt w' Ft' d M'
set_option maxHeartbeats 4000000 in
theorem put_any {s : ByteArray} {g : Nat} {v : Value} {f : FileM} (c : Cand w Ft d m gs rv D M s.data.toList g v f) (hlt : ∀ b, Ft b → b < w.heap.size) (hs24 : s.size ≤ 24) (p1 p2 p3 p4 : Nat)
    (hx1 : w.heap[p1]? = some (.cells #[.pointer (some ⟨g, 0, none⟩)] 69 (0, 0))) (vb : Value) (hx2 : w.heap[p2]? = some (.cells #[vb] 33 (0, 0)))
    (hx3 : w.heap[p3]? = some (.cells #[.pointer (some ⟨d, 0, none⟩)] 24 (0, 0))) (hx4 : w.heap[p4]? = some (.cells #[.string s] 9 (0, 0)))
    (b : List UInt8) (hrd : Rd w w.heap.size vb b) (n : Nat) (hn : n ≤ b.length) (hmost : f.b.length + n ≤ 1048576) :
    Calls Tryz.prog 92 #[.int .i64 (n : Int), .pointer (some ⟨p1, 0, none⟩), .pointer (some ⟨p2, 0, none⟩), .pointer (some ⟨p3, 0, none⟩), .pointer (some ⟨p4, 0, none⟩)] w fun e w' =>
      (∃ x, e = .returned x) ∧ PutR w Ft d (M.put s.data.toList ⟨f.b ++ b.take n, f.sure⟩) w' := by
  obtain ⟨A, cb, hvb⟩ := hrd.shapeY
  subst hvb
  have hlc : b.length ≤ cb := by
    obtain ⟨A', cap', hv, h2, _⟩ := hrd
    injection hv with _ _ e3
    omega
  have HC := Lib.hid c
  have HLT := Lib.hid hlt
  have HRD := Lib.hid (hrd.take n hn)
  have HX3 := Lib.hid hx3
  have HX4 := Lib.hid hx4
  have HX1 := Lib.hid hx1
  have hne : ∀ {p : Nat} {x : Value} {t : TypeId}, t ≠ 5 → w.heap[p]? = some (.cells #[x] t (0, 0)) → some p ≠ v.ownBlock := fun ht hx e => by
    have h1 := c.file.own.tag e.symm
    rw [tag_of hx] at h1
    exact ht (by injection h1)
  have q1 := cell_row (row := v.ownBlock) (w := w.drew) (Go.Joins.cell_of_block (w := w.drew) hx1 0) (hne (by decide) hx1)
  have q2 := cell_row (row := v.ownBlock) (w := w.drew) (Go.Joins.cell_of_block (w := w.drew) hx2 0) (hne (by decide) hx2)
  have hgv : some g ≠ v.ownBlock := fun e => by
    have h1 := c.file.own.tag e.symm
    rw [c.file.tagg] at h1
    exact absurd h1 (by decide)
  have q3 := cell_row (row := v.ownBlock) (w := w.drew) (b := g) (o := 0) c.file.c0 hgv
  have hsl : ∀ p : LaterR (RowR v.ownBlock) w.drew, (Instr.slice 33 (.slice A b.length cb) none (some (.int .i64 (n : Int))) none).run Tryz.prog p.u = .ok (.slice A n cb) p.u := fun p => slice_to A _ _ _ (by omega) _
  clear c hlt hrd hx1 hx2 hx3 hx4 hne
  go_enter Tryz.func92, Tryz.ntmps92
  go_wp2_with fail
  refine wp_region_OT (RowR v.ownBlock) (RowR.refl _) (RowR.trans _) [11] (.pure [0, 1, 2, 3, 4, 5, 6, 7] (.step 8 (.free [9, 10] (.tail [11])))) (by kernel_rfl) (by kernel_rfl) (fun _ d _ _ _ h => by cases d <;> exact h) ?_
  have hz0 : w.drew.heap.size = w.heap.size := rfl
  have HC0 : Hid (Cand w.drew Ft d m gs rv D M s.data.toList g v f) := Lib.hid ⟨HC.out.disk.keep fun _ _ => rfl, HC.out.file.keep (fun _ _ => rfl) (fun _ x => x), HC.out.good, HC.out.or⟩
  have HRD0 : Hid (Rd w.drew w.drew.heap.size (.slice A n cb) (b.take n)) := HRD
  have HX10 : Hid (w.drew.heap[p1]? = some (.cells #[.pointer (some ⟨g, 0, none⟩)] 69 (0, 0))) := HX1
  have HX30 : Hid (w.drew.heap[p3]? = some (.cells #[.pointer (some ⟨d, 0, none⟩)] 24 (0, 0))) := HX3
  have HX40 : Hid (w.drew.heap[p4]? = some (.cells #[.string s] 9 (0, 0))) := HX4
  have HD0 : Hid (w.grownBy w.drew none) := Lib.hid ⟨rfl, rfl, rfl, Nat.le_refl _, fun _ _ _ => rfl⟩
  have HLT0 : Hid (∀ b, Ft b → b < w.drew.heap.size) := HLT
  clear HC HRD HX1 HX3 HX4 HLT
  generalize w.drew = w0 at *
  refine ot_pure ?_
  simp only [atNats, List.filterMap_cons, List.filterMap_nil, List.getElem?_toArray, List.getElem?_cons_succ, List.getElem?_cons_zero]
  show wpQuiet _ _ _ _ [_, _, _, _, _, _, _, _] _
  try simp only [List.getElem_toArray, List.getElem_cons_succ, List.getElem_cons_zero, Act.put, List.setIfInBounds_toArray, List.set_cons_succ, List.set_cons_zero] at *
  repeat (go_big_quiet_step (fail))
  refine wpQuiet_nil ?_
  clear q1 q2 q3 hsl
  refine ot_act rfl rfl (fun K hK => ?_)
  refine wp_append_bytes _ _ rfl 0 v f.b rfl HC0.out.file.own w0.heap.size _ (b.take n) rfl HRD0.out (Nat.zero_le _) (by rw [List.length_take]; omega) ?_
  intro v1 w1 hv1 hg1 hat1
  obtain ⟨A1, c1, rfl⟩ := hv1.rdY.shapeY
  obtain ⟨n1, hn1⟩ : ∃ x, x = (f.b ++ b.take n).length := ⟨_, rfl⟩
  rw [← hn1] at hv1 hat1 ⊢
  clear hn1
  refine hK _ _ (.inr hg1) ?_
  clear hK K
  refine ot_free ?_
  simp only [atNats, List.filterMap_cons, List.filterMap_nil, List.getElem?_toArray, List.getElem?_cons_succ, List.getElem?_cons_zero]
  show wpQuiet _ _ _ _ [_, _] _
  simp only [List.getElem_toArray, List.getElem_cons_succ, List.getElem_cons_zero, Act.put, List.setIfInBounds_toArray, List.set_cons_succ, List.set_cons_zero]
  repeat (go_big_quiet_step (fail))
  refine wpQuiet_nil ?_
  have hb1 := (hg1.block g HC0.out.file.lt hgv).trans HC0.out.file.blk
  have x0 := Go.Joins.cell_of_block hb1 0
  have xf := Go.Joins.unfrozen_of_block hb1 0
  have H1 := Lib.hid (And.intro hv1 (And.intro hg1 (And.intro hat1 hb1)))
  clear hv1 hg1 hat1 hb1
  refine ot_last rfl (fun K hK => ?_)
  go_simp
  refine hK _ _ ?_
  clear hK K x0 xf
  refine ot_end ?_
  obtain ⟨hv1, hg1, hat1, hb1⟩ := H1.out
  obtain ⟨V1, hV1⟩ : ∃ x, x = Value.slice A1 n1 c1 := ⟨_, rfl⟩
  have hb2 : (w1.setCell ⟨g, 0, none⟩ (.slice A1 n1 c1)).heap[g]? = some (.cells #[.slice A1 n1 c1, .int .i64 (f.sure : Int)] 89 (0, 0)) := setCell_one hb1 0 _
  have hk2 : ∀ b, b ≠ g → (w1.setCell ⟨g, 0, none⟩ (.slice A1 n1 c1)).heap[b]? = w1.heap[b]? := fun b hb => heap_setCell_other _ ⟨g, 0, none⟩ b _ hb
  have hz2 : (w1.setCell ⟨g, 0, none⟩ (.slice A1 n1 c1)).heap.size = w1.heap.size := by simp
  have ho2 : (w1.setCell ⟨g, 0, none⟩ (.slice A1 n1 c1)).os = w1.os ∧ (w1.setCell ⟨g, 0, none⟩ (.slice A1 n1 c1)).tape = w1.tape ∧ (w1.setCell ⟨g, 0, none⟩ (.slice A1 n1 c1)).output = w1.output := ⟨rfl, rfl, rfl⟩
  generalize w1.setCell ⟨g, 0, none⟩ (.slice A1 n1 c1) = w2 at hb2 hk2 hz2 ho2 ⊢
  rw [← hV1] at hv1 hat1 hb2
  have hvg : V1.ownBlock ≠ some g := fun e => by
    rcases hat1 g e with h | h
    · exact hgv h.symm
    · have := HC0.out.file.lt; omega
  have hv2 : OwnB w2 0 V1 (f.b ++ b.take n) := hv1.keepB fun k hk => hk2 k (fun e => hvg (e ▸ hk))
  have hne : ∀ b, tagOf w0 b ≠ some 89 → tagOf w0 b ≠ some 5 → b < w0.heap.size → w2.heap[b]? = w0.heap[b]? := fun b h1 h2 h3 =>
    (hk2 b (fun e => h1 (by rw [e]; exact HC0.out.file.tagg))).trans (hg1.block b h3 (fun e => h2 (HC0.out.file.own.tag e.symm)))
  have hD := HC0.out.disk
  have hdw : w2.heap[d]? = w0.heap[d]? := hne d (by rw [hD.tagd]; decide) (by rw [hD.tagd]; decide) hD.lt
  have hdd : w2.heap[d]? = _ := (hne d (by rw [hD.tagd]; decide) (by rw [hD.tagd]; decide) hD.lt).trans hD.disk
  have hmm := ownsMap_keep hD.map (hne m (by rw [hD.tagm]; simp) (by rw [hD.tagm]; simp) hD.map.lt)
  have hlt : ∀ {p : Nat} {o : Obj}, w0.heap[p]? = some o → p < w0.heap.size := fun h => (Array.getElem?_eq_some_iff.1 h).1
  have hp1 := (hne p1 (by rw [tag_of HX10.out]; decide) (by rw [tag_of HX10.out]; decide) (hlt HX10.out)).trans HX10.out
  have hp3 := (hne p3 (by rw [tag_of HX30.out]; decide) (by rw [tag_of HX30.out]; decide) (hlt HX30.out)).trans HX30.out
  have hp4 := (hne p4 (by rw [tag_of HX40.out]; decide) (by rw [tag_of HX40.out]; decide) (hlt HX40.out)).trans HX40.out
  have hm2 : w2.drew.ownsMap Tryz.prog 9 fileR m M.cnt D := hmm
  have hz0' : w0.heap.size ≤ w2.heap.size := by rw [hz2]; exact hg1.size
  have hold : ∀ k, k < w0.heap.size → k ≠ g → some k ≠ v.ownBlock → w2.heap[k]? = w0.heap[k]? := fun k h1 h2 h3 => (hk2 k h2).trans (hg1.block k h1 h3)
  have hos : w2.os = w0.os ∧ w2.tape = w0.tape ∧ w2.output = w0.output := ⟨ho2.1.trans hg1.os, ho2.2.1.trans hg1.tape, ho2.2.2.trans hg1.output⟩
  obtain ⟨w3, hrun, hmap3, hg3⟩ := hm2.update fkeyed Tryz.underlying45 (by unfold maxLen; have := hD.c256; omega) (fkey s (by unfold maxLen; omega)) (fileR_mk g)
  have hgm : g ≠ m := fun e => by have := HC0.out.file.tagg; rw [e, hD.tagm] at this; cases this
  have hb3 : w3.heap[g]? = _ := (hg3.block g ((Array.getElem?_eq_some_iff.1 hb2).1) (fun e => hgm (by injection e))).trans hb2
  have hv3 : OwnB w3 0 V1 (f.b ++ b.take n) := hv2.keepB fun k hk => hg3.block k (hv2.ltk hk) (fun e => by
    injection e with e
    rcases hat1 k hk with h | h
    · have := HC0.out.file.own.tag h; rw [e, hD.tagm] at this; cases this
    · have := hD.map.lt; omega)
  have hz3 : w0.heap.size ≤ w3.heap.size := Nat.le_trans hz0' hg3.size
  have hlen : (f.b ++ b.take n).length = f.b.length + n := by rw [List.length_append, List.length_take]; omega
  have hfin := DiskAt.putFile HC0.out (Ft' := fun k => Ft k ∨ (w0.heap.size ≤ k ∧ k < w3.heap.size)) (v' := V1) (f' := ⟨f.b ++ b.take n, f.sure⟩) (fun b hb => .inl hb) hmap3
    ⟨hb3, hv3, .inl HC0.out.file.ftg, fun k hk => by
      rcases hat1 k hk with h | h
      · exact .inl (HC0.out.file.ftr k h)
      · exact .inr ⟨h, hv3.ltk hk⟩, by show f.sure ≤ (f.b ++ b.take n).length; have := HC0.out.file.le; omega, by show (f.b ++ b.take n).length ≤ _; omega⟩ hat1
    (fun b h1 h2 h3 h4 => (hg3.block b (by show b < w2.heap.size; omega) (fun e => h3 (by injection e))).trans (hold b h1 h2 h4))
  have HPUT : Hid (PutR w Ft d (M.put s.data.toList ⟨f.b ++ b.take n, f.sure⟩) w3) := Lib.hid ⟨((hg3.block d (by show d < w2.heap.size; have := hD.lt; omega) (fun e => by have h9 := hD.tagd; injection e with e; rw [e, hD.tagm] at h9; cases h9)).trans hdw).trans (HD0.out.block d (by have := hD.lt; have := HD0.out.size; omega) (by simp)), _, ⟨(hg3.os.trans hos.1).trans HD0.out.os, (hg3.tape.trans hos.2.1).trans HD0.out.tape, (hg3.output.trans hos.2.2).trans HD0.out.output, by have := HD0.out.size; omega, fun k hk hn => by
      have h1 : k ≠ g := fun e => hn (e ▸ HC0.out.file.ftg)
      have h2 : k ≠ m := fun e => hn (e ▸ hD.fm)
      have h3 : some k ≠ v.ownBlock := fun e => hn (HC0.out.file.ftr k e.symm)
      have hk0 : k < w0.heap.size := by have := HD0.out.size; omega
      exact ((hg3.block k (by show k < w2.heap.size; omega) (fun e => h2 (by injection e))).trans (hold k hk0 h1 h3)).trans (HD0.out.block k hk (by simp)), fun k hk => by
      rcases hk with hk | hk
      · exact .inl hk
      · have := HD0.out.size; exact .inr (by omega)⟩, ⟨fun b hb => by
      rcases hb with hb | hb
      · have := HLT0.out b hb; omega
      · exact hb.2, _, _, _, _, hfin⟩⟩
  have r1 := cell_row (row := none) (w := w2.drew) (Go.Joins.cell_of_block (w := w2.drew) hp1 0) (by simp)
  have r3 := cell_row (row := none) (w := w2.drew) (Go.Joins.cell_of_block (w := w2.drew) hp3 0) (by simp)
  have r4 := cell_row (row := none) (w := w2.drew) (Go.Joins.cell_of_block (w := w2.drew) hp4 0) (by simp)
  have rd := cell_row (row := none) (w := w2.drew) (Go.Joins.cell_of_block (w := w2.drew) hdd 0) (by simp)
  clear hdw hlen hfin hz3 hv3 hb3 hgm hmap3 hg3 hos hold hz0' hm2 hp1 hp3 hp4 hmm hdd hD hne hv2 hvg hb2 hk2 hz2 ho2 hv1 hg1 hat1 hb1 H1 hlt
  subst hV1
  go_wp2_with fail
  refine wp_region_OT (RowR none) (RowR.refl _) (RowR.trans _) [6] (.pure [0, 1, 2, 3, 4, 5] (.tail [6])) (by kernel_rfl) (by kernel_rfl) (fun _ d _ _ _ h => by cases d <;> exact h) ?_
  generalize w2.drew = w2' at *
  refine ot_pure ?_
  simp only [atNats, List.filterMap_cons, List.filterMap_nil, List.getElem?_toArray, List.getElem?_cons_succ, List.getElem?_cons_zero]
  show wpQuiet _ _ _ _ [_, _, _, _, _, _] _
  try simp only [List.getElem_toArray, List.getElem_cons_succ, List.getElem_cons_zero, Act.put, List.setIfInBounds_toArray, List.set_cons_succ, List.set_cons_zero] at *
  repeat (go_big_quiet_step (fail))
  refine wpQuiet_nil ?_
  refine ot_last rfl (fun K hK => ?_)
  go_simp
  refine hK _ _ ?_
  clear hK K
  refine ot_end ?_
  go_wp2_with fail
  go_end0
  exact ⟨⟨_, rfl⟩, HPUT.out⟩
end
end Go.Proofs.YtflkaladkbkbgaaGreat

/- Append, whole. -/
namespace Go.Proofs.YtflkaladkbkbgaaGreat
set_option linter.unusedVariables false
set_option linter.unusedSimpArgs false
open Go.RowKit Go.Maps
set_option maxRecDepth 100000
theorem enters_app1 : EntersF 92 := fun _ _ => by simp [callFunc, go_sem, Tryz.func92, Tryz.f92]
theorem enters_app2 : EntersF 93 := fun _ _ => by simp [callFunc, go_sem, Tryz.func93, Tryz.f93]
theorem enters_app3 : EntersF 94 := fun _ _ => by simp [callFunc, go_sem, Tryz.func94, Tryz.f94]
def Retd (R : World → Prop) (e : Ending) (w' : World) : Prop := (∃ x, e = .returned x) ∧ R w'
set_option maxHeartbeats 2000000 in
theorem app2_any (w : World) (pp pb p1 p2 p3 p4 : Nat) (A : Option Addr) (n c : Nat) (R : World → Prop) (hpp : w.heap[pp]? = some (.cells #[.func (.func 92) #[] #[.pointer (some ⟨p1, 0, none⟩), .pointer (some ⟨p2, 0, none⟩), .pointer (some ⟨p3, 0, none⟩), .pointer (some ⟨p4, 0, none⟩)]] 70 (0, 0)))
    (hpb : w.heap[pb]? = some (.cells #[.slice A n c] 33 (0, 0)))
    (hcall : Calls Tryz.prog 92 #[.int .i64 (n : Int), .pointer (some ⟨p1, 0, none⟩), .pointer (some ⟨p2, 0, none⟩), .pointer (some ⟨p3, 0, none⟩), .pointer (some ⟨p4, 0, none⟩)] w (Retd R)) :
    Calls Tryz.prog 93 #[.pointer (some ⟨pp, 0, none⟩), .pointer (some ⟨pb, 0, none⟩)] w (Retd R) := by
  have hcf : ∀ (args : Array Value) (W : World), (callFunc 92 args).run Tryz.prog W = .ok (.enter 92 args) W := enters_app1
  have x1 := Go.Joins.cell_of_block hpp 0
  have x2 := Go.Joins.cell_of_block hpb 0
  have HC := Lib.hid hcall
  clear hpp hpb hcall
  go_enter Tryz.func93, Tryz.ntmps93
  go_wp2_with fail
  refine HC.out.mono ?_
  rintro e w1 ⟨⟨x, rfl⟩, h⟩
  have H := Lib.hid h
  clear h
  go_wp2_with fail
  go_end0
  exact ⟨⟨_, rfl⟩, H.out⟩
/-- Four blocks stay. -/
def R4 (a b c d : Nat) (w w' : World) : Prop := ∀ k, k = a ∨ k = b ∨ k = c ∨ k = d → w'.heap[k]? = w.heap[k]?
theorem R4.refl (a b c d : Nat) (w : World) : R4 a b c d w w := fun _ _ => rfl
theorem R4.trans (a b c d : Nat) (x y z : World) (h : R4 a b c d x y) (k : R4 a b c d y z) : R4 a b c d x z := fun i hi => (k i hi).trans (h i hi)
instance (a b c d : Nat) (w : World) : Inhabited (LaterR (R4 a b c d) w) := ⟨⟨w, R4.refl _ _ _ _ w⟩⟩
theorem cell_r4 {a b c d : Nat} {w : World} {k o : Nat} {v : Value} (x : w.cell? ⟨k, o, none⟩ = some v) (hk : k = a ∨ k = b ∨ k = c ∨ k = d) : ∀ p : LaterR (R4 a b c d) w, p.u.cell? ⟨k, o, none⟩ = some v := fun p => (World.cell?_of_block (a := ⟨k, o, none⟩) (p.h k hk)).trans x
set_option maxHeartbeats 2000000 in
theorem app3_any (w : World) (pp pb pd d p1 p2 p3 p4 : Nat) (A : Option Addr) (n c : Nat) (torn : Int) (ht : 0 ≤ torn) (R : World → Prop) (hpp : w.heap[pp]? = some (.cells #[.func (.func 92) #[] #[.pointer (some ⟨p1, 0, none⟩), .pointer (some ⟨p2, 0, none⟩), .pointer (some ⟨p3, 0, none⟩), .pointer (some ⟨p4, 0, none⟩)]] 70 (0, 0)))
    (hpb : w.heap[pb]? = some (.cells #[.slice A n c] 33 (0, 0))) (hpd : w.heap[pd]? = some (.cells #[.pointer (some ⟨d, 0, none⟩)] 24 (0, 0))) (hd : w.cell? ⟨d, 2, none⟩ = some (.int .i64 torn))
    (hR : ∀ w', R w' → R4 pp pb pd d w w')
    (hcall : Calls Tryz.prog 92 #[.int .i64 ((min n torn.toNat : Nat) : Int), .pointer (some ⟨p1, 0, none⟩), .pointer (some ⟨p2, 0, none⟩), .pointer (some ⟨p3, 0, none⟩), .pointer (some ⟨p4, 0, none⟩)] w.drew (Retd R)) :
    Calls Tryz.prog 94 #[.pointer (some ⟨pp, 0, none⟩), .pointer (some ⟨pb, 0, none⟩), .pointer (some ⟨pd, 0, none⟩)] w (Retd R) := by
  have hcf : ∀ (args : Array Value) (W : World), (callFunc 92 args).run Tryz.prog W = .ok (.enter 92 args) W := enters_app1
  have q1 := cell_r4 (a := pp) (b := pb) (c := pd) (d := d) (w := w.drew) (Go.Joins.cell_of_block (w := w.drew) hpp 0) (.inl rfl)
  have q2 := cell_r4 (a := pp) (b := pb) (c := pd) (d := d) (w := w.drew) (Go.Joins.cell_of_block (w := w.drew) hpb 0) (.inr (.inl rfl))
  have q3 := cell_r4 (a := pp) (b := pb) (c := pd) (d := d) (w := w.drew) (Go.Joins.cell_of_block (w := w.drew) hpd 0) (.inr (.inr (.inl rfl)))
  have q4 := cell_r4 (a := pp) (b := pb) (c := pd) (d := d) (w := w.drew) (k := d) (o := 2) hd (.inr (.inr (.inr rfl)))
  have hR0 : ∀ w', R w' → R4 pp pb pd d w.drew w' := hR
  have HR0 := Lib.hid hR0
  have hmin : ((min n torn.toNat : Nat) : Int) = if torn < (n : Int) then torn else (n : Int) := by split <;> omega
  rw [hmin] at hcall
  have HC := Lib.hid hcall
  clear hpp hpb hpd hd hcall hmin hR hR0
  go_enter Tryz.func94, Tryz.ntmps94
  go_wp2_with fail
  refine wp_region_OT (R4 pp pb pd d) (R4.refl _ _ _ _) (R4.trans _ _ _ _) [] (.pure [0, 1, 2, 3, 4, 5, 6, 7, 8] (.step 9 (.tail []))) (by kernel_rfl) (by kernel_rfl) (fun _ d _ _ _ h => by cases d <;> exact h) ?_
  generalize w.drew = w0 at *
  refine ot_pure ?_
  simp only [atNats, List.filterMap_cons, List.filterMap_nil, List.getElem?_toArray, List.getElem?_cons_succ, List.getElem?_cons_zero]
  show wpQuiet _ _ _ _ [_, _, _, _, _, _, _, _, _] _
  try simp only [List.getElem_toArray, List.getElem_cons_succ, List.getElem_cons_zero, Act.put, List.setIfInBounds_toArray, List.set_cons_succ, List.set_cons_zero] at *
  repeat (go_big_quiet_step (fail))
  refine wpQuiet_nil ?_
  clear q1 q2 q3 q4
  refine ot_step rfl (fun K hK => ?_)
  go_simp
  refine HC.out.mono ?_
  rintro e w1 ⟨⟨x, rfl⟩, h⟩
  have H := Lib.hid h
  clear h
  refine hK _ _ (.inr (HR0.out _ H.out)) ?_
  clear hK K
  refine ot_end ?_
  go_wp2_with fail
  all_goals
    go_end0
    exact ⟨⟨_, rfl⟩, H.out⟩
end Go.Proofs.YtflkaladkbkbgaaGreat
