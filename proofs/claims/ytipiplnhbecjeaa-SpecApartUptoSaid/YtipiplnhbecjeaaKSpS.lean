/- The library's Clone of steps. -/
import Derived.Test.YtipiplnhbecjeaaKSpM
import Derived.Test.YtipiplnhbecjeaaKPathJ
namespace Go.Proofs.Ytipiplnhbecjeaa
set_option linter.unusedVariables false
set_option linter.unusedSimpArgs false
open Go.RowKit
set_option maxRecDepth 100000
theorem strs_ne_nil (a : Addr) (n c : Nat) (w : World) : (binOp .eql 22 (.slice (some a) n c) (.slice none 0 0)).run Try.prog w = .ok (.bool false) w := by kernel_rfl
set_option maxHeartbeats 2000000 in
theorem cloneS_any (S : Nat → Prop) (A : Option Addr) (c : Nat) (p : List ByteArray) (w : World) (h : StrsAt w S A p) (hS : ∀ b, S b → b < w.heap.size) (hp : 0 < p.length) (hl : p.length ≤ 1000) :
    Calls Try.prog 38 #[.slice A p.length c] w fun e w' => ∃ v, e = .returned v ∧ OwnS w' w.heap.size v p ∧ Below w.heap.size w w' := by
  obtain ⟨b, off, rfl, hb, hc⟩ := h hp
  have hst : StrsAt w S (some ⟨b, off, none⟩) p := fun _ => ⟨b, off, rfl, hb, hc⟩
  have ho0 : (w.alloc (.cells #[] 9)).ownsRow w.heap.size 9 1 (.slice (some ⟨w.heap.size, 0, none⟩) 0 0) 0 [] := by
    exact World.ownsRow_made w #[] 0 (Nat.le_refl _) (by decide) rfl
  have HST := Lib.hid (fun (W : World) (hW : Below w.heap.size w W) => hst.keep (w' := W) fun b hb => hW.block b (hS b hb))
  have HO := Lib.hid ho0
  obtain ⟨n, hn⟩ : ∃ n, n = p.length := ⟨_, rfl⟩
  have HN := Lib.hid hn
  rw [← hn] at hl hp ⊢
  clear hst hc hS ho0 hn h hb
  have he := strs_ne_nil ⟨b, off, none⟩ n c w
  go_enter Try.func38, Try.ntmps38
  go_wp2_with (at_builtin; refine wpList_append_strs rfl _ _ rfl w.heap.size (.slice (some ⟨w.heap.size, 0, none⟩) 0 0) [] rfl HO.out (some ⟨b, off, none⟩) c p S (by rw [← HN.out]; rfl) (fun h => by cases h) (HST.out _ ((Below.refl _ _).alloc (Nat.le_refl _) _)) (by simp) (by rw [← HN.out]; simp; omega) ?_; intro v' w' hv' hg'; have HV := Lib.hid hv'; have HG := Lib.hid hg'; clear hv' hg')
  go_ret
  have hg := HG.out
  have hv := HV.out
  rw [List.nil_append] at hv
  refine ⟨_, rfl, hv, ⟨hg.os, hg.tape, hg.output, by have := hg.size; simp at this; omega, fun k hk => ?_⟩⟩
  exact (hg.block k (by simp; omega) (fun e => by injection e with e; have : k = w.heap.size := e; omega)).trans (((Below.refl _ _).alloc (Nat.le_refl _) _ : Below w.heap.size w (w.alloc (.cells #[] 9))).block k hk)
end Go.Proofs.Ytipiplnhbecjeaa

/- The places of an update, by the program. -/
namespace Go.Proofs.Ytipiplnhbecjeaa
set_option linter.unusedVariables false
set_option linter.unusedSimpArgs false
open Go.RowKit Go.Shelf
attribute [local go_sem] Oper.semAt_some
set_option maxRecDepth 100000
theorem opIn_append_own {F : Fence} {n : Nat} {P : Program} (w : World) {o : Oper} {a : Act} {K : Act → World → Prop} {Q : Exit → Act → World → Prop}
    (s x : Operand) (t : TypeId) (hop : o.op = Op.call { callee := Callee.builtin Builtin.append, args := #[s, x], argTypes := #[t, t] })
    (base : Nat) (e : TypeId) (i : TypeInfo) (z : Value) (size bytes : Nat) (h1 : P.underlying t = some (.slice e)) (h2 : P.info? e = some i) (h3 : i.zero = some z) (h4 : i.size = size) (h5 : i.bytes = bytes) (h6 : z.cells.size = size) (h7 : 0 < size)
    (v : Value) (k : Nat) (xs : List Value) (hs : a.eval s = v) (hown : w.ownsRow base e size v k xs) (ad : Addr) (m c : Nat) (news : List Value) (hx : a.eval x = .slice (some ad) m c) (hn : news.length = m * size)
    (hc : ∀ j u, news[j]? = some u → w.cell? (ad.add j) = some u) (h1c : ∀ u ∈ news, u.oneCell' = true) (b1 : k + m ≤ maxLen) (b2 : (k + m) * bytes ≤ 140737488355328) (b3 : base ≤ w.heap.size)
    (hK : ∀ v' w', w'.ownsRow base e size v' (k + m) (xs ++ news) → w.grownBy w' v.ownBlock → K (a.put o.dst v') w') :
    o.wpIn F n P a w K Q := by
  obtain ⟨v', w', hrun, r1, r2, r3⟩ := run_append_own (P := P) w base t o.type e i z size bytes h1 h2 h3 h4 h5 h6 h7 v k xs hown ad m c news hn hc h1c b1 b2 b3
  unfold Oper.wpIn
  refine ⟨?_, ?_⟩
  · simp [Oper.about, hop, resolve, Target.leads, Sem.run_pure]
  · rw [Oper.semAt_plain F _ _ (by rw [hop]; intro c hc'; cases hc')]
    simp [execOp, hop, resolve, invoke, builtin, hs, hx, hrun, Result.andThen]
    exact hK v' w' r1 r2
def PlcI (w : World) (g : Nat) (l : List OpT) (pre : List (PlX l)) (W : World) : Prop := ∃ A c vs,
  W.heap[g]? = some (.cells #[.slice A pre.length c] 47 (0, 0)) ∧ W.ownsRow (g + 2) 22 1 (.slice A pre.length c) pre.length vs ∧ vs.length = pre.length ∧
  (∀ i (h : i < pre.length) (h' : i < vs.length), OwnS W (g + 2) vs[i] (plT l pre[i].1)) ∧ g + 2 ≤ W.heap.size ∧ Below w.heap.size w W
theorem plcI_own (w : World) (g : Nat) (l : List OpT) (B : Nat) (hB : g + 2 ≤ B) (hg : w.heap.size ≤ g) : OwnFrom B (PlcI w g l) := by
  rintro pre W W' row ⟨A, c, vs, h1, h2, h3, h4, h5, h6⟩ hg hr
  exact ⟨A, c, vs, (grownBy_keeps_cells hg (fun r e => (hr r e).2) h1 rfl).trans h1, ownsRow_grown h2 hg (fun r e => (hr r e).2), h3, fun i h h' => ownsRow_grown (h4 i h h') hg (fun r e => (hr r e).2), Nat.le_trans h5 hg.size, h6.grown hg h6.size (fun k e => Nat.le_trans (by omega) (hr k e).1)⟩
theorem own_string {W : World} {B : Nat} {v : Value} {p : List ByteArray} (h : OwnS W B v p) (hsz : ∀ s ∈ p, s.size ≤ 140737488351232) (hl : p.length ≤ 8796093021952) : SlP W (fun b => b < W.heap.size) v p := by
  obtain ⟨A, c, rfl, hc, hst⟩ := h.opens hsz
  exact ⟨A, c, rfl, hst.imp fun b hb => hb.2, hc, hl⟩
theorem own_move {W W' : World} {B B' : Nat} {v : Value} {p : List ByteArray} (h : OwnS W B v p) (hB : B' ≤ B) (hk : ∀ (k : Nat) (cur : Array Value) (fr : Nat × Nat), W.heap[k]? = some (Obj.cells cur 9 fr) → W'.heap[k]? = some (Obj.cells cur 9 fr)) : OwnS W' B' v p := by
  obtain ⟨h1, h2⟩ := h
  refine ⟨h1, ?_⟩
  rcases h2 with h2 | ⟨g, cap, cur, hv, hg, hh, r⟩
  · exact Or.inl h2
  · exact Or.inr ⟨g, cap, cur, hv, Nat.le_trans hB hg, hk _ _ _ hh, r⟩
/-- One more place: the row longer, its box set. -/
theorem plc_end {w W W2 w4 : World} {g : Nat} {l : List OpT} {pre : List (PlX l)} {x : PlX l} {A A2 A' : Option Addr} {c c2 c' n : Nat} {vs : List Value} (_hn : (plT l x.1).length = n)
    (hi : W.heap[g]? = some (.cells #[.slice A pre.length c] 47 (0, 0)) ∧ W.ownsRow (g + 2) 22 1 (.slice A pre.length c) pre.length vs ∧ vs.length = pre.length ∧ (∀ i (h : i < pre.length) (h' : i < vs.length), OwnS W (g + 2) vs[i] (plT l pre[i].1)) ∧ g + 2 ≤ W.heap.size ∧ Below w.heap.size w W)
    (hj : OwnS W2 W.drew.heap.size (.slice A2 (plT l x.1).length c2) (plT l x.1) ∧ Below W.drew.heap.size W.drew W2 ∧ W2.heap[g]? = some (.cells #[.slice A pre.length c] 47 (0, 0)))
    (ho : w4.ownsRow (g + 2) 22 1 (.slice A' (pre.length + 1) c') (pre.length + 1) (vs ++ [.slice A2 (plT l x.1).length c2]) ∧ (W2.alloc (.cells #[.slice A2 (plT l x.1).length c2] 22)).grownBy w4 (Value.slice A pre.length c).ownBlock ∧ w4.heap[g]? = some (.cells #[.slice A pre.length c] 47 (0, 0)) ∧
      (∀ k, k < W2.heap.size → (∀ g, (Value.slice A pre.length c).ownBlock = some g → k ≠ g) → w4.heap[k]? = W2.heap[k]?) ∧ (∀ k, (Value.slice A pre.length c).ownBlock = some k → g + 2 ≤ k ∧ ∃ cur fr, W2.heap[k]? = some (.cells cur 22 fr)) ∧ W2.heap.size + 1 ≤ w4.heap.size)
    (hwg : w.heap.size ≤ g) (hs2 : W.heap.size ≤ W2.heap.size) :
    KeepsOthers W (w4.setCell ⟨g, 0, none⟩ (.slice A' (pre.length + 1) c')) ∧ KpO (fun b => b = g) (g + 2) W (w4.setCell ⟨g, 0, none⟩ (.slice A' (pre.length + 1) c')) ∧ PlcI w g l (pre ++ [x]) (w4.setCell ⟨g, 0, none⟩ (.slice A' (pre.length + 1) c')) := by
  obtain ⟨i1, i2, i3, i4, i5, i6⟩ := hi
  obtain ⟨j1, j2, j3⟩ := hj
  obtain ⟨o1, o2, o3, o4, o5, o6⟩ := ho
  have hb2 : Below W.heap.size W W2 := ⟨j2.os, j2.tape, j2.output, j2.size, fun k hk => j2.block k hk⟩
  obtain ⟨hbox, hg5, hz5⟩ := one_set o3 (.slice A' (pre.length + 1) c')
  have hal : Below W2.heap.size W2 (W2.alloc (.cells #[.slice A2 (plT l x.1).length c2] 22)) := (Below.refl _ _).alloc (Nat.le_refl _) _
  -- a block of another type than the row's and the box's
  have hty : ∀ (t : TypeId) (k : Nat) (cs : Array Value) (fr : Nat × Nat), t ≠ 22 → t ≠ 47 → W2.heap[k]? = some (.cells cs t fr) → (w4.setCell ⟨g, 0, none⟩ (.slice A' (pre.length + 1) c')).heap[k]? = some (.cells cs t fr) := fun t k cs fr ht1 ht2 hc => by
    have hkl := (Array.getElem?_eq_some_iff.1 hc).1
    refine (hg5.block k (by omega) (fun e => ?_)).trans ((o4 k hkl (fun q hq e => ?_)).trans hc)
    · injection e with e
      subst e
      rw [j3] at hc
      injection hc with hc
      injection hc with _ ht _
      exact ht2 ht.symm
    · subst e
      obtain ⟨-, cur, fr', hc2⟩ := o5 k hq
      rw [hc2] at hc
      injection hc with hc
      injection hc with _ ht _
      exact ht1 ht.symm
  have hlow : ∀ k, k < g + 2 → k ≠ g → (w4.setCell ⟨g, 0, none⟩ (.slice A' (pre.length + 1) c')).heap[k]? = W.heap[k]? := fun k hk hn =>
    (hg5.block k (by omega) (fun e => by injection e; omega)).trans ((o4 k (by omega) (fun q hq e => by have := (o5 q hq).1; omega)).trans (hb2.block k (by omega)))
  have hko : KeepsOthers W W2 := KeepsOthers.of_grownBy (row := none) ⟨hb2.os, hb2.tape, hb2.output, hb2.size, fun k hk _ => hb2.block k hk⟩ (fun j o e => by cases e)
  have hk4 : KeepsOthers W2 w4 := by
    refine KeepsOthers.trans (KeepsOthers.of_grownBy (row := none) ⟨hal.os, hal.tape, hal.output, hal.size, fun k hk _ => hal.block k hk⟩ (fun j o e => by cases e)) (KeepsOthers.of_grownBy o2 fun j o e h => ?_)
    obtain ⟨-, cur, fr, hc⟩ := o5 j e
    have h2 := (hal.block j (Array.getElem?_eq_some_iff.1 hc).1).trans hc
    rw [h2] at h
    injection h with h
    rw [← h]; rfl
  have hk5 : KeepsOthers w4 (w4.setCell ⟨g, 0, none⟩ (.slice A' (pre.length + 1) c')) := KeepsOthers.of_grownBy hg5 fun j o e h => (by injection e with e; subst e; rw [o3] at h; injection h with h; rw [← h]; rfl)
  refine ⟨(hko.trans hk4).trans hk5, ⟨by omega, fun k hk hn => hlow k hk hn, fun k cs fr hc => hty _ k cs fr (by decide) (by decide) ((hb2.block k (Array.getElem?_eq_some_iff.1 hc).1).trans hc)⟩, A', c', vs ++ [.slice A2 (plT l x.1).length c2], ?_, ?_, by simp [i3], fun i h h' => ?_, by omega, ⟨hg5.os.trans (o2.os.trans (hal.os.trans (hb2.os.trans i6.os))), hg5.tape.trans (o2.tape.trans (hal.tape.trans (hb2.tape.trans i6.tape))), hg5.output.trans (o2.output.trans (hal.output.trans (hb2.output.trans i6.output))), by have := i6.size; omega, fun k hk => (hlow k (by omega) (by omega)).trans (i6.block k hk)⟩⟩
  · rw [List.length_append, List.length_singleton]; exact hbox
  · rw [List.length_append, List.length_singleton]
    obtain ⟨q1, q2⟩ := o1
    refine ⟨q1, ?_⟩
    rcases q2 with q2 | ⟨k, cap, cur, hv', hB, hh, rr⟩
    · exact Or.inl q2
    · exact Or.inr ⟨k, cap, cur, hv', hB, (hg5.block k (Array.getElem?_eq_some_iff.1 hh).1 (fun e => by injection e; omega)).trans hh, rr⟩
  · by_cases hi : i < pre.length
    · rw [List.getElem_append_left (by omega), List.getElem_append_left hi]
      exact own_move (i4 i hi (by omega)) (Nat.le_refl _) fun k cur fr hc => hty _ k cur fr (by decide) (by decide) ((hb2.block k (Array.getElem?_eq_some_iff.1 hc).1).trans hc)
    · have he : i = pre.length := by simp at h; omega
      subst he
      rw [List.getElem_append_right (by omega), List.getElem_append_right (by omega)]
      simp only [i3, Nat.sub_self, List.getElem_cons_zero]
      exact own_move j1 (by show g + 2 ≤ W.heap.size; omega) fun k cur fr hc => hty _ k cur fr (by decide) (by decide) hc
set_option maxHeartbeats 16000000 in
theorem spplaces_any (S : Nat → Prop) (s : SpecT) (cs : Array Value) (w : World) (hS : ∀ b, S b → b < w.heap.size) (h : SpecL w S s cs) (hd : SmallS s) (hn : s.ops.length ≤ 1000) :
    Calls Try.prog 17 #[.agg cs] w fun e w' => ∃ A c, e = .returned (.slice A (if s.ops.all mayO then placesL s.ops else []).length c) ∧ PlsAt w' (fun b => b < w'.heap.size) A (if s.ops.all mayO then placesL s.ops else []) ∧ Below w.heap.size w w' := by
  obtain ⟨i0, hi, hz0, hz1, hz2⟩ := info_parts Try.infoStrsR
  obtain ⟨DA, dc, DA', dc', OA, oc, rfl, hv, ho, hoc, hol⟩ := h
  obtain ⟨w1, hw1⟩ : ∃ W, W = w.alloc (.cells #[.bool s.rep, .int .i64 s.doc.kind, .int .i64 s.doc.num, .string s.doc.text, .slice DA s.doc.items.length dc, .slice DA' s.doc.names.length dc', .slice OA s.ops.length oc] 35) := ⟨_, rfl⟩
  have hbk : SBox w1 w.heap.size s DA dc DA' dc' OA oc := by rw [hw1]; exact heap_alloc_new w _
  have hb1 : Below w.heap.size w w1 := by rw [hw1]; exact (Below.refl _ _).alloc (Nat.le_refl _) _
  have hS1 : ∀ b, S b → b < w1.heap.size := fun b hb => Nat.lt_of_lt_of_le (hS b hb) hb1.size
  have HAM := Lib.hid (callsIn_wide (n := 7) |>.2 (allMay_any S OA oc s.ops w1 hS1 (ho.below' hS hb1) (by omega) hd.2))
  obtain ⟨b, off, hbo⟩ := ho.at'
  have HB1 := Lib.hid hb1
  have HBK := Lib.hid hbk
  have HO := Lib.hid ho
  have HS := Lib.hid hS
  have HW1 := Lib.hid hw1
  have HSZ1 : Hid (w.heap.size < w1.heap.size) := Lib.hid (by rw [hw1]; simp)
  obtain ⟨qs, hqs⟩ : ∃ qs, qs = if s.ops.all mayO then placesL s.ops else [] := ⟨_, rfl⟩
  rw [← hqs]
  have HQ := Lib.hid hqs
  clear hbk hb1 hS1 hv ho hoc hol hd hS hqs
  refine (callsIn_wide (n := 8)).1 ?_
  refine callsIn_of_wp_marks Try.func17 rfl trivial ?_ rfl
  simp only [Try.ntmps17, List.size_toArray, List.length_cons, List.length_nil, Nat.reduceAdd, Nat.reduceSub, Array.replicate_succ, Array.replicate_zero, List.push_toArray, List.append_toArray, List.nil_append, List.cons_append]
  gi_wp2
  rw [← hw1]
  clear hw1
  refine ⟨trivial, ?_⟩
  refine HAM.out.mono ?_
  rintro e w2 ⟨rfl, hb2⟩
  have HB2 := Lib.hid (HB1.out.trans (hb2.mono HB1.out.size))
  have HBK2 := Lib.hid (HBK.out.below hb2)
  have HSZ2 : Hid (w.heap.size < w2.heap.size) := Lib.hid (by have := HSZ1.out; have := hb2.size; omega)
  clear hb2 HAM
  cases hm : s.ops.all mayO
  · have hq : qs = [] := by rw [HQ.out, hm]; rfl
    subst hq
    clear hm
    gi_wp2
    refine ⟨_, results_tmp rfl _ _ _, none, 0, rfl, fun h => absurd h (by simp), HB2.out⟩
  · have hq : qs = placesL s.ops := by rw [HQ.out, hm]; rfl
    have HM := Lib.hid hm
    have HQQ := Lib.hid hq
    have hba : Below w2.heap.size w2 (w2.alloc (.cells #[.slice none 0 0] 47)) := (Below.refl _ _).alloc (Nat.le_refl _) _
    have y6 := Go.Joins.cell_of_block (HBK2.out.below hba) 6
    clear hm hq hba
    gi_wp2
    refine ⟨trivial, ?_⟩
    refine (seq_in Fence.wide 7 trivial rfl _ _ _ _).mono ?_
    rintro e w' ⟨rfl, rfl⟩
    gi_wp2
    have hr2 : ((w2.alloc (.cells #[.slice none 0 0] 47)).alloc (.cells #[.slice OA s.ops.length oc] 33)).heap[w2.heap.size]? = some (.cells #[.slice none 0 0] 47 (0, 0)) := (((Below.refl _ _).alloc (Nat.le_refl _) _ : Below (w2.alloc (.cells #[.slice none 0 0] 47)).heap.size _ _).block _ (by simp)).trans (heap_alloc_new w2 _)
    have hb3 : Below w.heap.size w ((w2.alloc (.cells #[.slice none 0 0] 47)).alloc (.cells #[.slice OA s.ops.length oc] 33)) := (HB2.out.alloc HB2.out.size _).alloc (by have := HB2.out.size; simp; omega) _
    have hz3 : ((w2.alloc (.cells #[.slice none 0 0] 47)).alloc (.cells #[.slice OA s.ops.length oc] 33)).heap.size = w2.heap.size + 2 := by simp
    have hs3 : ((w2.alloc (.cells #[.slice none 0 0] 47)).alloc (.cells #[.slice OA s.ops.length oc] 33)).cell? ⟨w2.heap.size + 1, 0, none⟩ = some (.slice OA s.ops.length oc) := by
      have h9 := Go.Joins.cell_of_block (heap_alloc_new (w2.alloc (.cells #[.slice none 0 0] 47)) (.cells #[.slice OA s.ops.length oc] 33)) 0
      rw [show (w2.alloc (.cells #[.slice none 0 0] 47)).heap.size = w2.heap.size + 1 from by simp] at h9
      exact h9
    generalize ((w2.alloc (.cells #[.slice none 0 0] 47)).alloc (.cells #[.slice OA s.ops.length oc] 33)) = w3 at *
    have ho3 : OpsL w3 S OA s.ops := HO.out.below' HS.out hb3
    have HO3 := Lib.hid ho3
    have hsz2 := HSZ2.out
    have h0 : PlcI w w2.heap.size s.ops [] w3 := ⟨none, 0, [], hr2, World.ownsRow_nil _ _ _ _, rfl, fun i h => absurd h (by simp), by omega, hb3⟩
    have HSb : Hid (∀ b, S b → b < w2.heap.size + 2 ∧ ¬ (b = w2.heap.size)) := Lib.hid fun b hb => by have := HS.out b hb; omega
    have HSW : Hid (∀ (W : World), Below w.heap.size w W → ∀ b, S b → W.heap[b]? = w3.heap[b]?) := Lib.hid fun W hW b hb => (hW.block b (HS.out b hb)).trans (hb3.block b (HS.out b hb)).symm
    have HPM : Hid (∀ p ∈ placesL s.ops, mayP p = true) := Lib.hid (all_places HM.out)
    clear hr2 hb3 y6
    refine wpIn_rangeFunc_ownF rfl (by omega) (gf := 62) (lb := #[.pointer (some ⟨w2.heap.size + 1, 0, none⟩)]) rfl trivial (enters_of Try.func62 (by kernel_rfl) rfl)
      (places_stops Fence.wide 7 trivial rfl (by omega) (w2.heap.size + 1) (w2.heap.size + 2) (fun b => b = w2.heap.size) S OA oc s.ops b off hbo (by omega) ⟨by omega, by omega⟩ HSb.out w3 (by omega) hs3 ho3) KpO.trans (kpO_b (by omega)) (Below.refl _ _) (fun _ => rfl)
      (PlcI w w2.heap.size s.ops) (fun _ _ _ => False) (plcI_own w _ s.ops _ (by omega) (by omega)) (fun _ _ _ _ _ hs _ _ => hs) h0
      (fun q => { tmps := #[.agg #[.bool s.rep, .int .i64 s.doc.kind, .int .i64 s.doc.num, .string s.doc.text, .slice DA s.doc.items.length dc, .slice DA' s.doc.names.length dc', .slice OA s.ops.length oc], .pointer (some ⟨w.heap.size, 0, none⟩), .slice none 0 0, .pointer (some ⟨w2.heap.size, 0, none⟩), plV w3 b off q.1, .pointer (some ⟨w.heap.size, 6, none⟩), .slice OA s.ops.length oc, .bool true, .bool false, .pointer (some ⟨w.heap.size, 6, none⟩), .slice OA s.ops.length oc, .func (.func 62) #[] #[.pointer (some ⟨w2.heap.size + 1, 0, none⟩)], plV w3 b off q.1, undef, undef, undef, undef, undef, undef], defers := [] }) ?assign ?body ?done ?stop
    case assign =>
      intro l q W K hK
      gi_wp2
      exact hK
    case body =>
      rintro y pre x W ⟨A, c, vs, i1, i2, i3, i4, i5, i6⟩ hlen
      have hlt := seqX_lt s.ops x.2
      obtain rfl := hbo (by omega)
      obtain ⟨PA, pc, hv, hst, hpc, hpl⟩ := plV_is HO3.out x.1 hlt
      have hmay := HPM.out _ (mem_places x.2)
      have hst2 : StrsAt W.drew S PA (plT s.ops x.1) := hst.keep fun k hk => HSW.out W i6 k hk
      have h8 : (plT s.ops x.1).length ≤ 8 := ((mayP_iff _).1 hmay).2.1
      have HC := Lib.hid (cloneS_any S PA pc (plT s.ops x.1) W.drew hst2 (fun k hk => by have := HS.out k hk; have := i6.size; show k < W.heap.size; omega) (mayP_pos hmay) (by omega))
      have HI := Lib.hid (And.intro i1 (And.intro i2 (And.intro i3 (And.intro i4 (And.intro i5 i6)))))
      have hplen : pre.length ≤ 2000 := by omega
      obtain ⟨n, hn'⟩ : ∃ n, n = (plT s.ops x.1).length := ⟨_, rfl⟩
      rw [hv]
      rw [← hn'] at HC ⊢
      have HN := Lib.hid hn'
      have y1 : W.drew.cell? ⟨w2.heap.size, 0, none⟩ = some (.slice A pre.length c) := Go.Joins.cell_of_block i1 0
      clear hv hst hpc hpl hst2 i1 i2 i3 i4 i6 hn' h8 hmay
      have hd : 1 ≤ 8 - 1 - 1 := by omega
      have hmx : Try.prog.follows .mixedOrders = true := by kernel_rfl
      gi_wp2
      refine wpIn_region_any hmx ?_
      try (change wpAnyIn _ _ _ _ _ _ _ _ _ (World.drew _))
      refine wpAnyIn_ready (rs := [0, 1]) (by kernel_rfl) (by simp) ?_
      refine AllReadyIn.cons rfl (fun K hK => ?_) ?_
      · go_simp
        refine hK _ _ ?_
        clear hK K
        refine wpAnyIn_ready (rs := [1]) (by kernel_rfl) (by simp) ?_
        refine AllReadyIn.cons rfl (fun K hK => ?_) ?_
        · go_simp
          refine hK _ _ ?_
          clear hK K
          refine wpAnyIn_ready (rs := [2]) (by kernel_rfl) (by simp) ?_
          refine AllReadyIn.cons rfl (fun K hK => ?_) ?_
          · go_simp
            refine ⟨trivial, ?_⟩
            refine (CallsIn.inRound y (callsIn_wide.2 HC.out)).mono ?_
            rintro e W2 ⟨v, rfl, hv2, hb2⟩
            obtain ⟨A2, c2, rfl⟩ := own_shape hv2
            refine hK _ _ ?_
            clear hK K y1
            have j1 := (hb2.block _ (by have := HI.out.2.2.2.2.1; simp; omega)).trans HI.out.1
            have y1 := Go.Joins.cell_of_block j1 0
            have HJ := Lib.hid (And.intro hv2 (And.intro hb2 j1))
            clear hv2 hb2 j1
            refine wpAnyIn_ready (rs := [3]) (by kernel_rfl) (by simp) ?_
            refine AllReadyIn.cons rfl (fun K hK => ?_) ?_
            · go_simp
              refine hK _ _ ?_
              clear hK K
              have hal : Below W2.heap.size W2 (W2.alloc (.cells #[.slice A2 (plT s.ops x.1).length c2] 22)) := (Below.refl _ _).alloc (Nat.le_refl _) _
              clear y1
              have y1 := Go.Joins.cell_of_block ((hal.block _ (Array.getElem?_eq_some_iff.1 HJ.out.2.2).1).trans HJ.out.2.2) 0
              clear hal
              refine wpAnyIn_ready (rs := [4]) (by kernel_rfl) (by simp) ?_
              refine AllReadyIn.cons rfl (fun K hK => ?_) ?_
              · rw [if_pos (by kernel_rfl)]
                have hal : Below W2.heap.size W2 (W2.alloc (.cells #[.slice A2 (plT s.ops x.1).length c2] 22)) := (Below.refl _ _).alloc (Nat.le_refl _) _
                have hrW : W2.ownsRow (w2.heap.size + 2) 22 1 (.slice A pre.length c) pre.length vs := ownsRow_grown (W := W.drew) (row := none) HI.out.2.1 ⟨HJ.out.2.1.os, HJ.out.2.1.tape, HJ.out.2.1.output, HJ.out.2.1.size, fun k hk _ => HJ.out.2.1.block k hk⟩ (fun r e => by cases e)
                have hs2 : W.heap.size ≤ W2.heap.size := HJ.out.2.1.size
                refine opIn_append_own _ _ _ 47 rfl (w2.heap.size + 2) 22 i0 (.slice none 0 0) 1 24 Try.underlying47 hi hz0 hz1 hz2 rfl (by decide) _ pre.length vs rfl (ownsRow_grown hrW (World.grownBy_alloc W2 _ none) (fun r e => by cases e)) ⟨W2.heap.size, 0, none⟩ 1 1 [.slice A2 (plT s.ops x.1).length c2] rfl rfl (cell_one_new _ _ _) (by simp [Value.oneCell']) (by unfold maxLen; omega) (by omega) (by simp; omega) ?_
                intro v' w4 hown' hg4
                obtain ⟨A', c', rfl⟩ := own_shape hown'
                refine hK _ _ ?_
                clear hK K y1
                have hrt := row_type hrW
                have hgb : ∀ k, k < W2.heap.size → (∀ g, (Value.slice A pre.length c).ownBlock = some g → k ≠ g) → w4.heap[k]? = W2.heap[k]? := fun k hk hn => (hg4.block k (by simp; omega) (fun e => hn k e.symm rfl)).trans (hal.block k hk)
                have k2 : w4.heap[w2.heap.size]? = some (.cells #[.slice A pre.length c] 47 (0, 0)) := (hgb _ (by omega) (fun g hg e => by have := (hrt g hg).1; omega)).trans HJ.out.2.2
                have k2c := Go.Joins.cell_of_block k2 0
                have k2f := fun i => Go.Joins.unfrozen_of_block k2 i
                have hs4 : W2.heap.size + 1 ≤ w4.heap.size := by have := hg4.size; simpa using this
                have HOW := Lib.hid (And.intro hown' (And.intro hg4 (And.intro k2 (And.intro hgb (And.intro hrt hs4)))))
                clear hown' hg4 k2 hgb hrt hrW
                refine wpAnyIn_ready (rs := [5]) (by kernel_rfl) (by simp) ?_
                refine AllReadyIn.cons rfl (fun K hK => ?_) AllReadyIn.nil
                go_simp
                refine hK _ _ ?_
                clear hK K
                refine wpAnyIn_done (by kernel_rfl) ?_ _
                exact plc_end HN.out.symm HI.out HJ.out HOW.out (by omega) hs2
              exact AllReadyIn.nil
            exact AllReadyIn.nil
          exact AllReadyIn.nil
        exact AllReadyIn.nil
      refine AllReadyIn.cons rfl (fun K hK => ?_) ?_
      · go_simp
        refine hK _ _ ?_
        clear hK K
        refine wpAnyIn_ready (rs := [0, 2]) (by kernel_rfl) (by simp) ?_
        refine AllReadyIn.cons rfl (fun K hK => ?_) ?_
        · go_simp
          refine hK _ _ ?_
          clear hK K
          refine wpAnyIn_ready (rs := [2]) (by kernel_rfl) (by simp) ?_
          refine AllReadyIn.cons rfl (fun K hK => ?_) ?_
          · go_simp
            refine ⟨trivial, ?_⟩
            refine (CallsIn.inRound y (callsIn_wide.2 HC.out)).mono ?_
            rintro e W2 ⟨v, rfl, hv2, hb2⟩
            obtain ⟨A2, c2, rfl⟩ := own_shape hv2
            refine hK _ _ ?_
            clear hK K y1
            have j1 := (hb2.block _ (by have := HI.out.2.2.2.2.1; simp; omega)).trans HI.out.1
            have y1 := Go.Joins.cell_of_block j1 0
            have HJ := Lib.hid (And.intro hv2 (And.intro hb2 j1))
            clear hv2 hb2 j1
            refine wpAnyIn_ready (rs := [3]) (by kernel_rfl) (by simp) ?_
            refine AllReadyIn.cons rfl (fun K hK => ?_) ?_
            · go_simp
              refine hK _ _ ?_
              clear hK K
              have hal : Below W2.heap.size W2 (W2.alloc (.cells #[.slice A2 (plT s.ops x.1).length c2] 22)) := (Below.refl _ _).alloc (Nat.le_refl _) _
              clear y1
              have y1 := Go.Joins.cell_of_block ((hal.block _ (Array.getElem?_eq_some_iff.1 HJ.out.2.2).1).trans HJ.out.2.2) 0
              clear hal
              refine wpAnyIn_ready (rs := [4]) (by kernel_rfl) (by simp) ?_
              refine AllReadyIn.cons rfl (fun K hK => ?_) ?_
              · rw [if_pos (by kernel_rfl)]
                have hal : Below W2.heap.size W2 (W2.alloc (.cells #[.slice A2 (plT s.ops x.1).length c2] 22)) := (Below.refl _ _).alloc (Nat.le_refl _) _
                have hrW : W2.ownsRow (w2.heap.size + 2) 22 1 (.slice A pre.length c) pre.length vs := ownsRow_grown (W := W.drew) (row := none) HI.out.2.1 ⟨HJ.out.2.1.os, HJ.out.2.1.tape, HJ.out.2.1.output, HJ.out.2.1.size, fun k hk _ => HJ.out.2.1.block k hk⟩ (fun r e => by cases e)
                have hs2 : W.heap.size ≤ W2.heap.size := HJ.out.2.1.size
                refine opIn_append_own _ _ _ 47 rfl (w2.heap.size + 2) 22 i0 (.slice none 0 0) 1 24 Try.underlying47 hi hz0 hz1 hz2 rfl (by decide) _ pre.length vs rfl (ownsRow_grown hrW (World.grownBy_alloc W2 _ none) (fun r e => by cases e)) ⟨W2.heap.size, 0, none⟩ 1 1 [.slice A2 (plT s.ops x.1).length c2] rfl rfl (cell_one_new _ _ _) (by simp [Value.oneCell']) (by unfold maxLen; omega) (by omega) (by simp; omega) ?_
                intro v' w4 hown' hg4
                obtain ⟨A', c', rfl⟩ := own_shape hown'
                refine hK _ _ ?_
                clear hK K y1
                have hrt := row_type hrW
                have hgb : ∀ k, k < W2.heap.size → (∀ g, (Value.slice A pre.length c).ownBlock = some g → k ≠ g) → w4.heap[k]? = W2.heap[k]? := fun k hk hn => (hg4.block k (by simp; omega) (fun e => hn k e.symm rfl)).trans (hal.block k hk)
                have k2 : w4.heap[w2.heap.size]? = some (.cells #[.slice A pre.length c] 47 (0, 0)) := (hgb _ (by omega) (fun g hg e => by have := (hrt g hg).1; omega)).trans HJ.out.2.2
                have k2c := Go.Joins.cell_of_block k2 0
                have k2f := fun i => Go.Joins.unfrozen_of_block k2 i
                have hs4 : W2.heap.size + 1 ≤ w4.heap.size := by have := hg4.size; simpa using this
                have HOW := Lib.hid (And.intro hown' (And.intro hg4 (And.intro k2 (And.intro hgb (And.intro hrt hs4)))))
                clear hown' hg4 k2 hgb hrt hrW
                refine wpAnyIn_ready (rs := [5]) (by kernel_rfl) (by simp) ?_
                refine AllReadyIn.cons rfl (fun K hK => ?_) AllReadyIn.nil
                go_simp
                refine hK _ _ ?_
                clear hK K
                refine wpAnyIn_done (by kernel_rfl) ?_ _
                exact plc_end HN.out.symm HI.out HJ.out HOW.out (by omega) hs2
              exact AllReadyIn.nil
            exact AllReadyIn.nil
          exact AllReadyIn.nil
        refine AllReadyIn.cons rfl (fun K hK => ?_) ?_
        · go_simp
          refine ⟨trivial, ?_⟩
          refine (CallsIn.inRound y (callsIn_wide.2 HC.out)).mono ?_
          rintro e W2 ⟨v, rfl, hv2, hb2⟩
          obtain ⟨A2, c2, rfl⟩ := own_shape hv2
          refine hK _ _ ?_
          clear hK K y1
          have j1 := (hb2.block _ (by have := HI.out.2.2.2.2.1; simp; omega)).trans HI.out.1
          have y1 := Go.Joins.cell_of_block j1 0
          have HJ := Lib.hid (And.intro hv2 (And.intro hb2 j1))
          clear hv2 hb2 j1
          refine wpAnyIn_ready (rs := [0, 3]) (by kernel_rfl) (by simp) ?_
          refine AllReadyIn.cons rfl (fun K hK => ?_) ?_
          · go_simp
            refine hK _ _ ?_
            clear hK K
            refine wpAnyIn_ready (rs := [3]) (by kernel_rfl) (by simp) ?_
            refine AllReadyIn.cons rfl (fun K hK => ?_) ?_
            · go_simp
              refine hK _ _ ?_
              clear hK K
              have hal : Below W2.heap.size W2 (W2.alloc (.cells #[.slice A2 (plT s.ops x.1).length c2] 22)) := (Below.refl _ _).alloc (Nat.le_refl _) _
              clear y1
              have y1 := Go.Joins.cell_of_block ((hal.block _ (Array.getElem?_eq_some_iff.1 HJ.out.2.2).1).trans HJ.out.2.2) 0
              clear hal
              refine wpAnyIn_ready (rs := [4]) (by kernel_rfl) (by simp) ?_
              refine AllReadyIn.cons rfl (fun K hK => ?_) ?_
              · rw [if_pos (by kernel_rfl)]
                have hal : Below W2.heap.size W2 (W2.alloc (.cells #[.slice A2 (plT s.ops x.1).length c2] 22)) := (Below.refl _ _).alloc (Nat.le_refl _) _
                have hrW : W2.ownsRow (w2.heap.size + 2) 22 1 (.slice A pre.length c) pre.length vs := ownsRow_grown (W := W.drew) (row := none) HI.out.2.1 ⟨HJ.out.2.1.os, HJ.out.2.1.tape, HJ.out.2.1.output, HJ.out.2.1.size, fun k hk _ => HJ.out.2.1.block k hk⟩ (fun r e => by cases e)
                have hs2 : W.heap.size ≤ W2.heap.size := HJ.out.2.1.size
                refine opIn_append_own _ _ _ 47 rfl (w2.heap.size + 2) 22 i0 (.slice none 0 0) 1 24 Try.underlying47 hi hz0 hz1 hz2 rfl (by decide) _ pre.length vs rfl (ownsRow_grown hrW (World.grownBy_alloc W2 _ none) (fun r e => by cases e)) ⟨W2.heap.size, 0, none⟩ 1 1 [.slice A2 (plT s.ops x.1).length c2] rfl rfl (cell_one_new _ _ _) (by simp [Value.oneCell']) (by unfold maxLen; omega) (by omega) (by simp; omega) ?_
                intro v' w4 hown' hg4
                obtain ⟨A', c', rfl⟩ := own_shape hown'
                refine hK _ _ ?_
                clear hK K y1
                have hrt := row_type hrW
                have hgb : ∀ k, k < W2.heap.size → (∀ g, (Value.slice A pre.length c).ownBlock = some g → k ≠ g) → w4.heap[k]? = W2.heap[k]? := fun k hk hn => (hg4.block k (by simp; omega) (fun e => hn k e.symm rfl)).trans (hal.block k hk)
                have k2 : w4.heap[w2.heap.size]? = some (.cells #[.slice A pre.length c] 47 (0, 0)) := (hgb _ (by omega) (fun g hg e => by have := (hrt g hg).1; omega)).trans HJ.out.2.2
                have k2c := Go.Joins.cell_of_block k2 0
                have k2f := fun i => Go.Joins.unfrozen_of_block k2 i
                have hs4 : W2.heap.size + 1 ≤ w4.heap.size := by have := hg4.size; simpa using this
                have HOW := Lib.hid (And.intro hown' (And.intro hg4 (And.intro k2 (And.intro hgb (And.intro hrt hs4)))))
                clear hown' hg4 k2 hgb hrt hrW
                refine wpAnyIn_ready (rs := [5]) (by kernel_rfl) (by simp) ?_
                refine AllReadyIn.cons rfl (fun K hK => ?_) AllReadyIn.nil
                go_simp
                refine hK _ _ ?_
                clear hK K
                refine wpAnyIn_done (by kernel_rfl) ?_ _
                exact plc_end HN.out.symm HI.out HJ.out HOW.out (by omega) hs2
              exact AllReadyIn.nil
            exact AllReadyIn.nil
          refine AllReadyIn.cons rfl (fun K hK => ?_) ?_
          · go_simp
            refine hK _ _ ?_
            clear hK K
            have hal : Below W2.heap.size W2 (W2.alloc (.cells #[.slice A2 (plT s.ops x.1).length c2] 22)) := (Below.refl _ _).alloc (Nat.le_refl _) _
            clear y1
            have y1 := Go.Joins.cell_of_block ((hal.block _ (Array.getElem?_eq_some_iff.1 HJ.out.2.2).1).trans HJ.out.2.2) 0
            clear hal
            refine wpAnyIn_ready (rs := [0]) (by kernel_rfl) (by simp) ?_
            refine AllReadyIn.cons rfl (fun K hK => ?_) ?_
            · go_simp
              refine hK _ _ ?_
              clear hK K
              refine wpAnyIn_ready (rs := [4]) (by kernel_rfl) (by simp) ?_
              refine AllReadyIn.cons rfl (fun K hK => ?_) ?_
              · rw [if_pos (by kernel_rfl)]
                have hal : Below W2.heap.size W2 (W2.alloc (.cells #[.slice A2 (plT s.ops x.1).length c2] 22)) := (Below.refl _ _).alloc (Nat.le_refl _) _
                have hrW : W2.ownsRow (w2.heap.size + 2) 22 1 (.slice A pre.length c) pre.length vs := ownsRow_grown (W := W.drew) (row := none) HI.out.2.1 ⟨HJ.out.2.1.os, HJ.out.2.1.tape, HJ.out.2.1.output, HJ.out.2.1.size, fun k hk _ => HJ.out.2.1.block k hk⟩ (fun r e => by cases e)
                have hs2 : W.heap.size ≤ W2.heap.size := HJ.out.2.1.size
                refine opIn_append_own _ _ _ 47 rfl (w2.heap.size + 2) 22 i0 (.slice none 0 0) 1 24 Try.underlying47 hi hz0 hz1 hz2 rfl (by decide) _ pre.length vs rfl (ownsRow_grown hrW (World.grownBy_alloc W2 _ none) (fun r e => by cases e)) ⟨W2.heap.size, 0, none⟩ 1 1 [.slice A2 (plT s.ops x.1).length c2] rfl rfl (cell_one_new _ _ _) (by simp [Value.oneCell']) (by unfold maxLen; omega) (by omega) (by simp; omega) ?_
                intro v' w4 hown' hg4
                obtain ⟨A', c', rfl⟩ := own_shape hown'
                refine hK _ _ ?_
                clear hK K y1
                have hrt := row_type hrW
                have hgb : ∀ k, k < W2.heap.size → (∀ g, (Value.slice A pre.length c).ownBlock = some g → k ≠ g) → w4.heap[k]? = W2.heap[k]? := fun k hk hn => (hg4.block k (by simp; omega) (fun e => hn k e.symm rfl)).trans (hal.block k hk)
                have k2 : w4.heap[w2.heap.size]? = some (.cells #[.slice A pre.length c] 47 (0, 0)) := (hgb _ (by omega) (fun g hg e => by have := (hrt g hg).1; omega)).trans HJ.out.2.2
                have k2c := Go.Joins.cell_of_block k2 0
                have k2f := fun i => Go.Joins.unfrozen_of_block k2 i
                have hs4 : W2.heap.size + 1 ≤ w4.heap.size := by have := hg4.size; simpa using this
                have HOW := Lib.hid (And.intro hown' (And.intro hg4 (And.intro k2 (And.intro hgb (And.intro hrt hs4)))))
                clear hown' hg4 k2 hgb hrt hrW
                refine wpAnyIn_ready (rs := [5]) (by kernel_rfl) (by simp) ?_
                refine AllReadyIn.cons rfl (fun K hK => ?_) AllReadyIn.nil
                go_simp
                refine hK _ _ ?_
                clear hK K
                refine wpAnyIn_done (by kernel_rfl) ?_ _
                exact plc_end HN.out.symm HI.out HJ.out HOW.out (by omega) hs2
              exact AllReadyIn.nil
            exact AllReadyIn.nil
          exact AllReadyIn.nil
        exact AllReadyIn.nil
      exact AllReadyIn.nil
    case done =>
      rintro D ys W hD hys ⟨A, c, vs, i1, i2, i3, i4, i5, i6⟩ hK
      have hqs : qs = ys.map fun x => plT s.ops x.1 := by
        have h1 : placesL s.ops = (preX ys).map (plT s.ops) := (seqX_all s.ops).symm.trans (congrArg (List.map (plT s.ops)) hys.symm)
        rw [HQQ.out, h1]
        simp [preX]
      have hql : qs.length = ys.length := by rw [hqs, List.length_map]
      have y0 := Go.Joins.cell_of_block i1 0
      have HV := Lib.hid (And.intro i1 (And.intro i2 (And.intro i3 (And.intro i4 (And.intro i5 i6)))))
      have HKD := Lib.hid hK
      have HQL := Lib.hid (And.intro hqs hql)
      clear i1 i2 i3 i4 i5 i6 hK hys hqs hql
      gi_wp2
      obtain ⟨i1, i2, i3, i4, i5, i6⟩ := HV.out
      have hDW : D < W.heap.size := (Array.getElem?_eq_some_iff.1 HKD.out).1
      have hg6 := grownBy_putObj' W D (.deferred none)
      have hnc : ∀ r, (some D : Option Nat) = some r → ∃ o : Obj, W.heap[r]? = some o ∧ o.isCells = false := fun r e => by injection e with e; subst e; exact ⟨_, HKD.out, rfl⟩
      refine ⟨by simp, .inl ⟨_, _, rfl, run_takeDeferred HKD.out, ?_⟩⟩
      refine ⟨_, results_tmp rfl _ _ _, A, c, by rw [HQL.out.2]; rfl, ?_, ⟨hg6.os.trans i6.os, hg6.tape.trans i6.tape, hg6.output.trans i6.output, by have := hg6.size; omega, fun b hb => (hg6.block b (by omega) (fun e => by injection e; omega)).trans (i6.block b hb)⟩⟩
      refine row_pls (B := w2.heap.size + 2) (c := c) (vs := vs) (by rw [HQL.out.2]; exact ownsRow_grown i2 hg6 hnc) fun i hi => ?_
      have hi' : i < ys.length := by rw [← HQL.out.2]; exact hi
      refine ⟨vs[i]'(by omega), List.getElem?_eq_getElem (by omega), ?_⟩
      have hp : qs[i] = plT s.ops ys[i].1 := by simp only [HQL.out.1, List.getElem_map]
      rw [hp]
      have hmay := HPM.out _ (mem_places ys[i].2)
      exact own_string (ownsRow_grown (i4 i hi' (by omega)) hg6 hnc) (mayP_size hmay) (by have := ((mayP_iff _).1 hmay).2.1; omega)
    case stop =>
      rintro D c' pre W _ _ h _
      exact h.elim
end Go.Proofs.Ytipiplnhbecjeaa
