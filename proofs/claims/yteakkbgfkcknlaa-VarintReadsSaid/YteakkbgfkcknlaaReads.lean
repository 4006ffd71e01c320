/- Any bytes, read in any way, are read as the document's words say; for any bytes and any list of calls. No conditions. -/
import Derived.Test.YteakkbgfkcknlaaRefD
import Derived.Test.YteakkbgfkcknlaaReg
import Derived.Laws.AppendOwnNone
import Derived.SizedLaws
import Derived.ProofKit
import Derived.OpenShut
import Derived.ShutString
import Derived.ChangeOld
import Derived.Below
namespace Go.Proofs.Yteakkbgfkcknlaa.Reads
open Go.ChangeShapes Go.WideShapes Go.ChangeAt Go.RowKit Go.Joins
set_option linter.unusedVariables false

theorem own : ownKnob Try.prog.godebug = none := by kernel_rfl
theorem laidOut : laidOutB Try.prog = true := by kernel_rfl

/-- The list of calls that came in. -/
def OpsAt (w : World) (B : Nat) (A : Option Addr) (n : Nat) (K N : Nat → Int) : Prop :=
  0 < n → ∃ b off, A = some ⟨b, off, none⟩ ∧ b < B ∧ ∀ i, i < n → w.cell? ⟨b, off + i * 2, none⟩ = some (.int .i64 (K i)) ∧ w.cell? ⟨b, off + i * 2 + 1, none⟩ = some (.int .i64 (N i)) ∧ N i ≤ 9223372036854775807

theorem RS.badCell {w : World} {g B : Nat} {st : Option (List UInt8)} (h : RS w g B st) : w.cell? ⟨g, 1, none⟩ = some (.bool st.isNone) := by
  rcases st with _ | l
  · obtain ⟨_, _, _, hu⟩ := h; exact (rcells hu).c1
  · obtain ⟨_, hu, _⟩ := h; exact (rcells hu).c1
theorem RS.form {w : World} {g B : Nat} {st : Option (List UInt8)} (h : RS w g B st) : ∃ A n c b, w.heap[g]? = some (.cells #[.slice A n c, .bool b] 35 (0, 0)) := by
  rcases st with _ | l
  · obtain ⟨A, n, c, hu⟩ := h; exact ⟨_, _, _, _, hu⟩
  · obtain ⟨v, hv, A, c, rfl, _⟩ := h; exact ⟨_, _, _, _, hv⟩
theorem SrcL.form {w : World} {g : Nat} {st : Option (List UInt8)} (h : SrcL w g st) : ∃ s b, Src w g s b := by
  rcases st with _ | l
  · exact ⟨_, _, h⟩
  · exact ⟨_, _, h.1⟩
theorem sleft_st (g : Nat) (st : Option (List UInt8)) (w : World) (h : SrcL w g st) : Calls Try.prog 30 #[.pointer (some ⟨g, 0, none⟩)] w fun e w' => e = .returned (.int .i64 (leftOf st)) ∧ w = w' := by
  rcases st with _ | l
  · exact sleft_none g w h
  · exact sleft_any g l w h
theorem sdone_st (g : Nat) (st : Option (List UInt8)) (w : World) (h : SrcL w g st) : Calls Try.prog 33 #[.pointer (some ⟨g, 0, none⟩)] w fun e w' => e = .returned (.int .i64 (doneOf st)) ∧ w = w' := by
  rcases st with _ | l
  · exact sdone_none g w h
  · exact sdone_any g l w h

/-- The state behind a call on each of the two sources. -/
theorem next1 {w W W1 : World} {g1 g2 B : Nat} {st : Option (List UInt8)} (hR : RS W g2 B st) (hb : Below B w W) (h1 : B ≤ g1) (hne : g1 ≠ g2) (hB : B ≤ W.heap.size) (ho : Only W W1 g1) : RS W1 g2 B st ∧ Below B w W1 := by
  have hb1 : Below B W W1 := ho.below hB h1
  exact ⟨hR.keep (ho.block g2 hR.lt (by rintro ⟨⟩; exact hne rfl)) hb1, hb.trans hb1⟩
theorem next2 {w W W1 : World} {g1 g2 B : Nat} {st : Option (List UInt8)} (hS : SrcL W g1 st) (hb : Below B w W) (h2 : B ≤ g2) (hne : g1 ≠ g2) (hB : B ≤ W.heap.size) (ho : Only W W1 g2) : SrcL W1 g1 st ∧ Below B w W1 := by
  have hb1 : Below B W W1 := ho.below hB h2
  exact ⟨hS.of (ho.block g1 hS.lt (by rintro ⟨⟩; exact hne rfl)), hb.trans hb1⟩

/-- An append, to an empty row of the call's own, of bytes that came in, nil or not. -/
theorem wpList_append_rd {w : World} {ops : Array Oper} {rest : List Oper} {o : Oper} {a : Act} {Q : Exit → Act → World → Prop} (hgd : o.guard = none) (s x : Operand)
    (ho : o.op = .call { callee := .builtin .append, args := #[s, x], argTypes := #[22, 22] }) (base B : Nat) (v : Value) (hs : a.eval s = v) (hown : w.ownsRow base 5 1 v 0 (bcells [])) (A : Option Addr) (c : Nat) (l : List UInt8)
    (hx : a.eval x = .slice A l.length c) (hrd : Rd w B (.slice A l.length c) l) (hlen : l.length ≤ 140737488351232) (hbase : base ≤ w.heap.size)
    (h : ∀ v' w', OwnB w' base v' l → w.grownBy w' v.ownBlock → wpList Try.prog ops Q rest (a.put o.dst v') w') : wpList Try.prog ops Q (o :: rest) a w := by
  obtain ⟨i0, hi, hz0, hz1, hz2⟩ := info_parts Try.infoU8
  obtain ⟨A', c', hv, _, ⟨_, hnil⟩, h1⟩ := hrd
  injection hv with hA _ hc
  subst hA; subst hc
  rcases A with _ | ad
  · have hl0 : l = [] := by
      rcases l with _ | ⟨b, r⟩
      · rfl
      · obtain ⟨_, _, hA, _⟩ := h1 (by simp); cases hA
    have hc0 := hnil rfl
    subst hl0; subst hc0
    exact wpList_append_own_none hgd s x 22 ho base 5 i0 1 Try.underlying22 hi v 0 _ hs hown hx (h v w hown (World.grownBy.refl w _))
  · refine wpList_append_own w hgd s x 22 ho base 5 i0 (.int .u8 0) 1 1 Try.underlying22 hi hz0 hz1 hz2 rfl (by decide) v 0 _ hs hown ad l.length c (bcells l) hx (by simp [bcells]) ?_ (bcells_oneCell _) (by unfold maxLen; omega) (by omega) hbase ?_
    · intro j u hj
      have hjl : j < l.length := by have := (List.getElem?_eq_some_iff.1 hj).1; simpa [bcells] using this
      obtain ⟨b, off, hA, _, hcell⟩ := h1 (by omega)
      injection hA with hA
      subst hA
      have e : ((⟨b, off, none⟩ : Addr).add j) = ⟨b, off + j, none⟩ := by unfold Addr.add; split <;> simp_all
      rw [e, hcell j hjl]
      simpa [bcells, List.getElem?_map, List.getElem?_eq_getElem hjl] using hj
    · intro v' w' hown' hg _
      exact h v' w' (by simpa [OwnB, bcells] using hown') hg

set_option maxHeartbeats 4000000 in
set_option maxRecDepth 1000000 in
theorem walk (Ab : Option Addr) (cb : Nat) (l : List UInt8) (Ao : Option Addr) (n co : Nat) (K N : Nat → Int) (w : World) (hl : l.length ≤ 140737488351232) (hn : n ≤ 9223372036854775807)
    (hrd : Rd w w.heap.size (.slice Ab l.length cb) l) (hops : OpsAt w w.heap.size Ao n K N) :
    Calls Try.prog 4 #[.slice Ab l.length cb, .slice Ao n co] w fun e w' => e = .returned (.bool true) ∧ Below w.heap.size w w' := by
  obtain ⟨i0, hi, hz0, hz1, hz2⟩ := info_parts Try.infoU8
  have HL := Lib.hid hl
  have HN := Lib.hid hn
  have HRD := Lib.hid hrd
  have HOPS := Lib.hid hops
  have hE : OwnB (w.alloc (.cells #[] 5)) w.heap.size (.slice (some ⟨w.heap.size, 0, none⟩) 0 0) [] := World.ownsRow_lit w #[] 0 (Nat.le_refl _) (by decide) rfl
  have hb0 : Below w.heap.size w (w.alloc (.cells #[] 5)) := (Below.refl _ _).alloc (Nat.le_refl _) _
  have HE : Hid ((w.alloc (.cells #[] 5)).ownsRow w.heap.size 5 1 (.slice (some ⟨w.heap.size, 0, none⟩) 0 0) 0 (bcells [])) := hE
  have HB0 := Lib.hid hb0
  clear hl hn hrd hops hE hb0
  -- the bytes, copied
  go_enter Try.func4, Try.ntmps4
  go_wp2_with (at_builtin; go_must (refine wpList_append_rd rfl _ _ rfl w.heap.size w.heap.size _ rfl HE.out Ab cb l rfl (HRD.out.keep HB0.out) HL.out HB0.out.size ?_))
  intro v1 w1 hown1 hg1
  have hb1 : Below w.heap.size w w1 := HB0.out.grown hg1 HB0.out.size (fun kk hk => (World.ownsRow.lt HE.out kk hk).1)
  have HC := Lib.hid hown1.conv
  have HB1 := Lib.hid hb1
  clear hown1 hg1 hb1 HE HB0
  go_wp2_with fail
  refine (from_any _ _ _ HC.out).mono ?_
  rintro e w2 ⟨rfl, hs, hb⟩
  have hb2 := grow_trans HB1.out hb
  have hS0 : SrcL w2 w1.heap.size (some l) := SrcL.mk hs (by have := HL.out; omega)
  have hB2sz := hb2.size
  have hB1sz := HB1.out.size
  have hlt2 : w1.heap.size < w2.heap.size := hs.lt
  -- the document's source is laid
  have hw3 : Below w.heap.size w (w2.alloc (.cells #[.slice Ab l.length cb, .bool false] 35)) := hb2.alloc hB2sz _
  have hR3 : RS (w2.alloc (.cells #[.slice Ab l.length cb, .bool false] 35)) w2.heap.size w.heap.size (some l) := ⟨_, heap_alloc_new w2 _, HRD.out.keep hw3⟩
  have hS3 : SrcL (w2.alloc (.cells #[.slice Ab l.length cb, .bool false] 35)) w1.heap.size (some l) := hS0.alloc _
  have HW3 := Lib.hid hw3
  have HR3 := Lib.hid hR3
  have HS3 := Lib.hid hS3
  clear hs hb hb2 hS0 hw3 hR3 hS3 HC HB1 HRD
  go_wp2_with fail
  refine (lives1_any _).mono ?_
  rintro e w4 ⟨rfl, hb⟩
  have hb4 := grow_trans HW3.out hb
  have HB4 := Lib.hid hb4
  have hsz4 := hb.size
  have HR4 : Hid (RS w4 w2.heap.size w.heap.size (some l)) := HR3.out.keep (hb.block _ (by simp)) (hb.mono (by simp; omega))
  have HS4 : Hid (SrcL w4 w1.heap.size (some l)) := HS3.out.keep hb (by simp; omega)
  clear hb hb4 hsz4 HR3 HS3 HW3
  obtain ⟨g1, hg1⟩ : ∃ g1, g1 = w1.heap.size := ⟨_, rfl⟩
  obtain ⟨g2, hg2⟩ : ∃ g2, g2 = w2.heap.size := ⟨_, rfl⟩
  have HR5 : Hid (RS w4 g2 w.heap.size (some l)) := by rw [hg2]; exact HR4
  have HS5 : Hid (SrcL w4 g1 (some l)) := by rw [hg1]; exact HS4
  have h1le : w.heap.size ≤ g1 := by omega
  have h2le : w.heap.size ≤ g2 := by omega
  have hne : g1 < g2 := by omega
  rw [← hg1]
  rw [← hg2]
  clear HR4 HS4 hB2sz hB1sz hlt2 hg1 hg2
  go_wp2_with fail
  clear HL HN
  go_loopw [7] (fun i wr => ∃ (k : Nat) (st : Option (List UInt8)), k ≤ 60 ∧ k ≤ n ∧ i = .int .i64 k ∧ Hid (SrcL wr g1 st ∧ RS wr g2 w.heap.size st ∧ Below w.heap.size w wr)) (fun i _ => 60 - (intOf i).toNat)
  case atStart => exact ⟨0, some l, by omega, by omega, rfl, HS5.out, HR5.out, HB4.out⟩
  case round =>
    obtain ⟨k, st, hk60, hkn, rfl, HI⟩ := hrel
    by_cases hlt : k < n ∧ k < 60
    · obtain ⟨hlt1, hlt2⟩ := hlt
      obtain ⟨bo, oo, rfl, hbo, hcells⟩ := HOPS.out (by omega)
      obtain ⟨c0, c1, hN1⟩ := hcells k hlt1
      have HN1 := Lib.hid hN1
      have C0 := Lib.hid ((HI.out.2.2.cell (p := ⟨bo, oo + k * 2, none⟩) hbo).trans c0)
      have C1 := Lib.hid ((HI.out.2.2.cell (p := ⟨bo, oo + k * 2 + 1, none⟩) hbo).trans c1)
      have c0' := C0.out
      have hBsz := HI.out.2.2.size
      obtain ⟨KK, hKK⟩ : ∃ q, q = K k := ⟨_, rfl⟩
      obtain ⟨NN, hNN⟩ : ∃ q, q = N k := ⟨_, rfl⟩
      have HKK := Lib.hid hKK
      rw [← hKK] at c0'
      have HN2 : Hid (NN ≤ 9223372036854775807) := by rw [hNN]; exact HN1
      have HC1 : Hid (wr.cell? ⟨bo, oo + k * 2 + 1, none⟩ = some (.int .i64 NN)) := by rw [hNN]; exact C1
      clear hcells c0 c1 hN1 C0 hKK hNN HN1 C1
      by_cases k1 : KK = 1
      · subst k1
        go_wp2_with fail
        refine (sbyte_any g1 st _ HI.out.1).mono ?_
        rintro e W1 ⟨rfl, hs, ho⟩
        have hn1 := next1 HI.out.2.1 HI.out.2.2 h1le (Nat.ne_of_lt hne) hBsz ho
        have HS1 := Lib.hid hs
        have HR1 := Lib.hid hn1.1
        have HB1 := Lib.hid hn1.2
        have hsz1 := hn1.2.size
        clear hs ho hn1
        go_wp2_with fail
        refine (rsbyte_any g2 w.heap.size st _ HR1.out h2le).mono ?_
        rintro e W ⟨rfl, hr, ho⟩
        have hn2 := next2 HS1.out HB1.out h2le (Nat.ne_of_lt hne) hsz1 ho
        have HS := Lib.hid hn2.1
        have HR := Lib.hid hr
        have HB := Lib.hid hn2.2
        clear hr ho hn2 HS1 HR1 HB1 hsz1
        go_wp2_with fail
        refine wp_region_mix [0, 1, 2, 3, 5, 4, 6, 7, 8, 9, 10, 12, 13, 14, 15, 11, 16, 17, 18, 19, 21, 20, 22, 23, 24] (by kernel_rfl) (by kernel_rfl) (fun _ d _ _ _ h => by cases d <;> exact h) ?_
        simp only [atNats, List.filterMap_cons, List.filterMap_nil, List.getElem?_toArray, List.getElem?_cons_succ, List.getElem?_cons_zero]
        have cb0 := RS.badCell HR.out
        have cb := cell_later (B := W.heap.size) (w := W.drew) cb0 HR.out.lt
        clear cb0
        first | refine mix_pure ?_ | refine mix_pureB ?_
        simp only [List.takeWhile, List.dropWhile, isPure]
        repeat (go_big_quiet_step (fail))
        refine wpQuiet_nil ?_
        first | refine mix_call rfl (fun K hK => ?_) | refine mix_callB rfl (fun K hK => ?_)
        go_simp
        refine (sleft_st g1 _ W.drew (HS.out.of rfl)).mono ?_
        rintro e u ⟨rfl, rfl⟩
        refine hK _ _ (Below.refl _ _) ?_
        clear hK K
        try simp only [Act.put]
        first | refine mix_pure ?_ | refine mix_pureB ?_
        simp only [List.takeWhile, List.dropWhile, isPure]
        repeat (go_big_quiet_step (fail))
        refine wpQuiet_nil ?_
        first | refine mix_call rfl (fun K hK => ?_) | refine mix_callB rfl (fun K hK => ?_)
        go_simp
        refine (rsleft_any g2 w.heap.size _ W.drew (HR.out.keep rfl (Below.refl _ _).drew)).mono ?_
        rintro e u ⟨rfl, rfl⟩
        refine hK _ _ (Below.refl _ _) ?_
        clear hK K
        try simp only [Act.put]
        first | refine mix_pure ?_ | refine mix_pureB ?_
        simp only [List.takeWhile, List.dropWhile, isPure]
        repeat (go_big_quiet_step (fail))
        refine wpQuiet_nil ?_
        first | refine mix_call rfl (fun K hK => ?_) | refine mix_callB rfl (fun K hK => ?_)
        go_simp
        refine (sbad_any g1 _ W.drew (HS.out.of rfl)).mono ?_
        rintro e u ⟨rfl, rfl⟩
        refine hK _ _ (Below.refl _ _) ?_
        clear hK K
        try simp only [Act.put]
        first | refine mix_pure ?_ | refine mix_pureB ?_
        simp only [List.takeWhile, List.dropWhile, isPure]
        repeat (go_big_quiet_step (fail))
        refine wpQuiet_nil ?_
        first | refine mix_call rfl (fun K hK => ?_) | refine mix_callB rfl (fun K hK => ?_)
        go_simp
        refine (sdone_st g1 _ W.drew (HS.out.of rfl)).mono ?_
        rintro e u ⟨rfl, rfl⟩
        refine hK _ _ (Below.refl _ _) ?_
        clear hK K
        try simp only [Act.put]
        first | refine mix_pure ?_ | refine mix_pureB ?_
        simp only [List.takeWhile, List.dropWhile, isPure]
        repeat (go_big_quiet_step (fail))
        refine wpQuiet_nil ?_
        first | refine mix_call rfl (fun K hK => ?_) | refine mix_callB rfl (fun K hK => ?_)
        go_simp
        refine (rsdone_any g2 w.heap.size _ W.drew (HR.out.keep rfl (Below.refl _ _).drew)).mono ?_
        rintro e u ⟨rfl, rfl⟩
        refine hK _ _ (Below.refl _ _) ?_
        clear hK K
        try simp only [Act.put]
        first | refine mix_pure ?_ | refine mix_pureB ?_
        simp only [List.takeWhile, List.dropWhile, isPure]
        repeat (go_big_quiet_step (fail))
        refine wpQuiet_nil ?_
        unfold wpMix
        clear cb
        go_wp2
        go_roundw
        case rel => exact ⟨k + 1, _, by omega, by omega, by go_num, ⟨HS.out.of rfl, HR.out.keep rfl (Below.refl _ _).drew, HB.out.drew⟩⟩
        case measure => simp [intOf]; omega
      by_cases k2 : KK = 2
      · subst k2
        go_wp2_with fail
        refine (sint_any g1 st _ HI.out.1).mono ?_
        rintro e W1 ⟨rfl, hs, ho⟩
        have hn1 := next1 HI.out.2.1 HI.out.2.2 h1le (Nat.ne_of_lt hne) hBsz ho
        have HS1 := Lib.hid hs
        have HR1 := Lib.hid hn1.1
        have HB1 := Lib.hid hn1.2
        have hsz1 := hn1.2.size
        clear hs ho hn1
        go_wp2_with fail
        refine (rsint_any g2 w.heap.size st _ HR1.out h2le).mono ?_
        rintro e W ⟨rfl, hr, ho⟩
        have hn2 := next2 HS1.out HB1.out h2le (Nat.ne_of_lt hne) hsz1 ho
        have HS := Lib.hid hn2.1
        have HR := Lib.hid hr
        have HB := Lib.hid hn2.2
        clear hr ho hn2 HS1 HR1 HB1 hsz1
        go_wp2_with fail
        refine wp_region_mix [0, 1, 2, 3, 5, 4, 6, 7, 8, 9, 10, 12, 13, 14, 15, 11, 16, 17, 18, 19, 21, 20, 22, 23, 24] (by kernel_rfl) (by kernel_rfl) (fun _ d _ _ _ h => by cases d <;> exact h) ?_
        simp only [atNats, List.filterMap_cons, List.filterMap_nil, List.getElem?_toArray, List.getElem?_cons_succ, List.getElem?_cons_zero]
        have cb0 := RS.badCell HR.out
        have cb := cell_later (B := W.heap.size) (w := W.drew) cb0 HR.out.lt
        clear cb0
        first | refine mix_pure ?_ | refine mix_pureB ?_
        simp only [List.takeWhile, List.dropWhile, isPure]
        repeat (go_big_quiet_step (fail))
        refine wpQuiet_nil ?_
        first | refine mix_call rfl (fun K hK => ?_) | refine mix_callB rfl (fun K hK => ?_)
        go_simp
        refine (sleft_st g1 _ W.drew (HS.out.of rfl)).mono ?_
        rintro e u ⟨rfl, rfl⟩
        refine hK _ _ (Below.refl _ _) ?_
        clear hK K
        try simp only [Act.put]
        first | refine mix_pure ?_ | refine mix_pureB ?_
        simp only [List.takeWhile, List.dropWhile, isPure]
        repeat (go_big_quiet_step (fail))
        refine wpQuiet_nil ?_
        first | refine mix_call rfl (fun K hK => ?_) | refine mix_callB rfl (fun K hK => ?_)
        go_simp
        refine (rsleft_any g2 w.heap.size _ W.drew (HR.out.keep rfl (Below.refl _ _).drew)).mono ?_
        rintro e u ⟨rfl, rfl⟩
        refine hK _ _ (Below.refl _ _) ?_
        clear hK K
        try simp only [Act.put]
        first | refine mix_pure ?_ | refine mix_pureB ?_
        simp only [List.takeWhile, List.dropWhile, isPure]
        repeat (go_big_quiet_step (fail))
        refine wpQuiet_nil ?_
        first | refine mix_call rfl (fun K hK => ?_) | refine mix_callB rfl (fun K hK => ?_)
        go_simp
        refine (sbad_any g1 _ W.drew (HS.out.of rfl)).mono ?_
        rintro e u ⟨rfl, rfl⟩
        refine hK _ _ (Below.refl _ _) ?_
        clear hK K
        try simp only [Act.put]
        first | refine mix_pure ?_ | refine mix_pureB ?_
        simp only [List.takeWhile, List.dropWhile, isPure]
        repeat (go_big_quiet_step (fail))
        refine wpQuiet_nil ?_
        first | refine mix_call rfl (fun K hK => ?_) | refine mix_callB rfl (fun K hK => ?_)
        go_simp
        refine (sdone_st g1 _ W.drew (HS.out.of rfl)).mono ?_
        rintro e u ⟨rfl, rfl⟩
        refine hK _ _ (Below.refl _ _) ?_
        clear hK K
        try simp only [Act.put]
        first | refine mix_pure ?_ | refine mix_pureB ?_
        simp only [List.takeWhile, List.dropWhile, isPure]
        repeat (go_big_quiet_step (fail))
        refine wpQuiet_nil ?_
        first | refine mix_call rfl (fun K hK => ?_) | refine mix_callB rfl (fun K hK => ?_)
        go_simp
        refine (rsdone_any g2 w.heap.size _ W.drew (HR.out.keep rfl (Below.refl _ _).drew)).mono ?_
        rintro e u ⟨rfl, rfl⟩
        refine hK _ _ (Below.refl _ _) ?_
        clear hK K
        try simp only [Act.put]
        first | refine mix_pure ?_ | refine mix_pureB ?_
        simp only [List.takeWhile, List.dropWhile, isPure]
        repeat (go_big_quiet_step (fail))
        refine wpQuiet_nil ?_
        unfold wpMix
        clear cb
        go_wp2
        go_roundw
        case rel => exact ⟨k + 1, _, by omega, by omega, by go_num, ⟨HS.out.of rfl, HR.out.keep rfl (Below.refl _ _).drew, HB.out.drew⟩⟩
        case measure => simp [intOf]; omega
      by_cases k3 : KK = 3
      · subst k3
        go_wp2_with fail
        refine wp_region_mixB w.heap.size [0, 1, 2, 3, 4, 5, 7, 8, 9, 10, 11, 12, 6, 13, 14, 15] (by kernel_rfl) (by kernel_rfl) (fun _ d _ _ _ h => by cases d <;> exact h) ?_
        simp only [atNats, List.filterMap_cons, List.filterMap_nil, List.getElem?_toArray, List.getElem?_cons_succ, List.getElem?_cons_zero]
        have cN := cell_later (B := w.heap.size) (w := wr.drew) HC1.out hbo
        first | refine mix_pure ?_ | refine mix_pureB ?_
        simp only [List.takeWhile, List.dropWhile, isPure]
        repeat (go_big_quiet_step (fail))
        refine wpQuiet_nil ?_
        first | refine mix_call rfl (fun K hK => ?_) | refine mix_callB rfl (fun K hK => ?_)
        go_simp
        refine (scount_any g1 st NN wr.drew (HI.out.1.of rfl) HN2.out).mono ?_
        rintro e W1 ⟨rfl, hs, ho⟩
        refine hK _ _ (ho.below (B := w.heap.size) hBsz h1le) ?_
        clear hK K
        try simp only [Act.put]
        have hn1 := next1 (W := wr.drew) (HI.out.2.1.keep rfl (Below.refl _ _).drew) HI.out.2.2.drew h1le (Nat.ne_of_lt hne) hBsz ho
        have HS1 := Lib.hid hs
        have HR1 := Lib.hid hn1.1
        have HB1 := Lib.hid hn1.2
        have hsz1 := hn1.2.size
        clear hs ho hn1 cN
        first | refine mix_pure ?_ | refine mix_pureB ?_
        simp only [List.takeWhile, List.dropWhile, isPure]
        repeat (go_big_quiet_step (fail))
        refine wpQuiet_nil ?_
        first | refine mix_call rfl (fun K hK => ?_) | refine mix_callB rfl (fun K hK => ?_)
        go_simp
        refine (rscount_any g2 w.heap.size NN st _ HR1.out h2le HN2.out).mono ?_
        rintro e W ⟨rfl, hr, ho⟩
        refine hK _ _ (ho.below (B := w.heap.size) hsz1 h2le) ?_
        clear hK K
        try simp only [Act.put]
        have hn2 := next2 HS1.out HB1.out h2le (Nat.ne_of_lt hne) hsz1 ho
        have HS := Lib.hid hn2.1
        have HR := Lib.hid hr
        have HB := Lib.hid hn2.2
        clear hr ho hn2 HS1 HR1 HB1 hsz1
        first | refine mix_pure ?_ | refine mix_pureB ?_
        simp only [List.takeWhile, List.dropWhile, isPure]
        repeat (go_big_quiet_step (fail))
        refine wpQuiet_nil ?_
        unfold wpMix
        go_wp2_with fail
        refine wp_region_mix [0, 1, 2, 3, 5, 4, 6, 7, 8, 9, 10, 12, 13, 14, 15, 11, 16, 17, 18, 19, 21, 20, 22, 23, 24] (by kernel_rfl) (by kernel_rfl) (fun _ d _ _ _ h => by cases d <;> exact h) ?_
        simp only [atNats, List.filterMap_cons, List.filterMap_nil, List.getElem?_toArray, List.getElem?_cons_succ, List.getElem?_cons_zero]
        have cb0 := RS.badCell HR.out
        have cb := cell_later (B := W.heap.size) (w := W.drew) cb0 HR.out.lt
        clear cb0
        first | refine mix_pure ?_ | refine mix_pureB ?_
        simp only [List.takeWhile, List.dropWhile, isPure]
        repeat (go_big_quiet_step (fail))
        refine wpQuiet_nil ?_
        first | refine mix_call rfl (fun K hK => ?_) | refine mix_callB rfl (fun K hK => ?_)
        go_simp
        refine (sleft_st g1 _ W.drew (HS.out.of rfl)).mono ?_
        rintro e u ⟨rfl, rfl⟩
        refine hK _ _ (Below.refl _ _) ?_
        clear hK K
        try simp only [Act.put]
        first | refine mix_pure ?_ | refine mix_pureB ?_
        simp only [List.takeWhile, List.dropWhile, isPure]
        repeat (go_big_quiet_step (fail))
        refine wpQuiet_nil ?_
        first | refine mix_call rfl (fun K hK => ?_) | refine mix_callB rfl (fun K hK => ?_)
        go_simp
        refine (rsleft_any g2 w.heap.size _ W.drew (HR.out.keep rfl (Below.refl _ _).drew)).mono ?_
        rintro e u ⟨rfl, rfl⟩
        refine hK _ _ (Below.refl _ _) ?_
        clear hK K
        try simp only [Act.put]
        first | refine mix_pure ?_ | refine mix_pureB ?_
        simp only [List.takeWhile, List.dropWhile, isPure]
        repeat (go_big_quiet_step (fail))
        refine wpQuiet_nil ?_
        first | refine mix_call rfl (fun K hK => ?_) | refine mix_callB rfl (fun K hK => ?_)
        go_simp
        refine (sbad_any g1 _ W.drew (HS.out.of rfl)).mono ?_
        rintro e u ⟨rfl, rfl⟩
        refine hK _ _ (Below.refl _ _) ?_
        clear hK K
        try simp only [Act.put]
        first | refine mix_pure ?_ | refine mix_pureB ?_
        simp only [List.takeWhile, List.dropWhile, isPure]
        repeat (go_big_quiet_step (fail))
        refine wpQuiet_nil ?_
        first | refine mix_call rfl (fun K hK => ?_) | refine mix_callB rfl (fun K hK => ?_)
        go_simp
        refine (sdone_st g1 _ W.drew (HS.out.of rfl)).mono ?_
        rintro e u ⟨rfl, rfl⟩
        refine hK _ _ (Below.refl _ _) ?_
        clear hK K
        try simp only [Act.put]
        first | refine mix_pure ?_ | refine mix_pureB ?_
        simp only [List.takeWhile, List.dropWhile, isPure]
        repeat (go_big_quiet_step (fail))
        refine wpQuiet_nil ?_
        first | refine mix_call rfl (fun K hK => ?_) | refine mix_callB rfl (fun K hK => ?_)
        go_simp
        refine (rsdone_any g2 w.heap.size _ W.drew (HR.out.keep rfl (Below.refl _ _).drew)).mono ?_
        rintro e u ⟨rfl, rfl⟩
        refine hK _ _ (Below.refl _ _) ?_
        clear hK K
        try simp only [Act.put]
        first | refine mix_pure ?_ | refine mix_pureB ?_
        simp only [List.takeWhile, List.dropWhile, isPure]
        repeat (go_big_quiet_step (fail))
        refine wpQuiet_nil ?_
        unfold wpMix
        clear cb
        go_wp2
        go_roundw
        case rel => exact ⟨k + 1, _, by omega, by omega, by go_num, ⟨HS.out.of rfl, HR.out.keep rfl (Below.refl _ _).drew, HB.out.drew⟩⟩
        case measure => simp [intOf]; omega
      by_cases k4 : KK = 4
      · subst k4
        go_wp2_with fail
        refine wp_region_mixB w.heap.size [0, 1, 2, 3, 4, 5, 7, 8, 9, 10, 11, 12, 6, 13, 14, 15] (by kernel_rfl) (by kernel_rfl) (fun _ d _ _ _ h => by cases d <;> exact h) ?_
        simp only [atNats, List.filterMap_cons, List.filterMap_nil, List.getElem?_toArray, List.getElem?_cons_succ, List.getElem?_cons_zero]
        have cN := cell_later (B := w.heap.size) (w := wr.drew) HC1.out hbo
        first | refine mix_pure ?_ | refine mix_pureB ?_
        simp only [List.takeWhile, List.dropWhile, isPure]
        repeat (go_big_quiet_step (fail))
        refine wpQuiet_nil ?_
        first | refine mix_call rfl (fun K hK => ?_) | refine mix_callB rfl (fun K hK => ?_)
        go_simp
        refine (stext_any g1 st NN wr.drew (HI.out.1.of rfl) HN2.out).mono ?_
        rintro e W1 ⟨rfl, hs, ho⟩
        refine hK _ _ (ho.below (B := w.heap.size) hBsz h1le) ?_
        clear hK K
        try simp only [Act.put]
        have hn1 := next1 (W := wr.drew) (HI.out.2.1.keep rfl (Below.refl _ _).drew) HI.out.2.2.drew h1le (Nat.ne_of_lt hne) hBsz ho
        have HS1 := Lib.hid hs
        have HR1 := Lib.hid hn1.1
        have HB1 := Lib.hid hn1.2
        have hsz1 := hn1.2.size
        clear hs ho hn1 cN
        first | refine mix_pure ?_ | refine mix_pureB ?_
        simp only [List.takeWhile, List.dropWhile, isPure]
        repeat (go_big_quiet_step (fail))
        refine wpQuiet_nil ?_
        first | refine mix_call rfl (fun K hK => ?_) | refine mix_callB rfl (fun K hK => ?_)
        go_simp
        refine (rstext_any g2 w.heap.size NN st _ HR1.out h2le HN2.out).mono ?_
        rintro e W ⟨rfl, hr, ho⟩
        refine hK _ _ (ho.below (B := w.heap.size) hsz1 h2le) ?_
        clear hK K
        try simp only [Act.put]
        have hn2 := next2 HS1.out HB1.out h2le (Nat.ne_of_lt hne) hsz1 ho
        have HS := Lib.hid hn2.1
        have HR := Lib.hid hr
        have HB := Lib.hid hn2.2
        clear hr ho hn2 HS1 HR1 HB1 hsz1
        first | refine mix_pure ?_ | refine mix_pureB ?_
        simp only [List.takeWhile, List.dropWhile, isPure]
        repeat (go_big_quiet_step (fail))
        refine wpQuiet_nil ?_
        unfold wpMix
        go_wp2_with fail
        refine wp_region_mix [0, 1, 2, 3, 5, 4, 6, 7, 8, 9, 10, 12, 13, 14, 15, 11, 16, 17, 18, 19, 21, 20, 22, 23, 24] (by kernel_rfl) (by kernel_rfl) (fun _ d _ _ _ h => by cases d <;> exact h) ?_
        simp only [atNats, List.filterMap_cons, List.filterMap_nil, List.getElem?_toArray, List.getElem?_cons_succ, List.getElem?_cons_zero]
        have cb0 := RS.badCell HR.out
        have cb := cell_later (B := W.heap.size) (w := W.drew) cb0 HR.out.lt
        clear cb0
        first | refine mix_pure ?_ | refine mix_pureB ?_
        simp only [List.takeWhile, List.dropWhile, isPure]
        repeat (go_big_quiet_step (fail))
        refine wpQuiet_nil ?_
        first | refine mix_call rfl (fun K hK => ?_) | refine mix_callB rfl (fun K hK => ?_)
        go_simp
        refine (sleft_st g1 _ W.drew (HS.out.of rfl)).mono ?_
        rintro e u ⟨rfl, rfl⟩
        refine hK _ _ (Below.refl _ _) ?_
        clear hK K
        try simp only [Act.put]
        first | refine mix_pure ?_ | refine mix_pureB ?_
        simp only [List.takeWhile, List.dropWhile, isPure]
        repeat (go_big_quiet_step (fail))
        refine wpQuiet_nil ?_
        first | refine mix_call rfl (fun K hK => ?_) | refine mix_callB rfl (fun K hK => ?_)
        go_simp
        refine (rsleft_any g2 w.heap.size _ W.drew (HR.out.keep rfl (Below.refl _ _).drew)).mono ?_
        rintro e u ⟨rfl, rfl⟩
        refine hK _ _ (Below.refl _ _) ?_
        clear hK K
        try simp only [Act.put]
        first | refine mix_pure ?_ | refine mix_pureB ?_
        simp only [List.takeWhile, List.dropWhile, isPure]
        repeat (go_big_quiet_step (fail))
        refine wpQuiet_nil ?_
        first | refine mix_call rfl (fun K hK => ?_) | refine mix_callB rfl (fun K hK => ?_)
        go_simp
        refine (sbad_any g1 _ W.drew (HS.out.of rfl)).mono ?_
        rintro e u ⟨rfl, rfl⟩
        refine hK _ _ (Below.refl _ _) ?_
        clear hK K
        try simp only [Act.put]
        first | refine mix_pure ?_ | refine mix_pureB ?_
        simp only [List.takeWhile, List.dropWhile, isPure]
        repeat (go_big_quiet_step (fail))
        refine wpQuiet_nil ?_
        first | refine mix_call rfl (fun K hK => ?_) | refine mix_callB rfl (fun K hK => ?_)
        go_simp
        refine (sdone_st g1 _ W.drew (HS.out.of rfl)).mono ?_
        rintro e u ⟨rfl, rfl⟩
        refine hK _ _ (Below.refl _ _) ?_
        clear hK K
        try simp only [Act.put]
        first | refine mix_pure ?_ | refine mix_pureB ?_
        simp only [List.takeWhile, List.dropWhile, isPure]
        repeat (go_big_quiet_step (fail))
        refine wpQuiet_nil ?_
        first | refine mix_call rfl (fun K hK => ?_) | refine mix_callB rfl (fun K hK => ?_)
        go_simp
        refine (rsdone_any g2 w.heap.size _ W.drew (HR.out.keep rfl (Below.refl _ _).drew)).mono ?_
        rintro e u ⟨rfl, rfl⟩
        refine hK _ _ (Below.refl _ _) ?_
        clear hK K
        try simp only [Act.put]
        first | refine mix_pure ?_ | refine mix_pureB ?_
        simp only [List.takeWhile, List.dropWhile, isPure]
        repeat (go_big_quiet_step (fail))
        refine wpQuiet_nil ?_
        unfold wpMix
        clear cb
        go_wp2
        go_roundw
        case rel => exact ⟨k + 1, _, by omega, by omega, by go_num, ⟨HS.out.of rfl, HR.out.keep rfl (Below.refl _ _).drew, HB.out.drew⟩⟩
        case measure => simp [intOf]; omega
      have b1 : (KK == 1) = false := by simp [k1]
      have b2 : (KK == 2) = false := by simp [k2]
      have b3 : (KK == 3) = false := by simp [k3]
      have b4 : (KK == 4) = false := by simp [k4]
      by_cases k5 : KK = 5
      · subst k5
        obtain ⟨s0, bb, hsrc⟩ := SrcL.form HI.out.1
        have HSRC := Lib.hid hsrc
        clear hsrc
        go_wp2_with fail
        refine (spoil_any g1 s0 bb _ HSRC.out).mono ?_
        rintro e W1 ⟨rfl, hs, ho⟩
        have hn1 := next1 HI.out.2.1 HI.out.2.2 h1le (Nat.ne_of_lt hne) hBsz ho
        have HS1 : Hid (SrcL W1 g1 none) := hs
        have HR1 := Lib.hid hn1.1
        have HB1 := Lib.hid hn1.2
        obtain ⟨A', n', c', b', hform⟩ := RS.form HR1.out
        obtain ⟨d0, d1, f0, f1⟩ := rcells hform
        have HF := Lib.hid hform
        obtain ⟨W, hW⟩ : ∃ W, W = W1.setCell ⟨g2, 1, none⟩ (.bool true) := ⟨_, rfl⟩
        have HS : Hid (SrcL W g1 none) := by rw [hW]; exact HS1.out.far (by simp; omega) _
        have HR : Hid (RS W g2 w.heap.size none) := by rw [hW]; exact ⟨_, _, _, set_rs1 HF.out⟩
        have HB : Hid (Below w.heap.size w W) := by rw [hW]; exact HB1.out.setCell h2le _
        have HW := Lib.hid hW
        clear hs ho hn1 hform HS1 HR1 HB1 hW
        go_wp2_with fail
        rw [← HW.out]
        clear HW d0 d1 f0 f1 HF
        refine wp_region_mix [0, 1, 2, 3, 5, 4, 6, 7, 8, 9, 10, 12, 13, 14, 15, 11, 16, 17, 18, 19, 21, 20, 22, 23, 24] (by kernel_rfl) (by kernel_rfl) (fun _ d _ _ _ h => by cases d <;> exact h) ?_
        simp only [atNats, List.filterMap_cons, List.filterMap_nil, List.getElem?_toArray, List.getElem?_cons_succ, List.getElem?_cons_zero]
        have cb0 := RS.badCell HR.out
        have cb := cell_later (B := W.heap.size) (w := W.drew) cb0 HR.out.lt
        clear cb0
        first | refine mix_pure ?_ | refine mix_pureB ?_
        simp only [List.takeWhile, List.dropWhile, isPure]
        repeat (go_big_quiet_step (fail))
        refine wpQuiet_nil ?_
        first | refine mix_call rfl (fun K hK => ?_) | refine mix_callB rfl (fun K hK => ?_)
        go_simp
        refine (sleft_st g1 _ W.drew (HS.out.of rfl)).mono ?_
        rintro e u ⟨rfl, rfl⟩
        refine hK _ _ (Below.refl _ _) ?_
        clear hK K
        try simp only [Act.put]
        first | refine mix_pure ?_ | refine mix_pureB ?_
        simp only [List.takeWhile, List.dropWhile, isPure]
        repeat (go_big_quiet_step (fail))
        refine wpQuiet_nil ?_
        first | refine mix_call rfl (fun K hK => ?_) | refine mix_callB rfl (fun K hK => ?_)
        go_simp
        refine (rsleft_any g2 w.heap.size _ W.drew (HR.out.keep rfl (Below.refl _ _).drew)).mono ?_
        rintro e u ⟨rfl, rfl⟩
        refine hK _ _ (Below.refl _ _) ?_
        clear hK K
        try simp only [Act.put]
        first | refine mix_pure ?_ | refine mix_pureB ?_
        simp only [List.takeWhile, List.dropWhile, isPure]
        repeat (go_big_quiet_step (fail))
        refine wpQuiet_nil ?_
        first | refine mix_call rfl (fun K hK => ?_) | refine mix_callB rfl (fun K hK => ?_)
        go_simp
        refine (sbad_any g1 _ W.drew (HS.out.of rfl)).mono ?_
        rintro e u ⟨rfl, rfl⟩
        refine hK _ _ (Below.refl _ _) ?_
        clear hK K
        try simp only [Act.put]
        first | refine mix_pure ?_ | refine mix_pureB ?_
        simp only [List.takeWhile, List.dropWhile, isPure]
        repeat (go_big_quiet_step (fail))
        refine wpQuiet_nil ?_
        first | refine mix_call rfl (fun K hK => ?_) | refine mix_callB rfl (fun K hK => ?_)
        go_simp
        refine (sdone_st g1 _ W.drew (HS.out.of rfl)).mono ?_
        rintro e u ⟨rfl, rfl⟩
        refine hK _ _ (Below.refl _ _) ?_
        clear hK K
        try simp only [Act.put]
        first | refine mix_pure ?_ | refine mix_pureB ?_
        simp only [List.takeWhile, List.dropWhile, isPure]
        repeat (go_big_quiet_step (fail))
        refine wpQuiet_nil ?_
        first | refine mix_call rfl (fun K hK => ?_) | refine mix_callB rfl (fun K hK => ?_)
        go_simp
        refine (rsdone_any g2 w.heap.size _ W.drew (HR.out.keep rfl (Below.refl _ _).drew)).mono ?_
        rintro e u ⟨rfl, rfl⟩
        refine hK _ _ (Below.refl _ _) ?_
        clear hK K
        try simp only [Act.put]
        first | refine mix_pure ?_ | refine mix_pureB ?_
        simp only [List.takeWhile, List.dropWhile, isPure]
        repeat (go_big_quiet_step (fail))
        refine wpQuiet_nil ?_
        unfold wpMix
        clear cb
        go_wp2
        go_roundw
        case rel => exact ⟨k + 1, _, by omega, by omega, by go_num, ⟨HS.out.of rfl, HR.out.keep rfl (Below.refl _ _).drew, HB.out.drew⟩⟩
        case measure => simp [intOf]; omega
      have b5 : (KK == 5) = false := by simp [k5]
      have HS : Hid (SrcL wr g1 st) := HI.out.1
      have HR : Hid (RS wr g2 w.heap.size st) := HI.out.2.1
      have HB : Hid (Below w.heap.size w wr) := HI.out.2.2
      obtain ⟨W, hW⟩ : ∃ W, W = wr := ⟨_, rfl⟩
      subst hW
      go_wp2_with fail
      refine wp_region_mix [0, 1, 2, 3, 5, 4, 6, 7, 8, 9, 10, 12, 13, 14, 15, 11, 16, 17, 18, 19, 21, 20, 22, 23, 24] (by kernel_rfl) (by kernel_rfl) (fun _ d _ _ _ h => by cases d <;> exact h) ?_
      simp only [atNats, List.filterMap_cons, List.filterMap_nil, List.getElem?_toArray, List.getElem?_cons_succ, List.getElem?_cons_zero]
      have cb0 := RS.badCell HR.out
      have cb := cell_later (B := W.heap.size) (w := W.drew) cb0 HR.out.lt
      clear cb0
      first | refine mix_pure ?_ | refine mix_pureB ?_
      simp only [List.takeWhile, List.dropWhile, isPure]
      repeat (go_big_quiet_step (fail))
      refine wpQuiet_nil ?_
      first | refine mix_call rfl (fun K hK => ?_) | refine mix_callB rfl (fun K hK => ?_)
      go_simp
      refine (sleft_st g1 _ W.drew (HS.out.of rfl)).mono ?_
      rintro e u ⟨rfl, rfl⟩
      refine hK _ _ (Below.refl _ _) ?_
      clear hK K
      try simp only [Act.put]
      first | refine mix_pure ?_ | refine mix_pureB ?_
      simp only [List.takeWhile, List.dropWhile, isPure]
      repeat (go_big_quiet_step (fail))
      refine wpQuiet_nil ?_
      first | refine mix_call rfl (fun K hK => ?_) | refine mix_callB rfl (fun K hK => ?_)
      go_simp
      refine (rsleft_any g2 w.heap.size _ W.drew (HR.out.keep rfl (Below.refl _ _).drew)).mono ?_
      rintro e u ⟨rfl, rfl⟩
      refine hK _ _ (Below.refl _ _) ?_
      clear hK K
      try simp only [Act.put]
      first | refine mix_pure ?_ | refine mix_pureB ?_
      simp only [List.takeWhile, List.dropWhile, isPure]
      repeat (go_big_quiet_step (fail))
      refine wpQuiet_nil ?_
      first | refine mix_call rfl (fun K hK => ?_) | refine mix_callB rfl (fun K hK => ?_)
      go_simp
      refine (sbad_any g1 _ W.drew (HS.out.of rfl)).mono ?_
      rintro e u ⟨rfl, rfl⟩
      refine hK _ _ (Below.refl _ _) ?_
      clear hK K
      try simp only [Act.put]
      first | refine mix_pure ?_ | refine mix_pureB ?_
      simp only [List.takeWhile, List.dropWhile, isPure]
      repeat (go_big_quiet_step (fail))
      refine wpQuiet_nil ?_
      first | refine mix_call rfl (fun K hK => ?_) | refine mix_callB rfl (fun K hK => ?_)
      go_simp
      refine (sdone_st g1 _ W.drew (HS.out.of rfl)).mono ?_
      rintro e u ⟨rfl, rfl⟩
      refine hK _ _ (Below.refl _ _) ?_
      clear hK K
      try simp only [Act.put]
      first | refine mix_pure ?_ | refine mix_pureB ?_
      simp only [List.takeWhile, List.dropWhile, isPure]
      repeat (go_big_quiet_step (fail))
      refine wpQuiet_nil ?_
      first | refine mix_call rfl (fun K hK => ?_) | refine mix_callB rfl (fun K hK => ?_)
      go_simp
      refine (rsdone_any g2 w.heap.size _ W.drew (HR.out.keep rfl (Below.refl _ _).drew)).mono ?_
      rintro e u ⟨rfl, rfl⟩
      refine hK _ _ (Below.refl _ _) ?_
      clear hK K
      try simp only [Act.put]
      first | refine mix_pure ?_ | refine mix_pureB ?_
      simp only [List.takeWhile, List.dropWhile, isPure]
      repeat (go_big_quiet_step (fail))
      refine wpQuiet_nil ?_
      unfold wpMix
      clear cb
      go_wp2
      go_roundw
      case rel => exact ⟨k + 1, _, by omega, by omega, by go_num, ⟨HS.out.of rfl, HR.out.keep rfl (Below.refl _ _).drew, HB.out.drew⟩⟩
      case measure => simp [intOf]; omega
    · by_cases hkn2 : k < n
      · have hk : k = 60 := by omega
        subst hk
        go_wp2_with fail
        go_ret
        exact ⟨rfl, HI.out.2.2⟩
      · go_wp2_with fail
        go_ret
        exact ⟨rfl, HI.out.2.2⟩
end Go.Proofs.Yteakkbgfkcknlaa.Reads
