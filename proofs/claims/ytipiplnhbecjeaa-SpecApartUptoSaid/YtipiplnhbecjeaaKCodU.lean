/- The decoder's items: the loop. -/
import Derived.Test.YtipiplnhbecjeaaKCodS
import Derived.Test.YtipiplnhbecjeaaKCodT
import Derived.Test.YtipiplnhbecjeaaKVarH
import Derived.Test.YtipiplnhbecjeaaKReg
namespace Go.Proofs.Ytipiplnhbecjeaa
set_option linter.unusedVariables false
set_option linter.unusedSimpArgs false
set_option maxRecDepth 100000
open Go.RowKit
/-- One more is read, with its name where it has one. -/
def ItemG (dd : Bool) (d g vb B : Nat) (k : Int) (least : Int) (st : Option (List UInt8)) (ts : List VT) (ns : List ByteArray) (w : World) (e : Ending) (w' : World) : Prop :=
  ∃ t st' VI VN S, e = .returned (.tuple #[]) ∧ PV w' B vb k (ts ++ [t]) (addN dd ns (rdNm dd st).1) VI VN S ∧ SrcL w' g st' ∧ Far vb g w w' ∧ RelN dd d least st t st'
theorem ItemR.g {d g vb B : Nat} {k : Int} {least : Int} {st : Option (List UInt8)} {ts : List VT} {ns : List ByteArray} {w : World} {e : Ending} {w' : World} (h : ItemR d g vb B k least st ts ns w e w') : ItemG false d g vb B k least st ts ns w e w' := h
theorem ItemD.g {d g vb B : Nat} {k : Int} {least : Int} {st : Option (List UInt8)} {ts : List VT} {ns : List ByteArray} {w : World} {e : Ending} {w' : World} (h : ItemD d g vb B k least st ts ns w e w') : ItemG true d g vb B k least st ts ns w e w' := h
/-- The items that a source says are read. -/
def ItemsR (dd : Bool) (d g vb B : Nat) (k : Int) (least : Int) (st : Option (List UInt8)) (w : World) (e : Ending) (w' : World) : Prop :=
  ∃ ts ns st' VI VN S, e = .returned (.tuple #[]) ∧ PV w' B vb k ts ns VI VN S ∧ (ts.length ≤ 5000 ∧ ns.length ≤ 5000) ∧ SrcL w' g st' ∧ Far vb g w w' ∧ RelI dd d least (rdCount 4096 st).1 (rdCount 4096 st).2 ts ns st'
theorem PV.named0 {g vb B : Nat} {k : Int} {VI VN : Value} {S : Nat → Prop} {ts : List VT} {ns : List ByteArray} {w w' : World} (hpv : PV w B vb k ts ns VI VN S) (ho : Only w w' g) (hvg : vb ≠ g) (hg : g < vb) : PV w' B vb k ts ns VI VN S := by
  have hvb := hpv.vb
  obtain ⟨xs, hown, hitems⟩ := hpv.items
  have hb := hpv.box.lt
  have hk : ∀ b, b < w.heap.size → b ≠ g → w'.heap[b]? = w.heap[b]? := fun b h1 h2 => ho.block b h1 (fun e => h2 (by cases e; rfl))
  refine ⟨(hk vb hb hvg).trans hpv.box, hpv.items.keep (fun q hq => ?_) (fun b hb => ?_), ownsRow_keep hpv.names fun q hq => ?_, hpv.small, fun b hb => ?_, hvb⟩
  · have := World.ownsRow.lt hown q hq
    exact hk q this.2 (by omega)
  · obtain ⟨h1, h2, -⟩ := hpv.new b hb
    exact hk b h2 (by omega)
  · have := World.ownsRow.lt hpv.names q hq
    exact hk q this.2 (by omega)
  · obtain ⟨h1, h2, h3, h4⟩ := hpv.new b hb
    exact ⟨h1, Nat.lt_of_lt_of_le h2 ho.size, h3, h4⟩
theorem rdCount_none (n : Int) (st : Option (List UInt8)) (h : (rdCount n st).2 = none) : (rdCount n st).1 = 0 := by
  unfold rdCount at h ⊢
  split
  · rfl
  · rename_i h0
    rw [if_neg h0] at h
    exact rdN_none _ _ h
/-- How many bytes are left of a source. -/
def leftN : Option (List UInt8) → Nat
  | some l => l.length
  | none => 0
theorem cleft_st (g : Nat) (st : Option (List UInt8)) (w : World) (h : SrcL w g st) : Calls Try.prog 75 #[.pointer (some ⟨g, 0, none⟩)] w fun e w' => e = .returned (.int .i64 (leftN st)) ∧ w = w' := by
  rcases st with _ | l
  · exact sleft_none g w h
  · exact sleft_any g l w h
theorem cbad_none (g : Nat) (w : World) (h : SrcL w g none) : Calls Try.prog 31 #[.pointer (some ⟨g, 0, none⟩)] w fun e w' => e = .returned (.bool true) ∧ w = w' := sbad_any g none w h
theorem cbad_some (g : Nat) (l : List UInt8) (w : World) (h : SrcL w g (some l)) : Calls Try.prog 31 #[.pointer (some ⟨g, 0, none⟩)] w fun e w' => e = .returned (.bool false) ∧ w = w' := sbad_any g (some l) w h
theorem cspoil_st (g : Nat) (st : Option (List UInt8)) (w : World) (h : SrcL w g st) : Calls Try.prog 32 #[.pointer (some ⟨g, 0, none⟩)] w fun e w' => e = .returned (.tuple #[]) ∧ SrcL w' g none ∧ Only w w' g := by
  obtain ⟨s, b, h'⟩ : ∃ s b, Src w g s b := by
    rcases st with _ | l
    · exact ⟨_, _, h⟩
    · exact ⟨_, _, h.1⟩
  exact spoil_any g s b w h'
theorem addN_length (dd : Bool) (ns : List ByteArray) (nm : List UInt8) : (addN dd ns nm).length ≤ ns.length + 1 := by unfold addN; split <;> simp
set_option maxHeartbeats 8000000 in
set_option maxRecDepth 100000 in
theorem items_any (dd : Bool) (f d D g vb bb B : Nat) (k : Int) (least : Int) (st : Option (List UInt8)) (VI VN : Value) (S : Nat → Prop) (w : World)
    (hitem : ∀ (st : Option (List UInt8)) (ts : List VT) (ns : List ByteArray) (VI VN : Value) (S : Nat → Prop) (w : World), PV w B vb k ts ns VI VN S → PB w bb D → Dec w D g least (8 - (d : Int)) → SrcL w g st → B ≤ w.heap.size → ts.length ≤ 100000 → ns.length ≤ 100000 →
      Calls Try.prog f #[.pointer (some ⟨vb, 0, none⟩), .pointer (some ⟨bb, 0, none⟩)] w (ItemG dd d g vb B k least st ts ns w))
    (hpv : PV w B vb k [] [] VI VN S) (hpb : PB w bb D) (hd : Dec w D g least (8 - (d : Int))) (hs : SrcL w g st)
    (hDg : D ≠ g) (hbg : bb ≠ g) (hvg : vb ≠ g) (hlt : g < vb ∧ D < vb ∧ bb < vb) (hB : B ≤ w.heap.size) (hcf0 : Enters f) :
    Calls Try.prog 92 #[.pointer (some ⟨D, 0, none⟩), .func (.func f) #[] #[.pointer (some ⟨vb, 0, none⟩), .pointer (some ⟨bb, 0, none⟩)]] w (ItemsR dd d g vb B k least st w) := by
  have hcn := rdCount_le 4096 st (by omega)
  have hcf : ∀ (args : Array Value) (W : World), (callFunc f args).run Try.prog W = .ok (.enter f args) W := hcf0
  have HI := Lib.hid hitem
  have HPV := Lib.hid hpv
  have HPB := Lib.hid hpb
  have HD := Lib.hid hd
  have HS := Lib.hid hs
  have d0 : w.cell? ⟨D, 0, none⟩ = some (.pointer (some ⟨g, 0, none⟩)) := Go.Joins.cell_of_block hd 0
  have hVb := hpv.vb
  clear hitem hpv hpb hd hs hcf0
  go_enter Try.func92, Try.ntmps92
  go_wp2_with (go_at_call 73; refine (scount_any g st 4096 w HS.out (by omega)).mono ?_; rintro e w1 ⟨rfl, hs1, ho1⟩)
  have hf1 : Far vb g w w1 := Far.ofOnly ho1 (by omega)
  have hd1 : Dec w1 D g least (8 - (d : Int)) := (hf1.block D hlt.2.1 hDg).trans HD.out
  have hpb1 : PB w1 bb D := (hf1.block bb hlt.2.2 hbg).trans HPB.out
  have hpv1 : PV w1 B vb k [] [] VI VN S := HPV.out.named0 ho1 hvg hlt.1
  obtain ⟨n, hn⟩ : ∃ n, n = (rdCount 4096 st).1 := ⟨_, rfl⟩
  obtain ⟨st1, hst1⟩ : ∃ st1, st1 = (rdCount 4096 st).2 := ⟨_, rfl⟩
  have hz1 : st1 = none → n = 0 := by rintro rfl; rw [hn]; exact rdCount_none _ _ hst1.symm
  have HN := Lib.hid hn
  have HST := Lib.hid hst1
  have hcn' : n ≤ 4096 := by rw [hn]; exact hcn
  rw [← hst1] at hs1
  rw [← hn]
  have H1 := Lib.hid (And.intro hpv1 (And.intro hs1 (And.intro hf1 (And.intro hpb1 hd1))))
  have hB1 : B ≤ w1.heap.size := Nat.le_trans hB hf1.size
  clear hn hst1 hcn hs1 hf1 hpb1 hd1 hpv1 ho1 d0 HS HPV HPB HD
  go_loopw [9] (fun i wr => ∃ (j : Nat) (ts : List VT) (ns : List ByteArray) (r : Option (List UInt8)) (VI VN : Value) (S : Nat → Prop), i = .int .i64 j ∧ j = ts.length ∧ j ≤ n ∧ ns.length ≤ j ∧
      Hid (PV wr B vb k ts ns VI VN S) ∧ Hid (SrcL wr g r) ∧ Hid (Far vb g w wr) ∧ Hid (PB wr bb D ∧ Dec wr D g least (8 - (d : Int)) ∧ B ≤ wr.heap.size) ∧
      Hid (n = 0 ∧ r = st1 ∧ ts = [] ∧ ns = [] ∨ ∃ l0 l, st1 = some l0 ∧ r = some l ∧ Pre dd d l0 ts ns l)) (fun i _ => n - (intOf i).toNat)
  case atStart =>
    obtain ⟨h1, h2, h3, h4, h5⟩ := H1.out
    refine ⟨0, [], [], st1, VI, VN, S, rfl, rfl, by omega, by simp, h1, h2, h3, ⟨h4, h5, hB1⟩, ?_⟩
    cases hh : st1 with
    | none => exact .inl ⟨hz1 hh, rfl, rfl, rfl⟩
    | some l0 => exact .inr ⟨l0, l0, rfl, rfl, Pre.zero _ _ _⟩
  case round =>
    obtain ⟨j, ts, ns, r, VI, VN, S, rfl, hj, hjn, hnl, HP, HS, HF, HPD, HR⟩ := hrel
    by_cases hlast : j = n
    · have hlt1 : ¬ ((j : Int) < (n : Int)) := by omega
      have hlt2 : decide ((j : Int) < (n : Int)) = false := decide_eq_false hlt1
      go_wp2_with fail
      go_end0
      refine ⟨ts, ns, r, VI, VN, S, rfl, HP.out, ⟨by omega, by omega⟩, HS.out, HF.out, ?_⟩
      rw [← HN.out, ← HST.out]
      rcases HR.out with ⟨h0, rfl, rfl, rfl⟩ | ⟨l0, l, hl0, rfl, hpre⟩
      · rw [h0]
        cases r with
        | none => exact fun _ _ _ _ h => by cases h
        | some l0 => exact ⟨l0, rfl, rfl⟩
      · rw [hl0, ← hlast, hj]
        exact hpre.all
    · have hlt1 : (j : Int) < (n : Int) := by omega
      have hlt2 : decide ((j : Int) < (n : Int)) = true := decide_eq_true hlt1
      rcases HR.out with ⟨h0, -⟩ | ⟨l0, l, hl0, rfl, hpre⟩
      · omega
      go_wp2_with fail
      refine (HI.out (some l) ts ns VI VN S wr HP.out HPD.out.1 HPD.out.2.1 HS.out HPD.out.2.2 (by omega) (by omega)).mono ?_
      rintro e w2 ⟨t, st', VI2, VN2, S2, rfl, hp2, hs2, hf2, hrel2⟩
      have hDl : D < w2.heap.size := Nat.lt_of_lt_of_le HPD.out.2.1.lt hf2.size
      have hd2 : Dec w2 D g least (8 - (d : Int)) := (hf2.block D hlt.2.1 hDg).trans HPD.out.2.1
      have hb2 : PB w2 bb D := (hf2.block bb hlt.2.2 hbg).trans HPD.out.1
      have hB2 : B ≤ w2.heap.size := Nat.le_trans HPD.out.2.2 hf2.size
      have d0 : w2.cell? ⟨D, 0, none⟩ = some (.pointer (some ⟨g, 0, none⟩)) := Go.Joins.cell_of_block hd2 0
      have d1 : w2.cell? ⟨D, 1, none⟩ = some (.int .i64 least) := Go.Joins.cell_of_block hd2 1
      have HP2 := Lib.hid hp2
      have HS2 := Lib.hid hs2
      have HF2 := Lib.hid (HF.out.trans hf2)
      have HPD2 := Lib.hid (And.intro hb2 (And.intro hd2 hB2))
      have HREL := Lib.hid hrel2
      have HPRE := Lib.hid hpre
      clear hp2 hs2 hf2 hd2 hb2 hrel2 hpre HP HS HF HPD HR
      have hod : Only w2 w2.drew g := ⟨rfl, rfl, rfl, Nat.le_refl _, fun _ _ _ => rfl⟩
      go_wp2_with fail
      by_cases hl : (leftN st' : Int) < least
      · have hl2 : decide ((leftN st' : Int) < least) = true := decide_eq_true hl
        refine wp_region_mix [0, 1, 2, 3, 5, 6, 7, 8, 4, 9] (by kernel_rfl) (by kernel_rfl) (fun _ d _ _ _ h => by cases d <;> exact h) ?_
        simp only [atNats, List.filterMap_cons, List.filterMap_nil, List.getElem?_toArray, List.getElem?_cons_succ, List.getElem?_cons_zero]
        have c0 := cell_later (B := w2.heap.size) (w := w2.drew) d0 hDl
        have c1 := cell_later (B := w2.heap.size) (w := w2.drew) d1 hDl
        first | refine mix_pure ?_ | refine mix_pureB ?_
        simp only [List.takeWhile, List.dropWhile, isPure, Nat.reduceBNe]
        repeat (go_big_quiet_step (fail))
        refine wpQuiet_nil ?_
        first | refine mix_call rfl (fun K hK => ?_) | refine mix_callB rfl (fun K hK => ?_)
        go_simp
        refine (cleft_st g _ w2.drew (HS2.out.of rfl)).mono ?_
        rintro e u ⟨rfl, rfl⟩
        refine hK _ _ (Below.refl _ _) ?_
        clear hK K
        try simp only [Act.put]
        first | refine mix_pure ?_ | refine mix_pureB ?_
        simp only [List.takeWhile, List.dropWhile, isPure, Nat.reduceBNe]
        repeat (go_big_quiet_step (fail))
        refine wpQuiet_nil ?_
        unfold wpMix
        clear c0 c1
        have d2 : w2.drew.cell? ⟨D, 0, none⟩ = some (.pointer (some ⟨g, 0, none⟩)) := d0
        go_wp2_with (go_at_call 32; refine (cspoil_st g _ w2.drew (HS2.out.of rfl)).mono ?_; rintro e w3 ⟨rfl, hs3, ho3⟩; have d3 : w3.cell? ⟨D, 0, none⟩ = some (.pointer (some ⟨g, 0, none⟩)) := (World.cell?_of_block (a := ⟨D, 0, none⟩) (ho3.block D hDl (by rintro ⟨⟩; exact hDg rfl))).trans d2; have HS3 := Lib.hid hs3; have HO3 := Lib.hid ho3; have hDl3 : D < w3.heap.size := Nat.lt_of_lt_of_le hDl ho3.size; clear hs3 ho3 d0 d1 d2 hod)
        go_must (refine (cbad_none g _ HS3.out).mono ?_; rintro e w4 ⟨rfl, rfl⟩)
        go_wp2_with fail
        refine bodyPost_ret (results_none rfl _ _ _) rfl ?_
        have ho3 := HO3.out
        have hod : Only w2 w2.drew g := ⟨rfl, rfl, rfl, Nat.le_refl _, fun _ _ _ => rfl⟩
        refine ⟨_, _, none, VI2, VN2, S2, rfl, (HP2.out.named0 hod hvg hlt.1).named0 ho3 hvg hlt.1, ⟨by simp; omega, by have := addN_length dd ns (rdNm dd (some l)).1; omega⟩, HS3.out, (HF2.out.drew).trans (Far.ofOnly ho3 (by have := HP2.out.vb; have := HPD2.out.2.2; simp; omega)), ?_⟩
        rw [← HN.out, ← HST.out, hl0]
        rcases st' with _ | r2
        · exact HPRE.out.bad (by omega) HREL.out
        · obtain ⟨lx, hx1, hx2⟩ := HREL.out
          refine (HPRE.out.step (nm := (rdNm dd (some l)).1) (r1 := lx) (by rw [← hx1]) hx2).least (by simp; omega) hl
      · have hl2 : decide ((leftN st' : Int) < least) = false := decide_eq_false hl
        rcases st' with _ | r2
        · skip
          refine wp_region_mix [0, 1, 2, 3, 5, 6, 7, 8, 4, 9] (by kernel_rfl) (by kernel_rfl) (fun _ d _ _ _ h => by cases d <;> exact h) ?_
          simp only [atNats, List.filterMap_cons, List.filterMap_nil, List.getElem?_toArray, List.getElem?_cons_succ, List.getElem?_cons_zero]
          have c0 := cell_later (B := w2.heap.size) (w := w2.drew) d0 hDl
          have c1 := cell_later (B := w2.heap.size) (w := w2.drew) d1 hDl
          first | refine mix_pure ?_ | refine mix_pureB ?_
          simp only [List.takeWhile, List.dropWhile, isPure, Nat.reduceBNe]
          repeat (go_big_quiet_step (fail))
          refine wpQuiet_nil ?_
          first | refine mix_call rfl (fun K hK => ?_) | refine mix_callB rfl (fun K hK => ?_)
          go_simp
          refine (cleft_st g _ w2.drew (HS2.out.of rfl)).mono ?_
          rintro e u ⟨rfl, rfl⟩
          refine hK _ _ (Below.refl _ _) ?_
          clear hK K
          try simp only [Act.put]
          first | refine mix_pure ?_ | refine mix_pureB ?_
          simp only [List.takeWhile, List.dropWhile, isPure, Nat.reduceBNe]
          repeat (go_big_quiet_step (fail))
          refine wpQuiet_nil ?_
          unfold wpMix
          clear c0 c1
          have d2 : w2.drew.cell? ⟨D, 0, none⟩ = some (.pointer (some ⟨g, 0, none⟩)) := d0
          go_wp2_with (go_at_call 31; refine (cbad_none g w2.drew (HS2.out.of rfl)).mono ?_; rintro e w4 ⟨rfl, rfl⟩)
          refine bodyPost_ret (results_none rfl _ _ _) rfl ?_
          refine ⟨_, _, none, VI2, VN2, S2, rfl, HP2.out.named0 hod hvg hlt.1, ⟨by simp; omega, by have := addN_length dd ns (rdNm dd (some l)).1; omega⟩, HS2.out.of rfl, HF2.out.drew, ?_⟩
          rw [← HN.out, ← HST.out, hl0]
          exact HPRE.out.bad (by omega) HREL.out
        · skip
          refine wp_region_mix [0, 1, 2, 3, 5, 6, 7, 8, 4, 9] (by kernel_rfl) (by kernel_rfl) (fun _ d _ _ _ h => by cases d <;> exact h) ?_
          simp only [atNats, List.filterMap_cons, List.filterMap_nil, List.getElem?_toArray, List.getElem?_cons_succ, List.getElem?_cons_zero]
          have c0 := cell_later (B := w2.heap.size) (w := w2.drew) d0 hDl
          have c1 := cell_later (B := w2.heap.size) (w := w2.drew) d1 hDl
          first | refine mix_pure ?_ | refine mix_pureB ?_
          simp only [List.takeWhile, List.dropWhile, isPure, Nat.reduceBNe]
          repeat (go_big_quiet_step (fail))
          refine wpQuiet_nil ?_
          first | refine mix_call rfl (fun K hK => ?_) | refine mix_callB rfl (fun K hK => ?_)
          go_simp
          refine (cleft_st g _ w2.drew (HS2.out.of rfl)).mono ?_
          rintro e u ⟨rfl, rfl⟩
          refine hK _ _ (Below.refl _ _) ?_
          clear hK K
          try simp only [Act.put]
          first | refine mix_pure ?_ | refine mix_pureB ?_
          simp only [List.takeWhile, List.dropWhile, isPure, Nat.reduceBNe]
          repeat (go_big_quiet_step (fail))
          refine wpQuiet_nil ?_
          unfold wpMix
          clear c0 c1
          have d2 : w2.drew.cell? ⟨D, 0, none⟩ = some (.pointer (some ⟨g, 0, none⟩)) := d0
          go_wp2_with (go_at_call 31; refine (cbad_some g r2 w2.drew (HS2.out.of rfl)).mono ?_; rintro e w4 ⟨rfl, rfl⟩)
          go_roundw
          case rel =>
            obtain ⟨lx, hx1, hx2⟩ := HREL.out
            refine ⟨j + 1, _, _, some r2, VI2, VN2, S2, by go_num, by simp [hj], by omega, ?_, HP2.out.named0 hod hvg hlt.1, HS2.out.of rfl, HF2.out.drew, ⟨HPD2.out.1, HPD2.out.2.1, HPD2.out.2.2⟩, .inr ⟨l0, r2, hl0, rfl, HPRE.out.step (nm := (rdNm dd (some l)).1) (r1 := lx) (by rw [← hx1]) hx2⟩⟩
            have := addN_length dd ns (rdNm dd (some l)).1
            omega
          case measure => simp [intOf]; omega
end Go.Proofs.Ytipiplnhbecjeaa
