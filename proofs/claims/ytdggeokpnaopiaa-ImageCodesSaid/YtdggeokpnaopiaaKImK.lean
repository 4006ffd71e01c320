/- Images of the call's own; what must come of every program of the layer, comes. -/
import Derived.Test.YtdggeokpnaopiaaKImH
import Derived.Test.YtdggeokpnaopiaaKImG
import Derived.Test.YtdggeokpnaopiaaKRefQ
import Derived.Test.YtdggeokpnaopiaaKRefZ
import Derived.Test.YtdggeokpnaopiaaKVr
namespace Go.Proofs.Ytdggeokpnaopiaa
set_option linter.unusedVariables false
set_option linter.unusedSimpArgs false
open Go.RowKit
set_option maxRecDepth 100000
/-- Where the documents of a call's own images may lie. -/
def NearS (W w : World) (g : Nat) : Nat → Prop := fun b => W.heap.size ≤ b ∧ b ≠ g ∧ b < w.heap.size
/-- Images of the call's own: in block g, which is new since W. -/
structure ImL (W w : World) (g : Nat) (m : ImT) : Prop where
  at_ : ImAt w (NearS W w g) g m
  new : W.heap.size ≤ g
  below : Below W.heap.size W w
  fine : m.Fine
  good : m.Good
section
variable {W w w' : World} {g : Nat} {m : ImT}
theorem NearS.lt : ∀ b, NearS W w g b → b < w.heap.size := fun _ h => h.2.2
theorem NearS.self : ¬ NearS W w g g := fun h => h.2.1 rfl
theorem ImL.stay (h : ImL W w g m) (hb : Below w.heap.size w w') : ImL W w' g m :=
  ⟨(h.at_.below NearS.lt hb).imp fun b hb' => ⟨hb'.1, hb'.2.1, Nat.lt_of_lt_of_le hb'.2.2 hb.size⟩, h.new, h.below.trans (hb.mono h.below.size), h.fine, h.good⟩
theorem ImL.made {e : Ending} (hb : Below W.heap.size W w) (h : NewIR w m e w') (hf : m.Fine) (hg : m.Good) : e = .returned (.tuple #[.pointer (some ⟨w.heap.size, 0, none⟩), .int .i64 0]) ∧ ImL W w' w.heap.size m :=
  ⟨h.1, h.2.1.imp fun _ h => h.elim, hb.size, hb.trans (h.2.2.mono hb.size), hf, hg⟩
theorem below_only {B : Nat} {a b c : World} {p : Nat} (h : Below B a b) (k : Only b c p) (hB : B ≤ b.heap.size) (hp : B ≤ p) : Below B a c :=
  h.trans ⟨k.os, k.tape, k.output, k.size, fun i hi => k.block i (by omega) (by rintro ⟨⟩; omega)⟩
theorem ImL.noted {o : Option VT} {e : Ending} (h : ImL W w g m) (hn : NoteR w (NearS W w g) g (m.note o) e w') (ht : m.top < 4611686018427387904) (ho : ∀ t, o = some t → checkT t = 0 ∧ sizeT t ≤ 9223372036854775807) : e = .returned (.int .i64 0) ∧ ImL W w' g (m.note o) := by
  obtain ⟨h1, h2, h3⟩ := hn
  refine ⟨h1, h2.imp fun b hb => ?_, h.new, below_only h.below h3 h.below.size h.new, note_fine h.fine o ht, note_good h.good o ho⟩
  rcases hb with hb | hb
  · exact ⟨hb.1, hb.2.1, Nat.lt_of_lt_of_le hb.2.2 h3.size⟩
  · exact ⟨Nat.le_trans h.below.size hb.1, fun e => by have := h.at_.lt; have := hb.1; omega, hb.2⟩
theorem ImL.forked {e : Ending} (h : ImL W w g m) (hn : ForkR w (NearS W w g) m e w') : e = .returned (.pointer (some ⟨w.heap.size, 0, none⟩)) ∧ ImL W w' w.heap.size m ∧ ImL W w' g m := by
  obtain ⟨h1, h2, h3⟩ := hn
  refine ⟨h1, ⟨h2.imp fun b hb => ⟨hb.1, fun e => by have := hb.2.2; omega, Nat.lt_of_lt_of_le hb.2.2 h3.size⟩, h.below.size, h.below.trans (h3.mono h.below.size), h.fine, h.good⟩, h.stay h3⟩
end
theorem new_good (keep base : Int) : (newI keep base).Good := fun j t h => by cases h
def intT (i : Int) : VT := .mk 3 i eS [] []
theorem int_lv (w : World) (S : Nat → Prop) (i : Int) (h : Rng i) : LV w S (intT i) (.agg #[.int .i64 3, .int .i64 i, .string eS, .slice none 0 0, .slice none 0 0]) :=
  LV.mk (by unfold Rng; omega) h (by decide) (by simp) (by simp) (strs_nil _ _ _) (lva_nil _ _ _)
theorem int1_ok : checkT (intT 1) = 0 ∧ sizeT (intT 1) ≤ 9223372036854775807 := by
  have h : sizeT (intT 1) = 2 := by kernel_rfl
  have hm : mayT (intT 1) = true := by kernel_rfl
  have hd : depthT (intT 1) = 1 := by kernel_rfl
  exact ⟨(check_zero (by rw [h]; decide)).2 ⟨hm, by rw [hd]; decide, by rw [h]; decide⟩, by rw [h]; decide⟩
theorem int3_ok : checkT (intT 3) = 0 ∧ sizeT (intT 3) ≤ 9223372036854775807 := by
  have h : sizeT (intT 3) = 2 := by kernel_rfl
  have hm : mayT (intT 3) = true := by kernel_rfl
  have hd : depthT (intT 3) = 1 := by kernel_rfl
  exact ⟨(check_zero (by rw [h]; decide)).2 ⟨hm, by rw [hd]; decide, by rw [h]; decide⟩, by rw [h]; decide⟩
def lv0 : ImT := newI 2 0
def lv1 : ImT := lv0.note (some (intT 1))
def lv2 : ImT := lv1.note none
def lv3 : ImT := lv2.note (some (intT 3))
def lvm : Nat → ImT
  | 0 => lv0
  | 1 => lv0
  | 2 => lv1
  | 3 => lv2
  | _ => lv3
theorem g3 : lv3.got 3 = (intT 3, 2, 0) := by rfl
theorem g1 : lv3.got 1 = (zeroT, 3, 0) := by rfl
theorem g2 : lv3.got 2 = (zeroT, 1, 0) := by rfl
theorem g4 : lv3.got 4 = (zeroT, 0, 4) := by rfl
theorem lv3_code : lv3.code = [2, 0, 3, 0, 1, 3, 6] := by
  have h : encO (intT 3) = [3, 6] := by unfold encO; rw [if_pos int3_ok.1]; kernel_rfl
  have h2 : lv3.at 2 = none := rfl
  have h3 : lv3.at 3 = some (intT 3) := rfl
  have h4 : cntI lv3 3 = [2, 0, 3] := by decide
  have h5 : lv3.cnt = 2 := by decide
  have h6 : (max lv3.base (lv3.top - lv3.keep) + 1).toNat = 2 := by decide
  unfold ImT.code
  rw [h4, h5, h6]
  have e : lv3.marks 2 2 = markK (lv3.at 2) ++ markK (lv3.at 3) := by rw [show (2 : Nat) = 0 + 1 + 1 from rfl, marks_succ, marks_succ]; rfl
  rw [e, h2, h3]
  simp [markK, h]
theorem lv3_read : ∃ m, rdImg (some [2, 0, 3, 0, 1, 3, 6]) = (some m, some []) := by
  have r3 : readO (some [3, 6]) = (intT 3, some []) := by
    have h : readS [3, 6] = some (intT 3, []) := by
      unfold readS
      have h1 : rdW 8 [3, 6] = some (intT 3, []) := by kernel_rfl
      rw [h1]
      simp [int3_ok.1]
    rw [readO_some, h]
  have e0 : rdCount 64 (some [2, 0, 3, 0, 1, 3, 6]) = (2, some [0, 3, 0, 1, 3, 6]) := by decide
  have e1 : rdCount 1099511627776 (some [0, 3, 0, 1, 3, 6]) = (0, some [3, 0, 1, 3, 6]) := by decide
  have e2 : rdCount 1099511627776 (some [3, 0, 1, 3, 6]) = (3, some [0, 1, 3, 6]) := by decide
  have k0 : rdKept (some [0, 1, 3, 6]) = (zeroT, false, some [1, 3, 6]) := by rfl
  have k1 : rdKept (some [1, 3, 6]) = (intT 3, true, some []) := by
    have hb : rdByte (some [1, 3, 6]) = (1, some [3, 6]) := rfl
    unfold rdKept
    rw [hb]
    simp [r3]
  unfold rdImg
  rw [e0]
  simp only [e1, e2]
  have e3 : (3 - max 0 (3 - 2) : Nat) = 2 := rfl
  rw [e3, if_neg (by decide)]
  unfold rdRing
  rw [k0]
  unfold rdRing
  rw [k1]
  exact ⟨_, rfl⟩
set_option maxHeartbeats 16000000 in
theorem lives16_any (w : World) : Calls Try.prog 9 #[] w fun e w' => e = .returned (.bool true) ∧ Below w.heap.size w w' := by
  go_enter Try.func9, Try.ntmps9
  go_wp2_with fail
  refine (inew_any 2 0 w (by decide)).mono ?_
  rintro e w1 h1
  obtain ⟨rfl, l1⟩ := ImL.made (W := w) (Below.refl _ _) h1 (new_fine (by decide)) (new_good _ _)
  have L1 := Lib.hid l1
  clear h1 l1
  go_wp2_with fail
  refine (inew_bad (-1) 0 w1 (by decide)).mono ?_
  rintro e w2 ⟨rfl, hb2⟩
  have L2 : Hid (ImL w w2 w.heap.size (lvm 1)) := Lib.hid (L1.out.stay hb2)
  clear L1 hb2
  obtain ⟨G, hG⟩ : ∃ G, G = w.heap.size := ⟨_, rfl⟩
  have HG := Lib.hid hG
  rw [← hG] at L2 ⊢
  clear hG
  go_wp2_with fail
  go_loopw [5] (fun i wr => ∃ k : Nat, i = .int .i64 k ∧ 1 ≤ k ∧ k ≤ 4 ∧ Hid (ImL w wr G (lvm k))) (fun i _ => 4 - (intOf i).toNat)
  case atStart => exact ⟨1, rfl, by omega, by omega, L2⟩
  case round =>
    clear L2
    obtain ⟨k, rfl, hk1, hk4, L⟩ := hrel
    rcases (by omega : k = 1 ∨ k = 2 ∨ k = 3 ∨ k = 4) with rfl | rfl | rfl | rfl
    · have HN := Lib.hid (inote_any (v := .agg #[.int .i64 3, .int .i64 1, .string eS, .slice none 0 0, .slice none 0 0]) true L.out.at_ L.out.fine NearS.lt NearS.self (S' := fun _ => False) (fun _ h => h.elim) (fun h => h) (int_lv wr _ 1 (by unfold Rng; omega)) (by rw [show depthT (intT 1) = 1 from by kernel_rfl]; omega) (fun _ => int1_ok.1))
      go_wp2_with fail
      refine HN.out.mono ?_
      rintro e w3 hn
      obtain ⟨rfl, l3⟩ := L.out.noted hn (by decide) (fun t h => by injection h with h; subst h; exact int1_ok)
      have L3 : Hid (ImL w w3 G (lvm 2)) := Lib.hid l3
      clear hn HN l3
      go_wp2_with fail
      go_roundw
      case rel => exact ⟨2, by go_num, by omega, by omega, L3⟩
      case measure => simp [intOf]
    · have HN := Lib.hid (inote_any (v := .agg #[.int .i64 3, .int .i64 2, .string eS, .slice none 0 0, .slice none 0 0]) false L.out.at_ L.out.fine NearS.lt NearS.self (S' := fun _ => False) (fun _ h => h.elim) (fun h => h) (int_lv wr _ 2 (by unfold Rng; omega)) (by rw [show depthT (intT 2) = 1 from by kernel_rfl]; omega) (fun h => by cases h))
      go_wp2_with fail
      refine HN.out.mono ?_
      rintro e w3 hn
      obtain ⟨rfl, l3⟩ := L.out.noted (o := none) hn (by decide) (fun t h => by cases h)
      have L3 : Hid (ImL w w3 G (lvm 3)) := Lib.hid l3
      clear hn HN l3
      go_wp2_with fail
      go_roundw
      case rel => exact ⟨3, by go_num, by omega, by omega, L3⟩
      case measure => simp [intOf]
    · have HN := Lib.hid (inote_any (v := .agg #[.int .i64 3, .int .i64 3, .string eS, .slice none 0 0, .slice none 0 0]) true L.out.at_ L.out.fine NearS.lt NearS.self (S' := fun _ => False) (fun _ h => h.elim) (fun h => h) (int_lv wr _ 3 (by unfold Rng; omega)) (by rw [show depthT (intT 3) = 1 from by kernel_rfl]; omega) (fun _ => int3_ok.1))
      go_wp2_with fail
      refine HN.out.mono ?_
      rintro e w3 hn
      obtain ⟨rfl, l3⟩ := L.out.noted hn (by decide) (fun t h => by injection h with h; subst h; exact int3_ok)
      have L3 : Hid (ImL w w3 G (lvm 4)) := Lib.hid l3
      clear hn HN l3
      go_wp2_with fail
      go_roundw
      case rel => exact ⟨4, by go_num, by omega, by omega, L3⟩
      case measure => simp [intOf]
    · have L4 : Hid (ImL w wr G lv3) := L
      clear L
      go_wp2_with fail
      refine (iget_any L4.out.at_ L4.out.fine NearS.lt 3).mono ?_
      rintro e w3 ⟨v3, rfl, hv3, hb3⟩
      rw [g3] at hv3
      simp only [g3]
      obtain ⟨A, c, A', c', rfl, -⟩ := hv3.shape
      have hb4 := (below_box (w := w3) (.cells #[.int .i64 3, .int .i64 3, .string eS, .slice A 0 c, .slice A' 0 c'] 36))
      have L5 := Lib.hid ((L4.out.stay hb3).stay hb4)
      have HX5 : Hid (Box (w3.alloc (.cells #[.int .i64 3, .int .i64 3, .string eS, .slice A 0 c, .slice A' 0 c'] 36)) w3.heap.size _ _ _ _ _) := Lib.hid (Box.new _ _ _ _ _)
      clear hv3 hb3 hb4 L4
      go_wp2_with fail
      refine (iget_any L5.out.at_ L5.out.fine NearS.lt 1).mono ?_
      rintro e w6 ⟨v6, rfl, hv6, hb6⟩
      rw [g1] at hv6
      simp only [g1]
      obtain ⟨A6, c6, A6', c6', rfl, -⟩ := hv6.shape
      have hc6 := below_box (w := w6) (.cells #[.int .i64 0, .int .i64 0, .string eS, .slice A6 0 c6, .slice A6' 0 c6'] 36)
      have L6 := Lib.hid ((L5.out.stay hb6).stay hc6)
      have HX6 := Lib.hid ((HX5.out.call hb6).call hc6)
      clear hv6 hb6 hc6 L5 HX5
      go_wp2_with fail
      refine (iget_any L6.out.at_ L6.out.fine NearS.lt 2).mono ?_
      rintro e w7 ⟨v7, rfl, hv7, hb7⟩
      rw [g2] at hv7
      simp only [g2]
      obtain ⟨A7, c7, A7', c7', rfl, -⟩ := hv7.shape
      have hc7 := below_box (w := w7) (.cells #[.int .i64 0, .int .i64 0, .string eS, .slice A7 0 c7, .slice A7' 0 c7'] 36)
      have L7 := Lib.hid ((L6.out.stay hb7).stay hc7)
      have HX7 := Lib.hid ((HX6.out.call hb7).call hc7)
      clear hv7 hb7 hc7 L6 HX6
      go_wp2_with fail
      refine (iget_any L7.out.at_ L7.out.fine NearS.lt 4).mono ?_
      rintro e w8 ⟨v8, rfl, hv8, hb8⟩
      rw [g4] at hv8
      simp only [g4]
      obtain ⟨A8, c8, A8', c8', rfl, -⟩ := hv8.shape
      have hc8 := below_box (w := w8) (.cells #[.int .i64 0, .int .i64 0, .string eS, .slice A8 0 c8, .slice A8' 0 c8'] 36)
      have L8 := Lib.hid ((L7.out.stay hb8).stay hc8)
      have HX8 := Lib.hid ((HX7.out.call hb8).call hc8)
      clear hv8 hb8 hc8 L7 HX7
      go_wp2_with fail
      refine (icode_any L8.out.at_ L8.out.fine L8.out.good NearS.lt).mono ?_
      rintro e w9 ⟨v9, rfl, hv9, hb9⟩
      rw [lv3_code] at hv9
      have L9 := Lib.hid (L8.out.stay hb9)
      have HX9 := Lib.hid (HX8.out.call hb9)
      have HW9 := Lib.hid L9.out.below.size
      have HC := Lib.hid (from_any v9 _ w9 hv9.conv)
      obtain ⟨A9, c9, rfl⟩ := hv9.slice
      clear hv9 hb9 L8 HX8
      go_wp2_with fail
      refine HC.out.mono ?_
      rintro e w10 ⟨rfl, hs10, hb10⟩
      have hx10 := HX9.out.call hb10
      have r1 := hx10.c1
      have L10 := Lib.hid (L9.out.stay hb10)
      have HSRC : Hid (SrcL w10 w9.heap.size (some [2, 0, 3, 0, 1, 3, 6])) := Lib.hid ⟨hs10, by decide⟩
      clear hs10 hb10 hx10 L9 HX9 HC
      go_wp2_with fail
      refine (itop_any L10.out.at_).mono ?_
      rintro e w11 ⟨rfl, rfl⟩
      have ht3 : lv3.top = 3 := by decide
      rw [ht3]
      go_wp2_with fail
      refine (ifork_any L10.out.at_ NearS.lt).mono ?_
      rintro e w12 hf
      obtain ⟨rfl, l12, -⟩ := L10.out.forked hf
      have HB12 := Lib.hid l12.below
      have HSRC12 := Lib.hid (HSRC.out.keep hf.2.2 HSRC.out.lt)
      clear hf l12 r1 ht3 L10 HSRC
      go_wp2_with fail
      refine (iread_any _ _ _ HSRC12.out).mono ?_
      rintro e w13 ⟨hs13, ho13, hm13⟩
      obtain ⟨mm, hmm⟩ := lv3_read
      rw [hmm] at hs13 hm13
      obtain ⟨rfl, -⟩ := hm13
      have HB13 : Hid (Below w.heap.size w w13) := Lib.hid (below_only HB12.out ho13 HB12.out.size HW9.out)
      have HS13 : Hid (SrcL w13 w9.heap.size (some [])) := Lib.hid hs13
      clear hs13 ho13 hmm HSRC12 HB12
      go_wp2_with fail
      refine (sdone_any _ [] _ HS13.out).mono ?_
      rintro e w14 ⟨rfl, rfl⟩
      go_wp2_with fail
      go_ret
      exact ⟨rfl, HB13.out⟩
end Go.Proofs.Ytdggeokpnaopiaa

/- Images: the document's own May; a document noted, and others behind it. -/
namespace Go.Proofs.Ytdggeokpnaopiaa
set_option linter.unusedVariables false
set_option linter.unusedSimpArgs false
open Go.RowKit
set_option maxRecDepth 100000
set_option maxHeartbeats 4000000 in
theorem rmay16_any (keep base : Int) (w : World) : Calls Try.prog 10 #[.int .i64 keep, .int .i64 base] w fun e w' => e = .returned (.bool (mayI keep base)) ∧ w' = w := by
  have HM : Hid (mayI keep base = (decide (0 ≤ keep) && decide (keep ≤ 64) && decide (0 ≤ base) && decide (base ≤ 1099511627776))) := Lib.hid rfl
  generalize mayI keep base = R at *
  go_enter Try.func10, Try.ntmps10
  by_cases h1 : 0 ≤ keep
  · by_cases h2 : keep ≤ 64
    · by_cases h3 : 0 ≤ base
      · by_cases h4 : base ≤ 1099511627776
        · go_wp2_with fail
          go_ret
          exact ⟨by rw [HM.out]; simp [h1, h2, h3, h4], rfl⟩
        · go_wp2_with fail
          go_ret
          exact ⟨by rw [HM.out]; simp [h1, h2, h3]; omega, rfl⟩
      · go_wp2_with fail
        go_ret
        exact ⟨by rw [HM.out]; simp [h1, h2]; omega, rfl⟩
    · go_wp2_with fail
      go_ret
      exact ⟨by rw [HM.out]; simp [h1]; omega, rfl⟩
  · go_wp2_with fail
    go_ret
    exact ⟨by rw [HM.out]; simp; omega, rfl⟩
/-- One document was noted, and k times none behind it. -/
def Exp (keep : Int) (t : VT) (k : Nat) (m : ImT) : Prop := m.keep = keep ∧ m.base = 0 ∧ m.top = 1 + k ∧ ((k : Int) < keep → m.ring (1 % keep.toNat) = some t)
theorem exp_first {keep : Int} (hk : 0 ≤ keep) (t : VT) : Exp keep t 0 ((newI keep 0).note (some t)) := by
  unfold Exp
  refine ⟨?_, ?_, by rw [note_top]; rfl, fun h => ?_⟩
  · unfold ImT.note; split <;> rfl
  · unfold ImT.note; split <;> rfl
  · unfold ImT.note
    have h0 : ¬ (newI keep 0).keep = 0 := by show ¬ keep = 0; omega
    rw [if_neg h0]
    have e : ((newI keep 0).top + 1).toNat = 1 := rfl
    have e2 : (newI keep 0).keep.toNat = keep.toNat := rfl
    simp only [e, e2, if_true]
theorem exp_next {keep : Int} {t : VT} {k : Nat} {m : ImT} (hk : 0 ≤ keep) (h : Exp keep t k m) : Exp keep t (k + 1) (m.note none) := by
  obtain ⟨h1, h2, h3, h4⟩ := h
  refine ⟨?_, ?_, by rw [note_top, h3]; push_cast; omega, fun h => ?_⟩
  · unfold ImT.note; split <;> exact h1
  · unfold ImT.note; split <;> exact h2
  · have h5 := h4 (by omega)
    unfold ImT.note
    have h0 : ¬ m.keep = 0 := by omega
    rw [if_neg h0]
    have e : (m.top + 1).toNat = k + 2 := by omega
    have hne : ¬ (1 % keep.toNat = (m.top + 1).toNat % m.keep.toNat) := by
      rw [e, h1]
      have hkn : k + 1 < keep.toNat := by omega
      obtain ⟨K, hK⟩ : ∃ K, K = keep.toNat := ⟨_, rfl⟩
      rw [← hK] at hkn ⊢
      have e1 : 1 % K = 1 := Nat.mod_eq_of_lt (by omega)
      rw [e1]
      rcases (by omega : k + 2 < K ∨ k + 2 = K) with h' | h'
      · rw [Nat.mod_eq_of_lt h']; omega
      · rw [h', Nat.mod_self]; omega
    simp only [if_neg hne]
    exact h5
theorem exp_gone {keep : Int} {t : VT} {k : Nat} {m : ImT} (h : Exp keep t k m) (hk : keep ≤ k) : m.got 1 = (zeroT, 3, 0) := by
  obtain ⟨h1, h2, h3, -⟩ := h
  unfold ImT.got
  rw [if_neg (by omega), if_pos (by omega)]
theorem exp_here {keep : Int} {t : VT} {k : Nat} {m : ImT} (h : Exp keep t k m) (hk : (k : Int) < keep) : m.got 1 = (t, 2, 0) := by
  obtain ⟨h1, h2, h3, h4⟩ := h
  unfold ImT.got
  rw [if_neg (by omega), if_neg (by omega)]
  have e : (1 : Int).toNat % m.keep.toNat = 1 % keep.toNat := by rw [h1]; rfl
  rw [e, h4 hk]
end Go.Proofs.Ytdggeokpnaopiaa
