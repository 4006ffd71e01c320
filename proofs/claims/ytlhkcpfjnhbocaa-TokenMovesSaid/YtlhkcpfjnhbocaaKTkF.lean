/- Where tokens are at home, by the program. -/
import Derived.Test.YtlhkcpfjnhbocaaKTkE
namespace Go.Proofs.Ytlhkcpfjnhbocaa
set_option linter.unusedVariables false
set_option linter.unusedSimpArgs false
open Go.RowKit
set_option maxRecDepth 100000
/-- A row of entries, by their terms, in blocks below B. -/
def TermsAt (w : World) (B : Nat) (A : Option Addr) (ts : List Int) : Prop :=
  0 < ts.length → ∃ b off, A = some ⟨b, off, none⟩ ∧ b < B ∧ ∀ i (h : i < ts.length), w.cell? ⟨b, off + i * 17, none⟩ = some (.int .i64 ts[i])
theorem TermsAt.keep {w w' : World} {B : Nat} {A : Option Addr} {ts : List Int} (h : TermsAt w B A ts) (hb : Below B w w') : TermsAt w' B A ts := fun hl => by
  obtain ⟨b, off, hA, hbB, hc⟩ := h hl
  exact ⟨b, off, hA, hbB, fun i hi => (hb.cell (p := ⟨b, off + i * 17, none⟩) hbB).trans (hc i hi)⟩
theorem TermsAt.up {w : World} {B B' : Nat} {A : Option Addr} {ts : List Int} (h : TermsAt w B A ts) (hb : B ≤ B') : TermsAt w B' A ts := fun hl => by
  obtain ⟨b, off, hA, hbB, hc⟩ := h hl
  exact ⟨b, off, hA, by omega, hc⟩
theorem TermsAt.nil (w : World) (B : Nat) (A : Option Addr) : TermsAt w B A [] := fun h => absurd h (by simp)
/-- The term of an index. -/
def termT (i first base : Int) (ts : List Int) : Int × Bool :=
  if i < first then (base, true) else match ts[(i - first).toNat]? with
    | some t => (t, true)
    | none => (0, false)
set_option maxHeartbeats 4000000 in
theorem tterm_any (i first base : Int) (B c : Nat) (A : Option Addr) (ts : List Int) (w : World) (h : TermsAt w B A ts) (h1 : 1 ≤ first) (hf : first - 1 ≤ i) (hi : i ≤ 9223372036854775807) (hl : ts.length ≤ 9223372036854775807) :
    Calls Try.prog 48 #[.int .i64 i, .int .i64 first, .int .i64 base, .slice A ts.length c] w fun e w' => e = .returned (.tuple #[.int .i64 (termT i first base ts).1, .bool (termT i first base ts).2]) ∧ w = w' := by
  have H := Lib.hid h
  by_cases hn : i < first
  · have e : termT i first base ts = (base, true) := by unfold termT; rw [if_pos hn]
    rw [e]
    have hlt : i - first < 0 := by omega
    clear h e H hn
    go_enter Try.func48, Try.ntmps48
    go_wp2_with fail
    go_ret2
    exact ⟨rfl, rfl⟩
  · have hge : ¬ i - first < 0 := by omega
    have hge2 : 0 ≤ i - first := by omega
    by_cases hlt : (i - first).toNat < ts.length
    · have e : termT i first base ts = (ts[(i - first).toNat], true) := by unfold termT; rw [if_neg hn, List.getElem?_eq_getElem hlt]
      rw [e]
      obtain ⟨b, off, rfl, hbB, hc⟩ := h (by omega)
      have hcell := hc _ hlt
      have hlt2 : i - first < (ts.length : Int) := by omega
      obtain ⟨x, hx⟩ : ∃ x, x = ts[(i - first).toNat] := ⟨_, rfl⟩
      rw [← hx] at hcell ⊢
      clear h hc e H hx hn
      go_enter Try.func48, Try.ntmps48
      go_wp2_with fail
      go_ret2
      exact ⟨rfl, rfl⟩
    · have e : termT i first base ts = (0, false) := by unfold termT; rw [if_neg hn, List.getElem?_eq_none (by omega)]
      rw [e]
      have hlt2 : ¬ i - first < (ts.length : Int) := by omega
      clear h e H hn hlt
      go_enter Try.func48, Try.ntmps48
      go_wp2_with fail
      go_ret2
      exact ⟨rfl, rfl⟩
/-- Is a token at home. -/
def homeT (k i t first base : Int) (ts : List Int) : Int :=
  if first < 1 then 1 else if mayTok k i t = false then 180 else if i < first - 1 then 181
  else if (termT i first base ts).2 = false ∨ (termT i first base ts).1 ≠ t then 180 else 0
set_option maxHeartbeats 4000000 in
theorem thome_any (k i t first base : Int) (B c : Nat) (A : Option Addr) (ts : List Int) (w : World) (h : TermsAt w B A ts) (hB : B ≤ w.heap.size) (hl : ts.length ≤ 9223372036854775807) (hfr : first ≤ 9223372036854775807) (hir : i ≤ 9223372036854775807) :
    Calls Try.prog 26 #[tokV k i t, .int .i64 first, .int .i64 base, .slice A ts.length c] w fun e w' => e = .returned (.int .i64 (homeT k i t first base ts)) ∧ Below w.heap.size w w' := by
  have hx0 := KBox.new w k i t
  have hb0 : Below w.heap.size w (w.alloc (.cells #[.int .i64 k, .int .i64 i, .int .i64 t] 37)) := (Below.refl _ _).alloc (Nat.le_refl _) _
  have hm := tmay_any k i t (w.alloc (.cells #[.int .i64 k, .int .i64 i, .int .i64 t] 37))
  unfold tokV at hm ⊢
  by_cases h1 : first < 1
  · have e : homeT k i t first base ts = 1 := by unfold homeT; rw [if_pos h1]
    rw [e]
    have HB := Lib.hid hb0
    clear h hx0 hb0 hm e
    go_enter Try.func26, Try.ntmps26
    go_wp2_with fail
    go_ret
    exact ⟨rfl, HB.out⟩
  have hf1 : 1 ≤ first := by omega
  cases hmk : mayTok k i t with
  | false =>
    have e : homeT k i t first base ts = 180 := by unfold homeT; rw [if_neg h1, if_pos hmk]
    rw [e]
    rw [hmk] at hm
    have HM := Lib.hid hm
    have HB := Lib.hid hb0
    clear h hx0 hb0 hm e hmk
    go_enter Try.func26, Try.ntmps26
    go_wp2_with fail
    refine HM.out.mono ?_
    rintro e w1 ⟨rfl, hb⟩
    have HB1 := Lib.hid (HB.out.trans (hb.mono (by simp)))
    clear hb HM HB
    go_wp2_with fail
    go_ret
    exact ⟨rfl, HB1.out⟩
  | true =>
    rw [hmk] at hm
    have HM := Lib.hid hm
    have HX0 := Lib.hid hx0
    have HB := Lib.hid hb0
    have HT := Lib.hid (h.keep (hb0.mono hB))
    clear h hx0 hb0 hm
    by_cases hi : i < first - 1
    · have e : homeT k i t first base ts = 181 := by unfold homeT; rw [if_neg h1, if_neg (by rw [hmk]; decide), if_pos hi]
      rw [e]
      clear e hmk
      go_enter Try.func26, Try.ntmps26
      go_wp2_with fail
      refine HM.out.mono ?_
      rintro e w1 ⟨rfl, hb⟩
      have hx1 := HX0.out.keep hb (by simp)
      have HB1 := Lib.hid (HB.out.trans (hb.mono (by simp)))
      have c1 := hx1.g1
      have c2 := hx1.g2
      clear hb HM HB hx1 HX0 HT
      go_wp2_with fail
      go_ret
      exact ⟨rfl, HB1.out⟩
    · have hge : first - 1 ≤ i := by omega
      have e : homeT k i t first base ts = if (termT i first base ts).2 = false ∨ (termT i first base ts).1 ≠ t then 180 else 0 := by unfold homeT; rw [if_neg h1, if_neg (by rw [hmk]; decide), if_neg hi]
      rw [e]
      have HTM0 := Lib.hid (fun W (hW : TermsAt W B A ts) => tterm_any i first base B c A ts W hW hf1 hge hir hl)
      obtain ⟨x, hx⟩ : ∃ x, x = (termT i first base ts).1 := ⟨_, rfl⟩
      obtain ⟨b, hb⟩ : ∃ b, b = (termT i first base ts).2 := ⟨_, rfl⟩
      rw [← hx, ← hb] at HTM0 ⊢
      clear e hx hb hmk
      cases b with
      | false =>
        rw [if_pos (.inl rfl)]
        go_enter Try.func26, Try.ntmps26
        go_wp2_with fail
        refine HM.out.mono ?_
        rintro e w1 ⟨rfl, hb⟩
        have hx1 := HX0.out.keep hb (by simp)
        have HB1 := Lib.hid (HB.out.trans (hb.mono (by simp)))
        have HT1 := Lib.hid (HT.out.keep (hb.mono (by simp; omega)))
        have c1 := hx1.g1
        have c2 := hx1.g2
        clear hb HM HB hx1 HX0 HT
        go_wp2_with fail
        refine (HTM0.out w1 HT1.out).mono ?_
        rintro e w' ⟨rfl, rfl⟩
        clear HTM0 HT1
        go_wp2_with fail
        go_ret
        exact ⟨rfl, HB1.out⟩
      | true =>
        by_cases hxt : x = t
        · subst hxt
          rw [if_neg (by simp)]
          have hne : (x != x) = false := by simp
          go_enter Try.func26, Try.ntmps26
          go_wp2_with fail
          refine HM.out.mono ?_
          rintro e w1 ⟨rfl, hb⟩
          have hx1 := HX0.out.keep hb (by simp)
          have HB1 := Lib.hid (HB.out.trans (hb.mono (by simp)))
          have HT1 := Lib.hid (HT.out.keep (hb.mono (by simp; omega)))
          have c1 := hx1.g1
          have c2 := hx1.g2
          clear hb HM HB hx1 HX0 HT
          go_wp2_with fail
          refine (HTM0.out w1 HT1.out).mono ?_
          rintro e w' ⟨rfl, rfl⟩
          clear HTM0 HT1
          go_wp2_with fail
          go_ret
          exact ⟨rfl, HB1.out⟩
        · rw [if_pos (.inr hxt)]
          have hne : (x != t) = true := bne_iff_ne.2 hxt
          go_enter Try.func26, Try.ntmps26
          go_wp2_with fail
          refine HM.out.mono ?_
          rintro e w1 ⟨rfl, hb⟩
          have hx1 := HX0.out.keep hb (by simp)
          have HB1 := Lib.hid (HB.out.trans (hb.mono (by simp)))
          have HT1 := Lib.hid (HT.out.keep (hb.mono (by simp; omega)))
          have c1 := hx1.g1
          have c2 := hx1.g2
          clear hb HM HB hx1 HX0 HT hxt
          go_wp2_with fail
          refine (HTM0.out w1 HT1.out).mono ?_
          rintro e w' ⟨rfl, rfl⟩
          clear HTM0 HT1
          go_wp2_with fail
          go_ret
          exact ⟨rfl, HB1.out⟩
/-- The token behind an entry. -/
def behindT (i first base : Int) (ts : List Int) : Value :=
  if first < 1 then .tuple #[tokV 0 0 0, .int .i64 1] else if i < first - 1 then .tuple #[tokV 0 0 0, .int .i64 181]
  else if (termT i first base ts).2 = false then .tuple #[tokV 0 0 0, .int .i64 4] else .tuple #[tokV 1 i (termT i first base ts).1, .int .i64 0]
set_option maxHeartbeats 4000000 in
/-- Of entries as lives has them. -/
theorem tbehind_ok (i first base x : Int) (B c : Nat) (A : Option Addr) (ts : List Int) (w : World) (h : TermsAt w B A ts) (hB : B ≤ w.heap.size) (hl : ts.length ≤ 9223372036854775807) (hf1 : 1 ≤ first) (hge : first - 1 ≤ i) (hir : i ≤ 9223372036854775807) (hx : termT i first base ts = (x, true)) :
    Calls Try.prog 42 #[.int .i64 i, .int .i64 first, .int .i64 base, .slice A ts.length c] w fun e w' => e = .returned (.tuple #[tokV 1 i x, .int .i64 0]) ∧ Below w.heap.size w w' := by
  have hx0 : KBox (w.alloc (.cells #[.int .i64 0, .int .i64 0, .int .i64 0] 37)) w.heap.size 0 0 0 := KBox.new w 0 0 0
  have hb0 : Below w.heap.size w (w.alloc (.cells #[.int .i64 0, .int .i64 0, .int .i64 0] 37)) := (Below.refl _ _).alloc (Nat.le_refl _) _
  have ht := tterm_any i first base B c A ts (w.alloc (.cells #[.int .i64 0, .int .i64 0, .int .i64 0] 37)) (h.keep (hb0.mono hB)) hf1 hge hir hl
  rw [hx] at ht
  have HT := Lib.hid ht
  have HX0 := Lib.hid hx0
  have HB := Lib.hid hb0
  have h1 : ¬ first < 1 := by omega
  have h2 : ¬ i < first - 1 := by omega
  have c0 := hx0.g0
  have c1 := hx0.g1
  have c2 := hx0.g2
  clear h ht hx0 hb0 hx
  go_enter Try.func42, Try.ntmps42
  go_wp2_with fail
  refine HT.out.mono ?_
  rintro e w' ⟨rfl, rfl⟩
  go_wp2_with fail
  refine bodyPost_ret (results_cell_k rfl _ _ w.heap.size 37 _ (0, 0) rfl (KBox.new w 1 i x) (by kernel_rfl)) rfl ?_
  exact ⟨rfl, (Below.refl _ _).alloc (Nat.le_refl _) _⟩
end Go.Proofs.Ytlhkcpfjnhbocaa
