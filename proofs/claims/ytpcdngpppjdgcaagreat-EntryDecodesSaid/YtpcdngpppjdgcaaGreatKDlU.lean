/- The program's reading of a list of changes. -/
import Derived.Test.YtpcdngpppjdgcaaGreatKTrI
import Derived.Test.YtpcdngpppjdgcaaGreatKCodS
import Derived.Test.YtpcdngpppjdgcaaGreatKCodX
import Derived.Test.YtpcdngpppjdgcaaGreatKRdK
import Derived.Test.YtpcdngpppjdgcaaGreatKRefD2
import Derived.Test.YtpcdngpppjdgcaaGreatKRefZ
import Derived.Test.YtpcdngpppjdgcaaGreatKCodF
import Derived.Test.YtpcdngpppjdgcaaGreatKRegR
import Derived.Test.YtpcdngpppjdgcaaGreatKCodM
import Derived.Test.YtpcdngpppjdgcaaGreatKValM
import Derived.Maps.AppendAt
namespace Go.Proofs.YtpcdngpppjdgcaaGreat
open Lib (hid)
set_option linter.unusedVariables false
set_option linter.unusedSimpArgs false
open Go.RowKit
set_option maxRecDepth 100000
def rdDK (st : Option (List UInt8)) : Nat → List DelT × Option (List UInt8)
  | 0 => ([], st)
  | k + 1 => ((rdDK st k).1 ++ [(rdD (rdDK st k).2).1], (rdD (rdDK st k).2).2)
theorem rdDK_len (st : Option (List UInt8)) : ∀ k, (rdDK st k).1.length = k
  | 0 => rfl
  | k + 1 => by simp [rdDK, rdDK_len st k]
theorem rdD_nn : (rdD none).2 = none := by
  unfold rdD
  rw [rdByte_nn]
  simp only [show ¬ ((0 : Nat) = 1) by decide, show ¬ ((0 : Nat) = 3) by decide, if_false]
  exact rdPath_nn
theorem rdDK_none {s : Option (List UInt8)} {k : Nat} (h : (rdDK s k).2 = none) : ∀ m, k ≤ m → (rdDK s m).2 = none
  | 0, hm => by obtain rfl : k = 0 := by omega
                exact h
  | m + 1, hm => by
    by_cases hk : k = m + 1
    · rw [← hk]; exact h
    · have h1 := rdDK_none h m (by omega)
      show (rdD (rdDK s m).2).2 = none
      rw [h1]; exact rdD_nn
theorem readO_deep (st : Option (List UInt8)) : depthT (readO st).1 ≤ 8 := by
  rcases st with _ | l
  · decide
  · rw [readO_some]
    cases hr : readS l with
    | none => decide
    | some p =>
      obtain ⟨t, r⟩ := p
      unfold readS at hr
      cases hw : rdW 8 l with
      | none => rw [hw] at hr; simp at hr
      | some q =>
        obtain ⟨u, r'⟩ := q
        rw [hw] at hr
        have hd := (rdW_deep 8 u l r' hw).1.1
        simp only [] at hr
        split at hr
        · simp only [Option.some.injEq, Prod.mk.injEq] at hr
          rw [hr.1] at hd
          exact hd
        · simp at hr
theorem rdD_depth (st : Option (List UInt8)) : depthT (rdD st).1.val ≤ 8 := by
  unfold rdD
  split
  · exact readO_deep _
  split
  · show depthT noneV ≤ 8; decide
  · show depthT noneV ≤ 8; decide
theorem rdDK_small (st : Option (List UInt8)) : ∀ k, SmallD (rdDK st k).1
  | 0, d, hd => absurd hd (by simp [rdDK])
  | k + 1, d, hd => by
    simp only [rdDK, List.mem_append, List.mem_singleton] at hd
    rcases hd with hd | rfl
    · exact rdDK_small st k d hd
    · have := rdD_depth (rdDK st k).2
      omega
def rdDl (st : Option (List UInt8)) : List DelT × Option (List UInt8) := match (rdDK (rdCount 64 st).2 (rdCount 64 st).1).2 with
  | none => ([], none)
  | some r => if checkD (rdDK (rdCount 64 st).2 (rdCount 64 st).1).1 = 0 then ((rdDK (rdCount 64 st).2 (rdCount 64 st).1).1, some r) else ([], none)
theorem rdDl_none {st : Option (List UInt8)} (h : (rdDK (rdCount 64 st).2 (rdCount 64 st).1).2 = none) : rdDl st = ([], none) := by unfold rdDl; rw [h]
theorem rdDl_some {st : Option (List UInt8)} {r : List UInt8} (h : (rdDK (rdCount 64 st).2 (rdCount 64 st).1).2 = some r) : rdDl st = if checkD (rdDK (rdCount 64 st).2 (rdCount 64 st).1).1 = 0 then ((rdDK (rdCount 64 st).2 (rdCount 64 st).1).1, some r) else ([], none) := by unfold rdDl; rw [h]
def ReadDsR (g : Nat) (st : Option (List UInt8)) (w : World) (e : Ending) (w' : World) : Prop :=
  ∃ A c, e = .returned (.slice A (rdDl st).1.length c) ∧ DelsL w' (NewB w.heap.size w') A (rdDl st).1 ∧ (A = none → c = 0 ∧ (rdDl st).1 = []) ∧ (rdDl st).1.length ≤ c ∧ SrcL w' g (rdDl st).2 ∧ Only w w' g
theorem dels_next {w wr w5 w7 : World} {g k c c7 p : Nat} {A : Option Addr} {s1 : Option (List UInt8)} {cs xs : List Value} {S : Nat → Prop} {v7 : Value} (hg : g < w.heap.size) (hw : Only w wr g) (hr : DelsRow w wr A c (rdDK s1 k).1) (ho5 : Only wr w5 g) (hs5 : SrcL w5 g (rdD (rdDK s1 k).2).2) (hop : DelL w5 (NewB wr.heap.size w5) (rdD (rdDK s1 k).2).1 cs.toArray)
    (hl : DelsC (w5.alloc (.cells cs.toArray 95)) S (rdDK s1 k).1 xs) (hS : ∀ b, S b → w.heap.size ≤ b ∧ b < (w5.alloc (.cells cs.toArray 95)).heap.size ∧ ∀ p, (Value.slice A k c).ownBlock = some p → b ≠ p)
    (hv : v7 = .slice (some ⟨p, 0, none⟩) (k + 1) c7) (hown : w7.ownsRow w.heap.size 95 8 v7 (k + 1) (xs ++ cs)) (hb : (w5.alloc (.cells cs.toArray 95)).grownBy w7 (Value.slice A k c).ownBlock) (hat : v7.ownBlock = (Value.slice A k c).ownBlock ∨ v7.ownBlock = some (w5.alloc (.cells cs.toArray 95)).heap.size) :
    DelsRow w w7 (some ⟨p, 0, none⟩) c7 (rdDK s1 (k + 1)).1 ∧ SrcL w7 g (rdDK s1 (k + 1)).2 ∧ Only w w7 g := by
  have hlen : (rdDK s1 k).1.length = k := rdDK_len s1 k
  have hpo : ∀ p, (Value.slice A k c).ownBlock = some p → w.heap.size ≤ p ∧ p < wr.heap.size := by
    have h := hr.own
    rw [hlen] at h
    exact h
  have hz5 := ho5.size
  have hzw := hw.size
  have hz6 : (w5.alloc (.cells cs.toArray 95)).heap.size = w5.heap.size + 1 := by simp
  have k6 : ∀ b, b < w5.heap.size → (w5.alloc (.cells cs.toArray 95)).heap[b]? = w5.heap[b]? := fun b hb => Below.heap_alloc w5 _ b hb
  have k7 : ∀ b, b < w5.heap.size → (∀ p, (Value.slice A k c).ownBlock = some p → b ≠ p) → w7.heap[b]? = w5.heap[b]? := fun b hb' hn => (hb.block b (by omega) (fun e => hn b e.symm rfl)).trans (k6 b hb')
  subst hv
  refine ⟨?_, ?_, ?_⟩
  · refine DelsRow.push (S2 := NewB wr.heap.size w5) hlen.symm hb ?_ hown hl (hop.keep fun b hb' => k6 b hb'.2) hS ?_
    · exact hat.imp id fun h => ⟨_, Nat.le_refl _, h⟩
    · intro b hb'
      have h1 : wr.heap.size ≤ b := hb'.1
      have h2 : b < w5.heap.size := hb'.2
      exact ⟨by omega, by omega, fun q hq e => by have := (hpo q hq).2; omega⟩
  · exact hs5.of (k7 g (by omega) fun q hq e => by have := (hpo q hq).1; omega)
  · refine ⟨hb.os.trans ((ho5.os).trans hw.os), hb.tape.trans ((ho5.tape).trans hw.tape), hb.output.trans ((ho5.output).trans hw.output), by have := hb.size; omega, fun b hb' hne => ?_⟩
    exact (k7 b (by omega) fun q hq e => by have := (hpo q hq).1; omega).trans ((ho5.block b (by omega) hne).trans (hw.block b hb' hne))
theorem DelsRow.none' {w0 w : World} {A : Option Addr} {c : Nat} {l : List DelT} (h : DelsRow w0 w A c l) : A = none → c = 0 ∧ l = [] := by
  rintro rfl
  obtain ⟨xs, S, h1, -⟩ := h
  rcases h1.2 with ⟨e, h0⟩ | ⟨g, cap, cur, e, -⟩
  · injection e with e1 e2 e3
    exact ⟨e3, List.eq_nil_of_length_eq_zero e2⟩
  · injection e with e1 e2 e3
    cases e1
set_option maxHeartbeats 16000000 in
theorem dlread_any (g : Nat) (st : Option (List UInt8)) (w : World) (hs : SrcL w g st) : Calls Tryz.prog 107 #[.pointer (some ⟨g, 0, none⟩)] w (ReadDsR g st w) := by
  obtain ⟨i0, hi, hz0, hz1, hz2⟩ := info_parts Tryz.infoDlt
  have h16 : (rdCount 64 st).1 ≤ 64 := rdCount_le 64 st (by omega)
  have HC := hid (scount_any g st 64 w hs (by omega))
  have HG := hid hs.lt
  obtain ⟨n, hn⟩ : ∃ n, n = (rdCount 64 st).1 := ⟨_, rfl⟩
  have HN := hid hn
  rw [← hn] at h16 HC
  clear hs hn
  go_enter Tryz.func107, Tryz.ntmps107
  go_wp2_with fail
  refine HC.out.mono ?_
  rintro e w1 ⟨rfl, hs1, ho1⟩
  obtain ⟨s1, hs1'⟩ : ∃ s1, s1 = (rdCount 64 st).2 := ⟨_, rfl⟩
  rw [← hs1'] at hs1
  have HS1 := hid hs1'
  have h0 : Hid (SrcL w1 g (rdDK s1 0).2 ∧ Only w w1 g) := hid ⟨hs1, ho1⟩
  clear hs1 ho1 hs1' HC
  go_wp2_with fail
  go_loopw [3, 6] (fun v i wr => ∃ (k : Nat) (A : Option Addr) (c : Nat), i = .int .i64 k ∧ k ≤ n ∧ v = .slice A k c ∧ Hid (k = 0 ∨ (rdDK s1 k).2 ≠ none) ∧ Hid (SrcL wr g (rdDK s1 k).2 ∧ Only w wr g) ∧ Hid (DelsRow w wr A c (rdDK s1 k).1)) (fun _ i _ => n - (intOf i).toNat)
  case atStart => exact ⟨0, none, 0, rfl, by omega, rfl, hid (.inl rfl), h0, hid (DelsRow.nil _ _)⟩
  case round =>
    obtain ⟨k, A, c, rfl, hk, rfl, HNN, HH, HR⟩ := hrel
    by_cases hlt : k < n
    · have d1 : decide ((k : Int) < (n : Int)) = true := decide_eq_true (by omega)
      have HT := hid (readd_any g (rdDK s1 k).2 wr HH.out.1)
      have hk16 : k < 64 := by omega
      go_wp2_with fail
      refine HT.out.mono ?_
      rintro e w5 ⟨cs, rfl, hop, hs5, ho5⟩
      obtain ⟨PA, pc, VA, vc, VA', vc', rfl, -⟩ := id hop
      have h1c := hop.oneL
      have hrow := (HR.out.only ho5 HG.out).alloc (.cells (List.toArray [.int .i64 (rdD (rdDK s1 k).2).1.kind, .slice PA (rdD (rdDK s1 k).2).1.path.length pc, .int .i64 (rdD (rdDK s1 k).2).1.val.kind, .int .i64 (rdD (rdDK s1 k).2).1.val.num, .string (rdD (rdDK s1 k).2).1.val.text, .slice VA (rdD (rdDK s1 k).2).1.val.items.length vc, .slice VA' (rdD (rdDK s1 k).2).1.val.names.length vc', .int .i64 (rdD (rdDK s1 k).2).1.num]) 95)
      obtain ⟨xs, S, r1, r2, r3⟩ := hrow
      rw [rdDK_len] at r1 r3
      have HX := hid (fun (w7 : World) (v7 : Value) (p c7 : Nat) (e7 : v7 = .slice (some ⟨p, 0, none⟩) (k + 1) c7) => dels_next (w7 := w7) (v7 := v7) (p := p) (c7 := c7) HG.out HH.out.2 HR.out ho5 hs5 hop r2 r3 e7)
      have HR1 := hid r1
      have H1C := hid h1c
      have hz5 : w.heap.size ≤ w5.heap.size := by have := ho5.size; have := HH.out.2.size; omega
      obtain ⟨o, hob⟩ : ∃ o, o = (rdD (rdDK s1 k).2).1 := ⟨_, rfl⟩
      rw [← hob] at HX HR1 H1C ⊢
      clear hs5 ho5 hop h1c r1 r2 r3 HT hob
      go_wp2_with (at_builtin; refine wpList_append_own_at _ rfl _ _ 26 rfl w.heap.size 95 i0 _ 8 120 Tryz.underlying26 hi hz0 hz1 hz2 rfl (by decide) _ k _ rfl HR1.out ⟨w5.heap.size, 0, none⟩ 1 1 _ rfl rfl (eight_new w5 _ _) H1C.out (by unfold maxLen; omega) (by omega) (by simp; omega) ?_; intro v7 w7 hown7 hg7 hnil7 hat7; obtain ⟨p, c7, rfl⟩ := row_pos hown7 (by omega); have HX7 := hid (HX.out w7 _ p c7 rfl hown7 hg7 hat7); clear hown7 hg7 hnil7 hat7)
      obtain ⟨st2, hst2⟩ : ∃ s, s = (rdDK s1 (k + 1)).2 := ⟨_, rfl⟩
      have HX8 := HX7
      rw [← hst2] at HX8
      have HST := hid hst2
      clear hst2
      cases st2 with
      | none =>
        have HB := hid (cbad_none g _ HX8.out.2.1)
        go_wp2_with fail
        refine HB.out.mono ?_
        rintro e w8 ⟨rfl, rfl⟩
        go_wp2_with fail
        go_ret
        unfold ReadDsR
        rw [rdDl_none (by rw [← HS1.out, ← HN.out]; exact rdDK_none HST.out.symm n (by omega))]
        exact ⟨none, 0, rfl, fun h => absurd h (by simp), fun _ => ⟨rfl, rfl⟩, Nat.le_refl _, HX8.out.2.1, HX8.out.2.2⟩
      | some r =>
        have HB := hid (cbad_some g r _ HX8.out.2.1)
        go_wp2_with fail
        refine HB.out.mono ?_
        rintro e w8 ⟨rfl, rfl⟩
        go_wp2_with fail
        go_roundw
        case rel => exact ⟨k + 1, some ⟨p, 0, none⟩, c7, by go_num, by omega, rfl, hid (.inr (by rw [← HST.out]; simp)), hid ⟨HX7.out.2.1, HX7.out.2.2⟩, hid HX7.out.1⟩
        case measure => simp [intOf]; omega
    · have hke : k = n := by omega
      have d1 : decide ((k : Int) < (n : Int)) = false := decide_eq_false (by omega)
      obtain ⟨l, hl⟩ : ∃ l, l = (rdDK s1 k).1 := ⟨_, rfl⟩
      obtain ⟨st2, hst2⟩ : ∃ s, s = (rdDK s1 k).2 := ⟨_, rfl⟩
      have hlk : l.length = k := by rw [hl]; exact rdDK_len s1 k
      have hsm : SmallD l := by rw [hl]; exact rdDK_small s1 k
      rw [← hl] at HR
      rw [← hst2] at HH HNN
      have HLS : Hid (l = (rdDK (rdCount 64 st).2 (rdCount 64 st).1).1 ∧ st2 = (rdDK (rdCount 64 st).2 (rdCount 64 st).1).2) := hid (by rw [← HS1.out, ← HN.out, ← hke]; exact ⟨hl, hst2⟩)
      have HRW := hid HR.out.rows
      have HRC := hid HR.out.cap
      have HRN := hid HR.out.none'
      have HK := hid (dlcheck_any (NewB w.heap.size wr) A c l wr (fun b hb => hb.2) HRW.out (by omega) hsm)
      rw [← hlk]
      clear hl hst2 hke hsm HR hk
      subst hlk
      go_wp2_with fail
      refine HK.out.mono ?_
      rintro e w4 ⟨rfl, hb4⟩
      have HS4 := hid (HH.out.1.of (hb4.block g HH.out.1.lt))
      have HO4 : Hid (Only w w4 g) := hid (HH.out.2.trans ⟨hb4.os, hb4.tape, hb4.output, hb4.size, fun b hb _ => hb4.block b hb⟩)
      have HW4 : Hid (DelsL w4 (NewB w.heap.size w4) A l) := hid ((HRW.out.keep fun b hb => hb4.block b hb.2).imp fun b hb => ⟨hb.1, Nat.lt_of_lt_of_le hb.2 hb4.size⟩)
      obtain ⟨x, hx⟩ : ∃ x, x = checkD l := ⟨_, rfl⟩
      rw [← hx]
      have HXX := hid hx
      clear hb4 hx HK HRW
      by_cases h0' : x = 0
      · subst h0'
        have hend : Hid (rdDl st = (l, st2)) := hid (by
          cases st2 with
          | none =>
            have hl0 : l.length = 0 := HNN.out.resolve_right (fun h => h rfl)
            rw [rdDl_none HLS.out.2.symm, List.eq_nil_of_length_eq_zero hl0]
          | some r => rw [rdDl_some HLS.out.2.symm, ← HLS.out.1, if_pos HXX.out.symm])
        go_wp2_with fail
        go_ret
        unfold ReadDsR
        rw [hend.out]
        exact ⟨A, c, rfl, HW4.out, HRN.out, HRC.out, HS4.out, HO4.out⟩
      · have h1 : (x == 0) = false := beq_false_of_ne h0'
        have h2 : (x != 0) = true := by simp [h0']
        go_wp2_with fail
        refine (cspoil_st g st2 _ HS4.out).mono ?_
        rintro e w5 ⟨rfl, hs5, ho5⟩
        have HX5 := hid (And.intro hs5 (HO4.out.trans ho5))
        clear hs5 ho5
        go_wp2_with fail
        go_ret
        unfold ReadDsR
        have e0 : rdDl st = ([], none) := by
          cases st2 with
          | none => exact rdDl_none HLS.out.2.symm
          | some r => rw [rdDl_some HLS.out.2.symm, ← HLS.out.1, if_neg (by rw [← HXX.out]; exact h0')]
        rw [e0]
        exact ⟨none, 0, rfl, fun h => absurd h (by simp), fun _ => ⟨rfl, rfl⟩, Nat.le_refl _, HX5.out.1, HX5.out.2⟩
theorem same_none {t : VT} {r : Bool} (h : r = true ↔ t = .mk 0 0 ⟨#[]⟩ [] []) : r = noneT t := by rw [Bool.eq_iff_iff, h, noneT_iff]
set_option maxHeartbeats 16000000 in
theorem r6may_any (S : Nat → Prop) (d : DelT) (cs : Array Value) (w : World) (hS : ∀ b, S b → b < w.heap.size) (h : DelL w S d cs) (hd : depthT d.val ≤ 4611686018427387903) :
  Calls Tryz.prog 110 #[.agg cs] w fun e w' => e = .returned (.bool (mayD d)) ∧ Below w.heap.size w w' := by
 obtain ⟨PA, pc, VA, vc, VA', vc', rfl, hv, hp, hpc, hpn, hk, hn, hpl⟩ := h
 obtain ⟨w1, hw1⟩ : ∃ W, W = w.alloc (.cells #[.int .i64 d.kind, .slice PA d.path.length pc, .int .i64 d.val.kind, .int .i64 d.val.num, .string d.val.text, .slice VA d.val.items.length vc, .slice VA' d.val.names.length vc', .int .i64 d.num] 95) := ⟨_, rfl⟩
 have hbk : w1.heap[w.heap.size]? = some (.cells #[.int .i64 d.kind, .slice PA d.path.length pc, .int .i64 d.val.kind, .int .i64 d.val.num, .string d.val.text, .slice VA d.val.items.length vc, .slice VA' d.val.names.length vc', .int .i64 d.num] 95 (0, 0)) := by rw [hw1]; exact heap_alloc_new w _
 have hb1 : Below w.heap.size w w1 := by rw [hw1]; exact (Below.refl _ _).alloc (Nat.le_refl _) _
 have y0 := Go.Joins.cell_of_block hbk 0
 have y1 := Go.Joins.cell_of_block hbk 1
 have y2 := Go.Joins.cell_of_block hbk 2
 have y3 := Go.Joins.cell_of_block hbk 3
 have y4 := Go.Joins.cell_of_block hbk 4
 have y5 := Go.Joins.cell_of_block hbk 5
 have y6 := Go.Joins.cell_of_block hbk 6
 have y7 := Go.Joins.cell_of_block hbk 7
 have hS1 : ∀ b, S b → b < w1.heap.size := fun b hb => Nat.lt_of_lt_of_le (hS b hb) hb1.size
 have hv1 := hv.keep fun b hb => hb1.block b (hS b hb)
 have HMA := hid (rpmay_any PA pc d.path w1 S (hp.keep fun b hb => hb1.block b (hS b hb)) (by omega))
 have HNO := hid (rsame_any S (depthT d.val) d.val (.mk 0 0 ⟨#[]⟩ [] []) _ (.agg #[.int .i64 0, .int .i64 0, .string ⟨#[]⟩, .slice none 0 0, .slice none 0 0]) _ (Nat.le_refl _) hS1 hv1 (zero_lv _ _))
 have HD := hid hd
 have HV := hid hv1
 have HBK := hid hbk
 have HB1 := hid hb1
 have HW1 := hid hw1
 have HS := hid hS
 obtain ⟨r, hr⟩ : ∃ r, r = mayD d := ⟨_, rfl⟩
 have HR := hid hr
 rw [← hr]
 clear hbk hb1 hS1 hv1 hv hp hpc hpn hk hn hpl hd hS hr
 go_enter Tryz.func110, Tryz.ntmps110
 go_wp2_with fail
 rw [← hw1]
 clear hw1
 refine HMA.out.mono ?_
 rintro e w2 ⟨rfl, rfl⟩
 clear HMA
 cases hmp : mayP d.path
 ·go_wp2_with fail
  go_ret
  exact ⟨by rw [HR.out]; unfold mayD; rw [hmp]; rfl, HB1.out⟩
 have HMP := hid hmp
 clear hmp
 obtain ⟨k, hk⟩ : ∃ k, k = d.kind := ⟨_, rfl⟩
 rw [← hk] at y0
 have HK := hid hk.symm
 clear hk
 go_wp2_with fail
 refine HNO.out.mono ?_
 rintro e w3 ⟨⟨rn, rfl, hrn⟩, hb3⟩
 obtain rfl := same_none hrn
 have HB3 := hid (HB1.out.trans (hb3.mono HB1.out.size))
 have hk3 := (hb3.block _ (Array.getElem?_eq_some_iff.1 HBK.out).1).trans HBK.out
 have HV3 := hid (HV.out.keep fun b hb => hb3.block b (Nat.lt_of_lt_of_le (HS.out b hb) HB1.out.size))
 have HBK3 := hid hk3
 have x0 := Go.Joins.cell_of_block hk3 0
 have x1 := Go.Joins.cell_of_block hk3 1
 have x2 := Go.Joins.cell_of_block hk3 2
 have x3 := Go.Joins.cell_of_block hk3 3
 have x4 := Go.Joins.cell_of_block hk3 4
 have x5 := Go.Joins.cell_of_block hk3 5
 have x6 := Go.Joins.cell_of_block hk3 6
 have x7 := Go.Joins.cell_of_block hk3 7
 rw [HK.out] at x0
 clear hb3 hk3 HNO hrn y0 y1 y2 y3 y4 y5 y6 y7 HV HBK
 by_cases k1 : k = 1
 ·subst k1
  have HCK := hid (rcheck_any S d.val _ w3 HD.out (fun b hb => Nat.lt_of_lt_of_le (HS.out b hb) HB3.out.size) HV3.out)
  go_wp2_with fail
  refine HCK.out.mono ?_
  rintro e w4 ⟨rfl, hb4⟩
  have HB4 := hid (HB3.out.trans (hb4.mono HB3.out.size))
  have HBK4 := (hb4.block _ (Array.getElem?_eq_some_iff.1 HBK3.out).1).trans HBK3.out
  have z7 := Go.Joins.cell_of_block HBK4 7
  obtain ⟨b1, d1⟩ : ∃ b, (checkT d.val == 0) = b := ⟨_, rfl⟩
  obtain ⟨b2, d2⟩ : ∃ b, (d.num == 0) = b := ⟨_, rfl⟩
  have HE : Hid (mayD d = (b1 && b2)) := hid (by
   rw [← d1, ← d2]
   unfold mayD
   rw [HMP.out, HK.out]
   rw [Bool.eq_iff_iff]
   simp)
  clear hb4 HBK4 HCK
  cases b1 <;> cases b2
  all_goals
   go_wp2_with fail
   go_ret
   exact ⟨by rw [HR.out, HE.out]; rfl, HB4.out⟩
 have e1 := beq_false_of_ne k1
 by_cases k2 : k = 2
 ·subst k2
  obtain ⟨b1, d1⟩ : ∃ b, noneT d.val = b := ⟨_, rfl⟩
  obtain ⟨b2, d2⟩ : ∃ b, (d.num == 0) = b := ⟨_, rfl⟩
  have HE : Hid (mayD d = (b1 && b2)) := hid (by
   rw [← d1, ← d2]
   unfold mayD
   rw [HMP.out, HK.out]
   rw [Bool.eq_iff_iff]
   simp)
  rw [d1]
  cases b1 <;> cases b2
  all_goals
   go_wp2_with fail
   go_ret
   exact ⟨by rw [HR.out, HE.out]; rfl, HB3.out⟩
 have e2 := beq_false_of_ne k2
 by_cases k3 : k = 3
 ·subst k3
  obtain ⟨b1, d1⟩ : ∃ b, noneT d.val = b := ⟨_, rfl⟩
  obtain ⟨b2, d2⟩ : ∃ b, decide (d.num ≥ 0) = b := ⟨_, rfl⟩
  obtain ⟨b3, d3⟩ : ∃ b, decide (d.num ≤ 999) = b := ⟨_, rfl⟩
  have HE : Hid (mayD d = (b1 && (b2 && b3))) := hid (by
   rw [← d1, ← d2, ← d3]
   unfold mayD
   rw [HMP.out, HK.out]
   rw [Bool.eq_iff_iff]
   simp)
  rw [d1]
  cases b1 <;> cases b2 <;> cases b3
  all_goals
   go_wp2_with fail
   go_ret
   exact ⟨by rw [HR.out, HE.out]; rfl, HB3.out⟩
 have e3 := beq_false_of_ne k3
 have HN : Hid (mayD d = false) := hid (by
  unfold mayD
  rw [HK.out]
  simp [k1, k2, k3])
 clear k1 k2 k3
 go_wp2_with fail
 go_ret
 exact ⟨by rw [HR.out, HN.out]; rfl, HB3.out⟩
set_option maxHeartbeats 8000000 in
theorem r6check_any (S : Nat → Prop) (A : Option Addr) (c : Nat) (l : List DelT) (w : World) (hS : ∀ b, S b → b < w.heap.size) (h : DelsL w S A l) (hn : l.length ≤ 140737488351232) (hd : SmallD l) :
  Calls Tryz.prog 89 #[.slice A l.length c] w fun e w' => e = .returned (.int .i64 (checkD l)) ∧ Below w.heap.size w w' := by
 have H := hid h
 have HS := hid hS
 have HD := hid hd
 obtain ⟨r, hr⟩ : ∃ r, r = checkD l := ⟨_, rfl⟩
 have HR := hid hr
 rw [← hr]
 obtain ⟨n, hn'⟩ : ∃ n, n = l.length := ⟨_, rfl⟩
 have HN := hid hn'
 rw [← hn'] at hn ⊢
 clear h hS hr hn' hd
 go_enter Tryz.func89, Tryz.ntmps89
 by_cases h64 : 64 < n
 ·have d1 : decide ((n : Int) > 64) = true := decide_eq_true (by omega)
  go_wp2_with fail
  go_ret
  exact ⟨by rw [HR.out]; unfold checkD; rw [if_pos (by have := HN.out; omega)]; rfl, Below.refl _ _⟩
 have d1 : decide ((n : Int) > 64) = false := decide_eq_false (by omega)
 have H64 : Hid (¬ 64 < l.length) := hid (by have := HN.out; omega)
 go_wp2_with fail
 go_loopw [3] (fun i wr => ∃ k : Nat, i = .int .i64 k ∧ k ≤ n ∧ Hid (Below w.heap.size w wr) ∧ Hid (∀ j (h : j < l.length), j < k → mayD l[j] = true)) (fun i _ => n - (intOf i).toNat)
 case atStart => exact ⟨0, rfl, by omega, hid (Below.refl _ _), hid fun j _ h => absurd h (by omega)⟩
 case round =>
  obtain ⟨k, rfl, hk, HB, HJ⟩ := hrel
  by_cases hlt : k < n
  ·have d2 : decide ((k : Int) < (n : Int)) = true := decide_eq_true (by omega)
   have hkl : k < l.length := by have := HN.out; omega
   have hS2 : ∀ b, S b → b < wr.heap.size := fun b hb => Nat.lt_of_lt_of_le (HS.out b hb) HB.out.size
   obtain ⟨p, off, PA, pc, VA, vc, VA', vc', rfl, hpS, ho, x0, x1, x2, x3, x4, x5, x6, x7⟩ := (H.out.below HS.out HB.out).cells k hkl
   have HC := hid (r6may_any S l[k] _ wr hS2 ho (HD.out _ (List.getElem_mem hkl)))
   clear ho hS2 hpS
   go_wp2_with fail
   refine HC.out.mono ?_
   rintro e u ⟨rfl, hb⟩
   have HB2 := hid (HB.out.trans (hb.mono HB.out.size))
   clear hb HC x0 x1 x2 x3 x4 x5 x6 x7
   cases hm : mayD l[k]
   ·have HM := hid hm
    clear hm
    go_wp2_with fail
    go_ret
    exact ⟨by rw [HR.out]; unfold checkD; rw [if_neg H64.out, all_not'D hkl HM.out]; rfl, HB2.out⟩
   ·have HM := hid hm
    clear hm
    go_wp2_with fail
    go_roundw
    case rel => exact ⟨k + 1, by go_num, by omega, HB2, hid fun j h hjk => by
     by_cases e : j = k
     ·subst e; exact HM.out
     ·exact HJ.out j h (by omega)⟩
    case measure => simp [intOf]; omega
  ·have d2 : decide ((k : Int) < (n : Int)) = false := decide_eq_false (by omega)
   have HA : Hid (l.all mayD = true) := hid (all_upto'D fun j h => HJ.out j h (by have := HN.out; omega))
   go_wp2_with fail
   go_ret
   exact ⟨by rw [HR.out]; unfold checkD; rw [if_neg H64.out, HA.out]; rfl, HB.out⟩
def codeD1 (d : DelT) : List UInt8 := [UInt8.ofNat d.kind.toNat] ++ pathC d.path ++ (if d.kind = 1 then encO d.val else if d.kind = 3 then grp d.num.toNat else [])
theorem boxd_k8 {w w' : World} {g : Nat} {cs : Array Value} {fr : Nat × Nat} (hg : w.heap[g]? = some (.cells cs 95 fr)) (h : K8 w w') : w'.heap[g]? = some (.cells cs 95 fr) := h g _ hg (fun h => by cases h) (fun c fz h => by injection h with _ h; exact absurd h (by decide))
set_option maxHeartbeats 16000000 in
theorem dlputo_any (S : Nat → Prop) (d : DelT) (cs : Array Value) (B : Nat) (v : Value) (l : List UInt8) (w : World) (hSB : ∀ b, S b → b < B) (ho : DelL w S d cs) (hm : mayD d = true) (hd : depthT d.val ≤ 4611686018427387903) (hz : sizeT d.val ≤ 9223372036854775807) (hp : NamesOK d.path) (h : OwnB w B v l) (hB : B ≤ w.heap.size) (hl : l.length ≤ 140737470000000) :
  Calls Tryz.prog 133 #[v, .agg cs] w (PutsR B (l ++ codeD1 d) w) := by
 obtain ⟨PA, pc, VA, vc, VA', vc', rfl, hv, hpa, hpc, hpn, hk, hkn, hpl⟩ := ho
 obtain ⟨w1, hw1⟩ : ∃ W, W = w.alloc (.cells #[.int .i64 d.kind, .slice PA d.path.length pc, .int .i64 d.val.kind, .int .i64 d.val.num, .string d.val.text, .slice VA d.val.items.length vc, .slice VA' d.val.names.length vc', .int .i64 d.num] 95) := ⟨_, rfl⟩
 have hbk : w1.heap[w.heap.size]? = some (.cells #[.int .i64 d.kind, .slice PA d.path.length pc, .int .i64 d.val.kind, .int .i64 d.val.num, .string d.val.text, .slice VA d.val.items.length vc, .slice VA' d.val.names.length vc', .int .i64 d.num] 95 (0, 0)) := by rw [hw1]; exact heap_alloc_new w _
 have hb1 : Below w.heap.size w w1 := by rw [hw1]; exact (Below.refl _ _).alloc (Nat.le_refl _) _
 have hin : ∀ W, Below B w W → LV W S d.val (.agg #[.int .i64 d.val.kind, .int .i64 d.val.num, .string d.val.text, .slice VA d.val.items.length vc, .slice VA' d.val.names.length vc']) ∧ StrsAt W S PA d.path := fun W hW =>
  ⟨hv.keep fun b hb => hW.block b (hSB b hb), hpa.keep fun b hb => hW.block b (hSB b hb)⟩
 obtain ⟨i0, hi, hz0, hz1, hz2⟩ := info_parts Tryz.infoU8
 have HO1 := hid (h.below hb1)
 obtain ⟨Av, cv, rfl⟩ := h.slice
 obtain ⟨m, hmm⟩ : ∃ m, m = l.length := ⟨_, rfl⟩
 rw [← hmm] at HO1 ⊢
 have HM := hid hmm
 have HB1 := hid hb1
 have HBK := hid hbk
 have HW1 := hid hw1
 have HIN := hid hin
 have HSB := hid hSB
 have HPP := hid hp
 have HD := hid (And.intro hd hz)
 have HL := hid hl
 have HB := hid hB
 have hkk : d.kind = 1 ∨ d.kind = 2 ∨ (d.kind = 3 ∧ 0 ≤ d.num ∧ d.num ≤ 999) := by
  unfold mayD at hm
  rw [Bool.and_eq_true] at hm
  have h2 := hm.2
  split at h2
  ·omega
  split at h2
  ·omega
  split at h2
  ·simp only [Bool.and_eq_true, decide_eq_true_eq] at h2
   exact .inr (.inr ⟨by omega, h2.2.1, h2.2.2⟩)
  ·cases h2
 clear hv hpa hpc hpn hk hkn hpl hSB hin h hB hl hmm hd hz hp hm
 go_enter Tryz.func133, Tryz.ntmps133
 rcases hkk with hkk | hkk | hkk
 ·have HKE := hid hkk
  have hbk := HBK.out
  rw [hkk] at hbk hw1 ⊢
  clear hkk
  have HBKK := hid hbk
  go_wp2_with fail
  first | rw [← hw1] | skip
  clear hw1
  have q0 := cell_k8 (i := 0) (show w1.drew.heap[w.heap.size]? = _ from HBKK.out) (by decide) rfl
  have q1 := cell_k8 (i := 1) (show w1.drew.heap[w.heap.size]? = _ from HBKK.out) (by decide) rfl
  refine wp_region_OT K8 (fun w => Lib.OthersKept.refl _ _ _) (fun a b c h k => h.trans k) [] (.pure [0, 1, 2, 3, 6, 7] (.step 4 (.step 5 (.step 8 (.free [9] (.tail [])))))) (by kernel_rfl) (by kernel_rfl) (fun _ d _ _ _ h => by cases d <;> exact h) ?_
  generalize hw2 : w1.drew = w2 at *
  have HW2 : Hid (Below w.heap.size w w2 ∧ OwnB w2 B (.slice Av m cv) l ∧ K8 w w2 ∧ w.heap.size < w2.heap.size) := hid (by
   rw [← hw2]
   exact ⟨HB1.out.drew, HO1.out, (k8_below HB1.out).drew, (Array.getElem?_eq_some_iff.1 HBKK.out).1⟩)
  have HBK2 := hid ((show w2.heap[w.heap.size]? = w1.heap[w.heap.size]? from by rw [← hw2]; rfl).trans HBKK.out)
  clear hw2 hbk
  refine ot_pure ?_
  simp only [atR]
  show wpQuiet _ _ _ _ [_, _, _, _, _, _] _
  try simp only [acR, Act.put] at *
  repeat (go_big_quiet_step (fail))
  refine wpQuiet_nil ?_
  clear q0 q1
  refine ot_step rfl (fun K hK => ?_)
  go_simp
  refine hK _ _ (.inr ((Lib.OthersKept.refl _ _ _).alloc _)) ?_
  clear hK K
  have hml : m ≤ 140737470000000 := by rw [HM.out]; exact HL.out
  have hB2 : B ≤ w2.heap.size := Nat.le_trans HB.out HW2.out.1.size
  have HOA : Hid (∀ X : Obj, OwnB (w2.alloc X) B (.slice Av m cv) l) := hid fun X => HW2.out.2.1.below ((Below.refl _ _).alloc (Nat.le_refl _) _)
  have hrow : ∀ X : Obj, (w2.alloc X).ownsRow B 5 1 (.slice Av m cv) m (bcells l) := fun X => by have h9 := HOA.out X; unfold OwnB at h9; rw [← HM.out] at h9; exact h9
  refine ot_step rfl (fun K hK => ?_)
  refine wp_append_moved _ _ _ 35 rfl B 5 i0 (.int .u8 0) 1 1 Tryz.underlying35 hi hz0 hz1 hz2 rfl (by decide) _ m (bcells l) rfl (hrow _) ⟨w2.heap.size, 0, none⟩ 1 1 [.int .u8 1] rfl rfl (cell_one_new _ _ _) (by simp [Value.oneCell']) (by unfold maxLen; omega) (by omega) (by simp; omega) ?_
  intro v4 w4 hv4 hg4 hwh4
  have hk5 : K8 (w2.alloc (.cells #[.int .u8 1] 5)) w4 := k8_grown (HOA.out _) hg4
  refine hK _ _ (.inr hk5) ?_
  clear hK K
  have HX4 : Hid (OwnB w4 B v4 (l ++ [1]) ∧ Below B w w4 ∧ K8 w w4) := hid ⟨by unfold OwnB; rw [List.length_append, ← HM.out, show bcells (l ++ [1]) = bcells l ++ [.int .u8 1] from by unfold bcells; rw [List.map_append]; rfl]; exact hv4, below_own ((HW2.out.1.mono HB.out).alloc hB2 _) (HOA.out _) (by simp; omega) hg4, (HW2.out.2.2.1.alloc _).trans hk5⟩
  have HBK4 := hid (boxd_k8 (w := w2.alloc (.cells #[.int .u8 1] 5)) ((Below.heap_alloc w2 _ _ HW2.out.2.2.2).trans HBK2.out) hk5)
  have HC := hid (pputpath_any S PA pc d.path B v4 (l ++ [1]) w4 HSB.out (HIN.out w4 HX4.out.2.1).2 HPP.out HX4.out.1 (Nat.le_trans HB.out HX4.out.2.1.size) (by have := HM.out; simp; omega))
  clear hv4 hg4 hwh4 hrow hk5 hB2
  refine ot_step rfl (fun K hK => ?_)
  go_simp
  refine HC.out.mono ?_
  rintro e w5 ⟨v5, rfl, hv5, hb5, hk5⟩
  go_simp
  refine hK _ _ (.inr hk5) ?_
  clear hK K
  have HX5 : Hid (OwnB w5 B v5 (l ++ [1] ++ pathC d.path) ∧ Below B w w5 ∧ K8 w w5) := hid ⟨hv5, HX4.out.2.1.trans hb5, HX4.out.2.2.trans hk5⟩
  have HBK5 := hid (boxd_k8 HBK4.out hk5)
  refine ot_free ?_
  simp only [atR]
  show wpQuiet _ _ _ _ [_] _
  try simp only [acR, Act.put] at *
  repeat (go_big_quiet_step (fail))
  refine wpQuiet_nil ?_
  refine ot_end ?_
  have r0 : w5.cell? ⟨w.heap.size, 0, none⟩ = some (.int .i64 1) := Go.Joins.cell_of_block HBK5.out 0
  have r1 : w5.cell? ⟨w.heap.size, 2, none⟩ = some (.int .i64 d.val.kind) := Go.Joins.cell_of_block HBK5.out 2
  have r2 : w5.cell? ⟨w.heap.size, 3, none⟩ = some (.int .i64 d.val.num) := Go.Joins.cell_of_block HBK5.out 3
  have r3 : w5.cell? ⟨w.heap.size, 4, none⟩ = some (.string d.val.text) := Go.Joins.cell_of_block HBK5.out 4
  have r4 : w5.cell? ⟨w.heap.size, 5, none⟩ = some (.slice VA d.val.items.length vc) := Go.Joins.cell_of_block HBK5.out 5
  have r5 : w5.cell? ⟨w.heap.size, 6, none⟩ = some (.slice VA' d.val.names.length vc') := Go.Joins.cell_of_block HBK5.out 6
  have r6 : w5.cell? ⟨w.heap.size, 7, none⟩ = some (.int .i64 d.num) := Go.Joins.cell_of_block HBK5.out 7
  have hL5 : Hid ((l ++ [1] ++ pathC d.path).length ≤ 140737480000000) := hid (by
   have h1 := (grp_length d.path.length).1
   have h2 := flat_small HPP.out.2
   have h3 := HPP.out.1
   have h4 := HL.out
   unfold pathC
   simp only [List.length_append, List.length_cons, List.length_nil]
   omega)
  have HC6 := hid (cencode_any S d.val _ w5 (fun b hb => Nat.lt_of_lt_of_le (HSB.out b hb) (Nat.le_trans HB.out HX5.out.2.1.size)) (HIN.out w5 HX5.out.2.1).1 HD.out.1 HD.out.2)
  go_wp2_with fail
  refine HC6.out.mono ?_
  rintro e w6 ⟨v6, rfl, hv6, hb6⟩
  have HB6 : Hid (Below B w w6) := hid (HX5.out.2.1.trans (hb6.mono (Nat.le_trans HB.out HX5.out.2.1.size)))
  have HK6 : Hid (K8 w w6) := hid (HX5.out.2.2.trans (k8_below hb6))
  have HO6 : Hid (OwnB w6 B v5 (l ++ [1] ++ pathC d.path)) := hid (HX5.out.1.below hb6)
  have HV6 := hid hv6
  have HZZ := hid HD.out.2
  clear hv6 hb6 HC6 r0 r1 r2 r3 r4 r5 r6
  go_wp2_with (at_builtin; go_must (refine wpList_append_bytes rfl _ _ rfl B _ (l ++ [1] ++ pathC d.path) rfl HO6.out w6.heap.size _ (encO d.val) rfl HV6.out.rd (Nat.le_trans HB.out HB6.out.size) (by have := hL5.out; have := encO_length (t := d.val) HZZ.out; omega) ?_))
  intro v7 w7 hv7 hg7
  have hfin : codeD1 d = [1] ++ pathC d.path ++ encO d.val := by unfold codeD1; rw [HKE.out]; simp
  have HX : Hid (OwnB w7 B v7 (l ++ codeD1 d) ∧ Below B w w7 ∧ K8 w w7) := hid ⟨by rw [hfin]; simpa [List.append_assoc] using hv7, below_own HB6.out HO6.out (Nat.le_trans HB.out HB6.out.size) hg7, HK6.out.trans (k8_grown HO6.out hg7)⟩
  clear hv7 hg7 hfin
  go_wp2_with fail
  go_ret
  exact ⟨_, rfl, HX.out⟩
 ·have HKE := hid hkk
  have hbk := HBK.out
  rw [hkk] at hbk hw1 ⊢
  clear hkk
  have HBKK := hid hbk
  go_wp2_with fail
  first | rw [← hw1] | skip
  clear hw1
  have q0 := cell_k8 (i := 0) (show w1.drew.heap[w.heap.size]? = _ from HBKK.out) (by decide) rfl
  have q1 := cell_k8 (i := 1) (show w1.drew.heap[w.heap.size]? = _ from HBKK.out) (by decide) rfl
  refine wp_region_OT K8 (fun w => Lib.OthersKept.refl _ _ _) (fun a b c h k => h.trans k) [] (.pure [0, 1, 2, 3, 6, 7] (.step 4 (.step 5 (.step 8 (.free [9] (.tail [])))))) (by kernel_rfl) (by kernel_rfl) (fun _ d _ _ _ h => by cases d <;> exact h) ?_
  generalize hw2 : w1.drew = w2 at *
  have HW2 : Hid (Below w.heap.size w w2 ∧ OwnB w2 B (.slice Av m cv) l ∧ K8 w w2 ∧ w.heap.size < w2.heap.size) := hid (by
   rw [← hw2]
   exact ⟨HB1.out.drew, HO1.out, (k8_below HB1.out).drew, (Array.getElem?_eq_some_iff.1 HBKK.out).1⟩)
  have HBK2 := hid ((show w2.heap[w.heap.size]? = w1.heap[w.heap.size]? from by rw [← hw2]; rfl).trans HBKK.out)
  clear hw2 hbk
  refine ot_pure ?_
  simp only [atR]
  show wpQuiet _ _ _ _ [_, _, _, _, _, _] _
  try simp only [acR, Act.put] at *
  repeat (go_big_quiet_step (fail))
  refine wpQuiet_nil ?_
  clear q0 q1
  refine ot_step rfl (fun K hK => ?_)
  go_simp
  refine hK _ _ (.inr ((Lib.OthersKept.refl _ _ _).alloc _)) ?_
  clear hK K
  have hml : m ≤ 140737470000000 := by rw [HM.out]; exact HL.out
  have hB2 : B ≤ w2.heap.size := Nat.le_trans HB.out HW2.out.1.size
  have HOA : Hid (∀ X : Obj, OwnB (w2.alloc X) B (.slice Av m cv) l) := hid fun X => HW2.out.2.1.below ((Below.refl _ _).alloc (Nat.le_refl _) _)
  have hrow : ∀ X : Obj, (w2.alloc X).ownsRow B 5 1 (.slice Av m cv) m (bcells l) := fun X => by have h9 := HOA.out X; unfold OwnB at h9; rw [← HM.out] at h9; exact h9
  refine ot_step rfl (fun K hK => ?_)
  refine wp_append_moved _ _ _ 35 rfl B 5 i0 (.int .u8 0) 1 1 Tryz.underlying35 hi hz0 hz1 hz2 rfl (by decide) _ m (bcells l) rfl (hrow _) ⟨w2.heap.size, 0, none⟩ 1 1 [.int .u8 2] rfl rfl (cell_one_new _ _ _) (by simp [Value.oneCell']) (by unfold maxLen; omega) (by omega) (by simp; omega) ?_
  intro v4 w4 hv4 hg4 hwh4
  have hk5 : K8 (w2.alloc (.cells #[.int .u8 2] 5)) w4 := k8_grown (HOA.out _) hg4
  refine hK _ _ (.inr hk5) ?_
  clear hK K
  have HX4 : Hid (OwnB w4 B v4 (l ++ [2]) ∧ Below B w w4 ∧ K8 w w4) := hid ⟨by unfold OwnB; rw [List.length_append, ← HM.out, show bcells (l ++ [2]) = bcells l ++ [.int .u8 2] from by unfold bcells; rw [List.map_append]; rfl]; exact hv4, below_own ((HW2.out.1.mono HB.out).alloc hB2 _) (HOA.out _) (by simp; omega) hg4, (HW2.out.2.2.1.alloc _).trans hk5⟩
  have HBK4 := hid (boxd_k8 (w := w2.alloc (.cells #[.int .u8 2] 5)) ((Below.heap_alloc w2 _ _ HW2.out.2.2.2).trans HBK2.out) hk5)
  have HC := hid (pputpath_any S PA pc d.path B v4 (l ++ [2]) w4 HSB.out (HIN.out w4 HX4.out.2.1).2 HPP.out HX4.out.1 (Nat.le_trans HB.out HX4.out.2.1.size) (by have := HM.out; simp; omega))
  clear hv4 hg4 hwh4 hrow hk5 hB2
  refine ot_step rfl (fun K hK => ?_)
  go_simp
  refine HC.out.mono ?_
  rintro e w5 ⟨v5, rfl, hv5, hb5, hk5⟩
  go_simp
  refine hK _ _ (.inr hk5) ?_
  clear hK K
  have HX5 : Hid (OwnB w5 B v5 (l ++ [2] ++ pathC d.path) ∧ Below B w w5 ∧ K8 w w5) := hid ⟨hv5, HX4.out.2.1.trans hb5, HX4.out.2.2.trans hk5⟩
  have HBK5 := hid (boxd_k8 HBK4.out hk5)
  refine ot_free ?_
  simp only [atR]
  show wpQuiet _ _ _ _ [_] _
  try simp only [acR, Act.put] at *
  repeat (go_big_quiet_step (fail))
  refine wpQuiet_nil ?_
  refine ot_end ?_
  have r0 : w5.cell? ⟨w.heap.size, 0, none⟩ = some (.int .i64 2) := Go.Joins.cell_of_block HBK5.out 0
  have r1 : w5.cell? ⟨w.heap.size, 2, none⟩ = some (.int .i64 d.val.kind) := Go.Joins.cell_of_block HBK5.out 2
  have r2 : w5.cell? ⟨w.heap.size, 3, none⟩ = some (.int .i64 d.val.num) := Go.Joins.cell_of_block HBK5.out 3
  have r3 : w5.cell? ⟨w.heap.size, 4, none⟩ = some (.string d.val.text) := Go.Joins.cell_of_block HBK5.out 4
  have r4 : w5.cell? ⟨w.heap.size, 5, none⟩ = some (.slice VA d.val.items.length vc) := Go.Joins.cell_of_block HBK5.out 5
  have r5 : w5.cell? ⟨w.heap.size, 6, none⟩ = some (.slice VA' d.val.names.length vc') := Go.Joins.cell_of_block HBK5.out 6
  have r6 : w5.cell? ⟨w.heap.size, 7, none⟩ = some (.int .i64 d.num) := Go.Joins.cell_of_block HBK5.out 7
  have hL5 : Hid ((l ++ [2] ++ pathC d.path).length ≤ 140737480000000) := hid (by
   have h1 := (grp_length d.path.length).1
   have h2 := flat_small HPP.out.2
   have h3 := HPP.out.1
   have h4 := HL.out
   unfold pathC
   simp only [List.length_append, List.length_cons, List.length_nil]
   omega)
  go_wp2_with fail
  go_ret
  have hfin : codeD1 d = [2] ++ pathC d.path := by unfold codeD1; rw [HKE.out]; simp
  rw [hfin, ← List.append_assoc]
  exact ⟨_, rfl, HX5.out⟩
 ·have HKE := hid hkk
  obtain ⟨nn, hnn⟩ : ∃ nn : Nat, d.num = (nn : Int) := ⟨d.num.toNat, by omega⟩
  have hn9 : nn ≤ 999 := by omega
  have HNN := hid hnn
  have hk3 := hkk.1
  have hbk := HBK.out
  rw [hk3, hnn] at hbk hw1 ⊢
  clear hkk hk3 hnn
  have HBKK := hid hbk
  go_wp2_with fail
  first | rw [← hw1] | skip
  clear hw1
  have q0 := cell_k8 (i := 0) (show w1.drew.heap[w.heap.size]? = _ from HBKK.out) (by decide) rfl
  have q1 := cell_k8 (i := 1) (show w1.drew.heap[w.heap.size]? = _ from HBKK.out) (by decide) rfl
  refine wp_region_OT K8 (fun w => Lib.OthersKept.refl _ _ _) (fun a b c h k => h.trans k) [] (.pure [0, 1, 2, 3, 6, 7] (.step 4 (.step 5 (.step 8 (.free [9] (.tail [])))))) (by kernel_rfl) (by kernel_rfl) (fun _ d _ _ _ h => by cases d <;> exact h) ?_
  generalize hw2 : w1.drew = w2 at *
  have HW2 : Hid (Below w.heap.size w w2 ∧ OwnB w2 B (.slice Av m cv) l ∧ K8 w w2 ∧ w.heap.size < w2.heap.size) := hid (by
   rw [← hw2]
   exact ⟨HB1.out.drew, HO1.out, (k8_below HB1.out).drew, (Array.getElem?_eq_some_iff.1 HBKK.out).1⟩)
  have HBK2 := hid ((show w2.heap[w.heap.size]? = w1.heap[w.heap.size]? from by rw [← hw2]; rfl).trans HBKK.out)
  clear hw2 hbk
  refine ot_pure ?_
  simp only [atR]
  show wpQuiet _ _ _ _ [_, _, _, _, _, _] _
  try simp only [acR, Act.put] at *
  repeat (go_big_quiet_step (fail))
  refine wpQuiet_nil ?_
  clear q0 q1
  refine ot_step rfl (fun K hK => ?_)
  go_simp
  refine hK _ _ (.inr ((Lib.OthersKept.refl _ _ _).alloc _)) ?_
  clear hK K
  have hml : m ≤ 140737470000000 := by rw [HM.out]; exact HL.out
  have hB2 : B ≤ w2.heap.size := Nat.le_trans HB.out HW2.out.1.size
  have HOA : Hid (∀ X : Obj, OwnB (w2.alloc X) B (.slice Av m cv) l) := hid fun X => HW2.out.2.1.below ((Below.refl _ _).alloc (Nat.le_refl _) _)
  have hrow : ∀ X : Obj, (w2.alloc X).ownsRow B 5 1 (.slice Av m cv) m (bcells l) := fun X => by have h9 := HOA.out X; unfold OwnB at h9; rw [← HM.out] at h9; exact h9
  refine ot_step rfl (fun K hK => ?_)
  refine wp_append_moved _ _ _ 35 rfl B 5 i0 (.int .u8 0) 1 1 Tryz.underlying35 hi hz0 hz1 hz2 rfl (by decide) _ m (bcells l) rfl (hrow _) ⟨w2.heap.size, 0, none⟩ 1 1 [.int .u8 3] rfl rfl (cell_one_new _ _ _) (by simp [Value.oneCell']) (by unfold maxLen; omega) (by omega) (by simp; omega) ?_
  intro v4 w4 hv4 hg4 hwh4
  have hk5 : K8 (w2.alloc (.cells #[.int .u8 3] 5)) w4 := k8_grown (HOA.out _) hg4
  refine hK _ _ (.inr hk5) ?_
  clear hK K
  have HX4 : Hid (OwnB w4 B v4 (l ++ [3]) ∧ Below B w w4 ∧ K8 w w4) := hid ⟨by unfold OwnB; rw [List.length_append, ← HM.out, show bcells (l ++ [3]) = bcells l ++ [.int .u8 3] from by unfold bcells; rw [List.map_append]; rfl]; exact hv4, below_own ((HW2.out.1.mono HB.out).alloc hB2 _) (HOA.out _) (by simp; omega) hg4, (HW2.out.2.2.1.alloc _).trans hk5⟩
  have HBK4 := hid (boxd_k8 (w := w2.alloc (.cells #[.int .u8 3] 5)) ((Below.heap_alloc w2 _ _ HW2.out.2.2.2).trans HBK2.out) hk5)
  have HC := hid (pputpath_any S PA pc d.path B v4 (l ++ [3]) w4 HSB.out (HIN.out w4 HX4.out.2.1).2 HPP.out HX4.out.1 (Nat.le_trans HB.out HX4.out.2.1.size) (by have := HM.out; simp; omega))
  clear hv4 hg4 hwh4 hrow hk5 hB2
  refine ot_step rfl (fun K hK => ?_)
  go_simp
  refine HC.out.mono ?_
  rintro e w5 ⟨v5, rfl, hv5, hb5, hk5⟩
  go_simp
  refine hK _ _ (.inr hk5) ?_
  clear hK K
  have HX5 : Hid (OwnB w5 B v5 (l ++ [3] ++ pathC d.path) ∧ Below B w w5 ∧ K8 w w5) := hid ⟨hv5, HX4.out.2.1.trans hb5, HX4.out.2.2.trans hk5⟩
  have HBK5 := hid (boxd_k8 HBK4.out hk5)
  refine ot_free ?_
  simp only [atR]
  show wpQuiet _ _ _ _ [_] _
  try simp only [acR, Act.put] at *
  repeat (go_big_quiet_step (fail))
  refine wpQuiet_nil ?_
  refine ot_end ?_
  have r0 : w5.cell? ⟨w.heap.size, 0, none⟩ = some (.int .i64 3) := Go.Joins.cell_of_block HBK5.out 0
  have r1 : w5.cell? ⟨w.heap.size, 2, none⟩ = some (.int .i64 d.val.kind) := Go.Joins.cell_of_block HBK5.out 2
  have r2 : w5.cell? ⟨w.heap.size, 3, none⟩ = some (.int .i64 d.val.num) := Go.Joins.cell_of_block HBK5.out 3
  have r3 : w5.cell? ⟨w.heap.size, 4, none⟩ = some (.string d.val.text) := Go.Joins.cell_of_block HBK5.out 4
  have r4 : w5.cell? ⟨w.heap.size, 5, none⟩ = some (.slice VA d.val.items.length vc) := Go.Joins.cell_of_block HBK5.out 5
  have r5 : w5.cell? ⟨w.heap.size, 6, none⟩ = some (.slice VA' d.val.names.length vc') := Go.Joins.cell_of_block HBK5.out 6
  have r6 : w5.cell? ⟨w.heap.size, 7, none⟩ = some (.int .i64 (nn : Int)) := Go.Joins.cell_of_block HBK5.out 7
  have hL5 : Hid ((l ++ [3] ++ pathC d.path).length ≤ 140737480000000) := hid (by
   have h1 := (grp_length d.path.length).1
   have h2 := flat_small HPP.out.2
   have h3 := HPP.out.1
   have h4 := HL.out
   unfold pathC
   simp only [List.length_append, List.length_cons, List.length_nil]
   omega)
  have HC6 := hid (pputone_any B nn v5 (l ++ [3] ++ pathC d.path) w5 HX5.out.1 (Nat.le_trans HB.out HX5.out.2.1.size) (by omega) (by have := hL5.out; omega))
  go_wp2_with fail
  refine HC6.out.mono ?_
  rintro e w6 ⟨v6, rfl, hv6, hb6, hk6⟩
  have hfin : codeD1 d = [3] ++ pathC d.path ++ grp nn := by unfold codeD1; rw [HKE.out.1, HNN.out]; simp
  have HX6 : Hid (OwnB w6 B v6 (l ++ codeD1 d) ∧ Below B w w6 ∧ K8 w w6) := hid ⟨by rw [hfin, ← List.append_assoc, ← List.append_assoc]; exact hv6, HX5.out.2.1.trans hb6, HX5.out.2.2.trans hk6⟩
  clear hfin hv6 hb6 hk6
  go_wp2_with fail
  go_ret
  exact ⟨_, rfl, HX6.out⟩
end Go.Proofs.YtpcdngpppjdgcaaGreat

/- A list's code is read back: plain. -/
namespace Go.Proofs.YtpcdngpppjdgcaaGreat
set_option linter.unusedVariables false
set_option linter.unusedSimpArgs false
set_option maxRecDepth 100000
def codeDs (l : List DelT) : List UInt8 := if checkD l = 0 then grp l.length ++ (l.map codeD1).flatten else []
theorem mayD_names {d : DelT} (h : mayD d = true) : NamesOK d.path := mayP_ok (mayD_path h)
theorem codeD1_small {d : DelT} (h : mayD d = true) (hz : sizeT d.val ≤ 9223372036854775807) : (codeD1 d).length ≤ 2100000 := by
 have h1 := pathC_small (mayD_names h)
 have h3 := encO_length hz
 have h4 := (grp_length d.num.toNat).1
 unfold codeD1
 rw [List.length_append, List.length_append]
 split
 ·simp; omega
 split
 ·simp; omega
 ·simp; omega
theorem codeDs_small : ∀ {l : List DelT}, (∀ d ∈ l, mayD d = true ∧ sizeT d.val ≤ 9223372036854775807) → ((l.map codeD1).flatten).length ≤ 2100000 * l.length
 | [], _ => by simp
 | a :: r, h => by
  have h1 := codeD1_small (h a (by simp)).1 (h a (by simp)).2
  have h2 := codeDs_small (l := r) fun o ho => h o (List.mem_cons_of_mem _ ho)
  simp only [List.map_cons, List.flatten_cons, List.length_append, List.length_cons]
  omega
theorem checkD_zero {l : List DelT} (h : checkD l = 0) : l.length ≤ 64 ∧ ∀ d ∈ l, mayD d = true := by
 unfold checkD at h
 by_cases h1 : 64 < l.length
 ·rw [if_pos h1] at h; omega
 ·rw [if_neg h1] at h
  by_cases h2 : l.all mayD = true
  ·exact ⟨by omega, fun d hd => List.all_eq_true.1 h2 d hd⟩
  ·rw [if_neg h2] at h; omega
def SmallZD (l : List DelT) : Prop := ∀ d ∈ l, sizeT d.val ≤ 9223372036854775807
/-! ### what lies at one step -/
def itemT (t : VT) (s : ByteArray) : Option VT := if placeT t s < 0 then none else t.items[(placeT t s).toNat]?
theorem getT_item (t : VT) (s : ByteArray) (r : List ByteArray) : getT t (s :: r) = (itemT t s).bind fun u => getT u r := by
  conv => lhs; unfold getT
  unfold itemT
  split
  · rfl
  · cases t.items[(placeT t s).toNat]? <;> rfl
def lookN : List ByteArray → List VT → ByteArray → Option VT
  | a :: r, x :: l, s => if a = s then some x else lookN r l s
  | _, _, _ => none
theorem nmI_shift (s : ByteArray) : ∀ (l : List ByteArray) (k : Nat), nmI k l s = if nmI 0 l s < 0 then -1 else nmI 0 l s + k
  | [], k => by unfold nmI; simp
  | a :: r, k => by
    unfold nmI
    by_cases h : a = s
    · rw [if_pos h, if_pos h]; simp
    · rw [if_neg h, if_neg h]
      have h1 := nmI_shift s r (k + 1)
      have h2 := nmI_shift s r 1
      have h3 := (nmI_lt (s := s) (l := r) (k := 0)).1
      rw [h1]
      show _ = if nmI (0 + 1) r s < 0 then (-1 : Int) else nmI (0 + 1) r s + k
      rw [show 0 + 1 = 1 from rfl, h2]
      split <;> split <;> omega
theorem look_names (s : ByteArray) : ∀ (ns : List ByteArray) (l : List VT), (if nmI 0 ns s < 0 then none else l[(nmI 0 ns s).toNat]?) = lookN ns l s
  | [], l => by unfold nmI lookN; simp
  | a :: r, l => by
    by_cases h : a = s
    · have e : nmI 0 (a :: r) s = 0 := by unfold nmI; rw [if_pos h]; rfl
      rw [e]
      cases l with
      | nil => unfold lookN; simp
      | cons x l => unfold lookN; simp [h]
    · have e : nmI 0 (a :: r) s = nmI 1 r s := by conv => lhs; unfold nmI
                                                  rw [if_neg h]
      have e2 := nmI_shift s r 1
      have ih := look_names s r
      rw [e, e2]
      have h3 := (nmI_lt (s := s) (l := r) (k := 0)).1
      cases l with
      | nil =>
        unfold lookN
        split <;> simp
      | cons x l =>
        unfold lookN
        rw [if_neg h, ← ih l]
        by_cases hn : nmI 0 r s < 0
        · rw [if_pos hn, if_pos hn]; rfl
        · rw [if_neg hn, if_neg hn, if_neg (by omega)]
          have : (nmI 0 r s + ((1 : Nat) : Int)).toNat = (nmI 0 r s).toNat + 1 := by omega
          rw [this, List.getElem?_cons_succ]
theorem item_doc {t : VT} (h : t.kind = 7) (s : ByteArray) : itemT t s = lookN t.names t.items s := by
  unfold itemT
  rw [placeT_doc h]
  exact look_names s t.names t.items
theorem mayT_iff (t : VT) : mayT t = true ↔ fitsP t.kind t.num t.text t.items.length t.names = true ∧ ∀ x ∈ t.items, mayT x = true := by
  rw [mayT_mk2, Bool.and_eq_true]
  refine and_congr_right fun _ => ⟨fun h x hx => mayL_mem h hx, fun h => mayL_all fun j hj => h _ (List.getElem_mem hj)⟩
structure EntT where
 term : Int
 kind : Int
 coll : ByteArray
 to : ByteArray
 id : VT
 doc : VT
 dels : List DelT
 session : Int
 number : Int
def hasColl (k : Int) : Bool := decide (2 ≤ k) && decide (k ≤ 7)
def hasTo (k : Int) : Bool := decide (k = 7)
def hasId (k : Int) : Bool := decide (2 ≤ k) && decide (k ≤ 4)
def hasDoc (k : Int) : Bool := decide (k = 2)
def hasDels (k : Int) : Bool := decide (k = 3)
def nameC (s : ByteArray) : Bool := decide (1 ≤ s.size) && decide (s.size ≤ 32) && s.data.toList.all fun b => decide (b ≠ 36) && decide (b ≠ 0)
def holdE (v id : VT) : Bool := decide (v.kind = 7) && decide (checkT v = 0) && (match itemT v idN with
 | some x => decide (cmpT x id = 0)
 | none => false)
def mayDo (l : List DelT) : Bool := decide (checkD l = 0) && freeD l && !touchD l [idN]
def emptyE : EntT := ⟨0, 0, ⟨#[]⟩, ⟨#[]⟩, noneV, noneV, [], 0, 0⟩
def mayE (e : EntT) : Bool :=
 (decide (1 ≤ e.kind) && decide (e.kind ≤ 7)) && (decide (0 ≤ e.term) && decide (e.term ≤ 1099511627776)) && (decide (0 ≤ e.session) && decide (e.session ≤ 255)) && (decide (0 ≤ e.number) && decide (e.number ≤ 1099511627776)) &&
 (if hasColl e.kind then nameC e.coll else decide (e.coll.size = 0)) && (if hasTo e.kind then nameC e.to && decide (e.to ≠ e.coll) else decide (e.to.size = 0)) &&
 (if hasId e.kind then decide (checkT e.id = 0) else noneT e.id) && (if hasDoc e.kind then holdE e.doc e.id else noneT e.doc) && (if hasDels e.kind then mayDo e.dels else decide (e.dels.length = 0)) &&
 (if e.kind = 1 then decide (e.session = 0) && decide (e.number = 0) else true)
def codeE (e : EntT) : List UInt8 :=
 grp e.term.toNat ++ ([UInt8.ofNat e.kind.toNat] ++ (grp e.session.toNat ++ (grp e.number.toNat ++ ((if hasColl e.kind then txt e.coll else []) ++ ((if hasTo e.kind then txt e.to else []) ++ ((if hasId e.kind then encO e.id else []) ++
  ((if hasDoc e.kind then encO e.doc else []) ++ (if hasDels e.kind then codeDs e.dels else []))))))))
def optR {α : Type} (b : Bool) (z : α) (f : Option (List UInt8) → α × Option (List UInt8)) (st : Option (List UInt8)) : α × Option (List UInt8) := if b then f st else (z, st)
def rdTextB (n : Int) (st : Option (List UInt8)) : ByteArray × Option (List UInt8) := (⟨(rdText n st).1.toArray⟩, (rdText n st).2)
def rdE1 (st : Option (List UInt8)) : EntT × Option (List UInt8) :=
 let a := rdCount 1099511627776 st
 let k := rdByte a.2
 let s := rdCount 255 k.2
 let n := rdCount 1099511627776 s.2
 let c := optR (hasColl k.1) ⟨#[]⟩ (rdTextB 32) n.2
 let t := optR (hasTo k.1) ⟨#[]⟩ (rdTextB 32) c.2
 let i := optR (hasId k.1) noneV readO t.2
 let d := optR (hasDoc k.1) noneV readO i.2
 let l := optR (hasDels k.1) [] rdDl d.2
 (⟨a.1, k.1, c.1, t.1, i.1, d.1, l.1, s.1, n.1⟩, l.2)
def rdE (st : Option (List UInt8)) : EntT × Option (List UInt8) := match (rdE1 st).2 with
 | none => (emptyE, none)
 | some r => if mayE (rdE1 st).1 = true then ((rdE1 st).1, some r) else (emptyE, none)
structure MayE (e : EntT) : Prop where
 k1 : 1 ≤ e.kind
 k7 : e.kind ≤ 7
 t0 : 0 ≤ e.term
 t1 : e.term ≤ 1099511627776
 s0 : 0 ≤ e.session
 s1 : e.session ≤ 255
 n0 : 0 ≤ e.number
 n1 : e.number ≤ 1099511627776
 coll : if hasColl e.kind = true then nameC e.coll = true else e.coll.size = 0
 to : if hasTo e.kind = true then nameC e.to = true ∧ e.to ≠ e.coll else e.to.size = 0
 id : if hasId e.kind = true then checkT e.id = 0 else noneT e.id = true
 doc : if hasDoc e.kind = true then holdE e.doc e.id = true else noneT e.doc = true
 dels : if hasDels e.kind = true then mayDo e.dels = true else e.dels.length = 0
 noop : e.kind = 1 → e.session = 0 ∧ e.number = 0
theorem ite_bool {c : Bool} {a b : Bool} : (if c = true then a else b) = true ↔ if c = true then a = true else b = true := by cases c <;> simp
theorem mayE_iff (e : EntT) : mayE e = true ↔ MayE e := by
 unfold mayE
 simp only [Bool.and_eq_true, decide_eq_true_eq, ite_bool]
 constructor
 ·rintro ⟨⟨⟨⟨⟨⟨⟨⟨⟨⟨a, b⟩, c, d⟩, f, g⟩, h, i⟩, j⟩, k⟩, l⟩, m⟩, n⟩, o⟩
  refine ⟨a, b, c, d, f, g, h, i, j, k, l, m, n, fun hk => ?_⟩
  rw [if_pos hk] at o
  simpa using o
 ·intro h
  refine ⟨⟨⟨⟨⟨⟨⟨⟨⟨⟨h.k1, h.k7⟩, h.t0, h.t1⟩, h.s0, h.s1⟩, h.n0, h.n1⟩, h.coll⟩, h.to⟩, h.id⟩, h.doc⟩, h.dels⟩, ?_⟩
  by_cases hk : e.kind = 1
  ·rw [if_pos hk]; simpa using h.noop hk
  ·rw [if_neg hk]
theorem nameC_len {s : ByteArray} (h : nameC s = true) : 1 ≤ s.size ∧ s.size ≤ 32 := by
 unfold nameC at h
 simp only [Bool.and_eq_true, decide_eq_true_eq] at h
 exact h.1
theorem prod_some {α : Type} {p : α × Option (List UInt8)} (h : p.2 ≠ none) : ∃ r, p = (p.1, some r) := by
 obtain ⟨a, o⟩ := p
 cases o with
 | none => exact absurd rfl h
 | some r => exact ⟨r, rfl⟩
theorem rdK_inv : ∀ (k : Nat) (l : List UInt8) (p : List ByteArray) (r : List UInt8), rdK (some l) k = (p, some r) → l = (p.map txt).flatten ++ r ∧ p.length = k
 | 0, l, p, r, h => by
  injection h with h1 h2
  injection h2 with h2
  subst h1 h2
  exact ⟨rfl, rfl⟩
 | k + 1, l, p, r, h => by
  have hk : (rdK (some l) k).2 ≠ none := fun hn => by
   have := rdK_none hn (k + 1) (by omega)
   rw [h] at this
   cases this
  obtain ⟨r1, e1⟩ := prod_some hk
  obtain ⟨i1, i2⟩ := rdK_inv k l _ r1 e1
  unfold rdK at h
  rw [e1] at h
  dsimp only at h
  injection h with h1 h2
  obtain ⟨j1, -⟩ := rdText_inv (m := 32) (l := r1) (r := r) (x := (rdText 32 (some r1)).1) (by omega) (Prod.ext rfl h2)
  refine ⟨?_, by rw [← h1]; simp [rdK_len]⟩
  conv => lhs; rw [i1, j1]
  rw [← h1, List.map_append, List.flatten_append, List.append_assoc]
  simp [bsOf]
theorem rdPath_inv {l r : List UInt8} {p : List ByteArray} (h : rdPathO (some l) = (p, some r)) : l = pathC p ++ r := by
 unfold rdPathO at h
 have hc : (rdCount 8 (some l)).2 ≠ none := fun hn => by
  have h0 : (rdK (rdCount 8 (some l)).2 0).2 = none := hn
  have := rdK_none h0 (rdCount 8 (some l)).1 (by omega)
  rw [h] at this
  cases this
 obtain ⟨r1, e1⟩ := prod_some hc
 rw [e1] at h
 obtain ⟨i1, -⟩ := rdCount_inv (m := 8) (by omega) e1
 obtain ⟨j1, j2⟩ := rdK_inv _ _ _ _ h
 unfold pathC
 rw [j2, List.append_assoc, ← j1]
 exact i1
theorem readO_inv {l r : List UInt8} {t : VT} (hl : l.length ≤ 9223372036854775807) (h : readO (some l) = (t, some r)) : l = encO t ++ r ∧ checkT t = 0 := by
 rw [readO_some] at h
 cases hs : readS l with
 | none => rw [hs] at h; injection h with h1 h2; cases h2
 | some q =>
  obtain ⟨t', r'⟩ := q
  rw [hs] at h
  injection h with h1 h2
  injection h2 with h2
  subst h1 h2
  obtain ⟨-, -, e, -, hc⟩ := readS_some hs hl
  exact ⟨by unfold encO; rw [if_pos hc]; exact e, hc⟩
theorem rdD_inv {l r : List UInt8} {d : DelT} (hl : l.length ≤ 9223372036854775807) (h : rdD (some l) = (d, some r)) (hm : mayD d = true) : l = codeD1 d ++ r := by
 have hb : (rdByte (some l)).2 ≠ none := fun hn => by
  have := rdPath_nn
  unfold rdD at h
  rw [hn] at h
  split at h
  ·injection h with h1 h2
   rw [this] at h2
   cases h2
  ·split at h
   ·injection h with h1 h2
    rw [this] at h2
    have h3 : rdCount 999 none = (0, none) := by unfold rdCount; split <;> rfl
    rw [h3] at h2
    cases h2
   ·injection h with h1 h2
    rw [this] at h2
    cases h2
 obtain ⟨r1, e1⟩ := prod_some hb
 obtain ⟨i1, i2⟩ := rdByte_inv e1
 have hl1 : r1.length ≤ l.length := by rw [i1]; simp
 obtain ⟨k, ek⟩ : ∃ k, k = (rdByte (some l)).1 := ⟨_, rfl⟩
 rw [← ek] at e1 i1 i2
 have hp : (rdPathO (some r1)).2 ≠ none := fun hn => by
  unfold rdD at h
  rw [e1] at h
  dsimp only at h
  rw [hn] at h
  split at h
  ·injection h with h1 h2
   cases h2
  ·split at h
   ·injection h with h1 h2
    have h3 : rdCount 999 none = (0, none) := by unfold rdCount; split <;> rfl
    rw [h3] at h2
    cases h2
   ·injection h with h1 h2
    cases h2
 obtain ⟨r2, e2⟩ := prod_some hp
 obtain ⟨p, ep⟩ : ∃ p, p = (rdPathO (some r1)).1 := ⟨_, rfl⟩
 rw [← ep] at e2
 have j1 := rdPath_inv e2
 have hl2 : r2.length ≤ r1.length := by rw [j1]; simp
 unfold rdD at h
 rw [e1] at h
 dsimp only at h
 rw [e2] at h
 dsimp only at h
 have hcons : l = [UInt8.ofNat k] ++ (pathC p ++ r2) := by rw [i1, j1]; rfl
 by_cases k1 : k = 1
 ·subst k1
  rw [if_pos rfl] at h
  injection h with h1 h2
  obtain ⟨q, -⟩ := readO_inv (l := r2) (r := r) (t := (readO (some r2)).1) (by omega) (Prod.ext rfl h2)
  rw [← h1]
  unfold codeD1
  dsimp only
  rw [if_pos rfl, hcons]
  conv => lhs; rw [q]
  simp
 ·rw [if_neg k1] at h
  by_cases k3 : k = 3
  ·subst k3
   rw [if_pos rfl] at h
   injection h with h1 h2
   obtain ⟨q, -⟩ := rdCount_inv (m := 999) (l := r2) (r := r) (n := (rdCount 999 (some r2)).1) (by omega) (Prod.ext rfl h2)
   rw [← h1]
   unfold codeD1
   dsimp only
   rw [if_neg (by omega), if_pos rfl, hcons]
   conv => lhs; rw [q]
   simp
  ·rw [if_neg k3] at h
   injection h with h1 h2
   injection h2 with h2
   subst h2
   rw [← h1]
   unfold codeD1
   dsimp only
   rw [if_neg (by omega), if_neg (by omega), hcons]
   simp
theorem rdDK_inv : ∀ (k : Nat) (l : List UInt8) (ds : List DelT) (r : List UInt8), l.length ≤ 9223372036854775807 → rdDK (some l) k = (ds, some r) → (∀ d ∈ ds, mayD d = true) → l = (ds.map codeD1).flatten ++ r ∧ ds.length = k
 | 0, l, ds, r, _, h, _ => by
  injection h with h1 h2
  injection h2 with h2
  subst h1 h2
  exact ⟨rfl, rfl⟩
 | k + 1, l, ds, r, hl, h, hm => by
  unfold rdDK at h
  injection h with h1 h2
  have hk : (rdDK (some l) k).2 ≠ none := fun hn => by
   rw [hn, rdD_nn] at h2
   cases h2
  obtain ⟨r1, e1⟩ := prod_some hk
  obtain ⟨i1, i2⟩ := rdDK_inv k l _ r1 hl e1 (fun d hd => hm d (by rw [← h1]; exact List.mem_append_left _ hd))
  have hl1 : r1.length ≤ l.length := by rw [i1, List.length_append]; omega
  rw [e1] at h1 h2
  dsimp only at h1 h2
  have j1 := rdD_inv (l := r1) (r := r) (d := (rdD (some r1)).1) (by omega) (Prod.ext rfl h2) (hm _ (by rw [← h1]; simp))
  refine ⟨?_, by rw [← h1]; simp [i2]⟩
  conv => lhs; rw [i1, j1]
  rw [← h1, List.map_append, List.flatten_append, List.append_assoc]
  simp
theorem rdDl_inv {l r : List UInt8} {ds : List DelT} (hl : l.length ≤ 9223372036854775807) (h : rdDl (some l) = (ds, some r)) : l = codeDs ds ++ r ∧ checkD ds = 0 := by
 cases e : (rdDK (rdCount 64 (some l)).2 (rdCount 64 (some l)).1).2 with
 | none => rw [rdDl_none e] at h; injection h with h1 h2; cases h2
 | some r1 =>
  rw [rdDl_some e] at h
  by_cases hc : checkD (rdDK (rdCount 64 (some l)).2 (rdCount 64 (some l)).1).1 = 0
  ·rw [if_pos hc] at h
   injection h with h1 h2
   injection h2 with h2
   subst h2
   rw [h1] at hc
   have hcn : (rdCount 64 (some l)).2 ≠ none := fun hn => by
    rw [hn] at e
    have : ∀ k, (rdDK none k).2 = none := fun k => by
     induction k with
     | zero => rfl
     | succ k ih => unfold rdDK; dsimp only; rw [ih]; exact rdD_nn
    rw [this] at e
    cases e
   obtain ⟨r2, e2⟩ := prod_some hcn
   obtain ⟨i1, -⟩ := rdCount_inv (m := 64) (by omega) e2
   have hl2 : r2.length ≤ l.length := by rw [i1, List.length_append]; omega
   rw [e2] at e h1
   dsimp only at e h1
   obtain ⟨j1, j2⟩ := rdDK_inv _ r2 ds r1 (by omega) (Prod.ext h1 e) (checkD_zero hc).2
   refine ⟨?_, hc⟩
   unfold codeDs
   rw [if_pos hc, List.append_assoc, ← j1, j2]
   exact i1
  ·rw [if_neg hc] at h
   injection h with h1 h2
   cases h2
end Go.Proofs.YtpcdngpppjdgcaaGreat
