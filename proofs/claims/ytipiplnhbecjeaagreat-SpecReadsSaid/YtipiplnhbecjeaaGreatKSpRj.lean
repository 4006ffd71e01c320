/- The document's reading of a path's code. -/
import Derived.Test.YtipiplnhbecjeaaGreatKSpRa
import Derived.Test.YtipiplnhbecjeaaGreatKRdC
import Derived.Test.YtipiplnhbecjeaaGreatKSpF
import Derived.Test.YtipiplnhbecjeaaGreatKSpRe
import Derived.Test.YtipiplnhbecjeaaGreatKSpM
import Derived.Test.YtipiplnhbecjeaaGreatKSpX
import Derived.Maps.AppendAt
namespace Go.Proofs.YtipiplnhbecjeaaGreat
set_option linter.unusedVariables false
set_option linter.unusedSimpArgs false
open Go.RowKit
set_option maxRecDepth 100000
theorem rdText_none (n : Int) : (rdText n none).2 = none := by
  have h : rdCount n none = (0, none) := by unfold rdCount; split <;> rfl
  unfold rdText
  rw [h]
  rfl
theorem rdK_none {st : Option (List UInt8)} {k : Nat} (h : (rdK st k).2 = none) : ∀ m, k ≤ m → (rdK st m).2 = none
  | 0, hm => by obtain rfl : k = 0 := by omega
                exact h
  | m + 1, hm => by
    by_cases hk : k = m + 1
    · rw [← hk]; exact h
    · have h1 := rdK_none h m (by omega)
      show (rdText 32 (rdK st m).2).2 = none
      rw [h1]; exact rdText_none 32
def RPathR (g BB : Nat) (st : Option (List UInt8)) (w : World) (e : Ending) (w' : World) : Prop :=
  ∃ A c l, e = .returned (.slice A l.length c) ∧ w'.ownsRow w.heap.size 9 1 (.slice A l.length c) l.length (l.map Value.string) ∧ RS w' g BB (rdPathO st).2 ∧ Only w w' g ∧ (∀ r, (rdPathO st).2 = some r → l = (rdPathO st).1) ∧ ∃ s k, k ≤ 8 ∧ l = (rdK s k).1
set_option maxHeartbeats 8000000 in
theorem rpath7_any (g BB : Nat) (st : Option (List UInt8)) (w : World) (hs : RS w g BB st) (hB : BB ≤ g) : Calls Tryz.prog 54 #[.pointer (some ⟨g, 0, none⟩)] w (RPathR g BB st w) := by
  obtain ⟨i0, hi, hz0, hz1, hz2⟩ := info_parts Tryz.infoStr
  have h8 : (rdCount 8 st).1 ≤ 8 := rdCount_le 8 st (by omega)
  have HC := Lib.hid (rscount_any g BB 8 st w hs hB (by omega))
  have HG := Lib.hid hs.lt
  have HBB := Lib.hid hB
  obtain ⟨n, hn⟩ : ∃ n, n = (rdCount 8 st).1 := ⟨_, rfl⟩
  have HN := Lib.hid hn
  rw [← hn] at h8 HC
  clear hs hn hB
  go_enter Tryz.func54, Tryz.ntmps54
  go_wp2_with fail
  refine HC.out.mono ?_
  rintro e w1 ⟨rfl, hs1, ho1⟩
  obtain ⟨s1, hs1'⟩ : ∃ s1, s1 = (rdCount 8 st).2 := ⟨_, rfl⟩
  rw [← hs1'] at hs1
  have HS1 := Lib.hid hs1'
  have h0 : Hid (RS w1 g BB (rdK s1 0).2 ∧ Only w w1 g) := Lib.hid ⟨hs1, ho1⟩
  clear hs1 ho1 hs1' HC
  go_wp2_with fail
  go_loopw [3, 5] (fun v i wr => ∃ (k : Nat) (A : Option Addr) (c : Nat), i = .int .i64 k ∧ k ≤ n ∧ v = .slice A k c ∧ Hid (RS wr g BB (rdK s1 k).2 ∧ Only w wr g) ∧ Hid (wr.ownsRow w.heap.size 9 1 (.slice A k c) k ((rdK s1 k).1.map Value.string))) (fun _ i _ => n - (intOf i).toNat)
  case atStart => exact ⟨0, none, 0, rfl, by omega, rfl, h0, Lib.hid (World.ownsRow_nil _ _ _ _)⟩
  case round =>
    obtain ⟨k, A, c, rfl, hk, rfl, HH, HR⟩ := hrel
    have b1 := rs_c1 HH.out.1
    obtain ⟨sb, hsb⟩ : ∃ b, b = (rdK s1 k).2.isNone := ⟨_, rfl⟩
    rw [← hsb] at b1
    have HSB := Lib.hid hsb
    clear hsb
    by_cases hlt : k < n
    · have d1 : decide ((k : Int) < (n : Int)) = true := decide_eq_true (by omega)
      cases sb with
      | true =>
        go_wp2_with fail
        go_ret
        have hnone : (rdK s1 k).2 = none := by simpa using HSB.out.symm
        have he : (rdPathO st).2 = none := by
          unfold rdPathO
          rw [← HS1.out, ← HN.out]
          exact rdK_none hnone n hk
        refine ⟨A, c, (rdK s1 k).1, by rw [rdK_len]; rfl, by rw [rdK_len]; exact HR.out, by rw [he, ← hnone]; exact HH.out.1, HH.out.2, (fun r hr => by rw [he] at hr; cases hr), s1, k, by omega, rfl⟩
      | false =>
        have HT := Lib.hid (rstext_any g BB 32 (rdK s1 k).2 wr HH.out.1 HBB.out (by omega))
        go_wp2_with fail
        refine HT.out.mono ?_
        rintro e w5 ⟨rfl, hs5, ho5⟩
        obtain ⟨sx, hsx⟩ : ∃ sx : ByteArray, sx = ⟨(rdText 32 (rdK s1 k).2).1.toArray⟩ := ⟨_, rfl⟩
        rw [← hsx]
        have hw5 : Only w w5 g := HH.out.2.trans ho5
        have hlo : ∀ q, (Value.slice A k c).ownBlock = some q → w.heap.size ≤ q ∧ q < wr.heap.size := fun q hq => World.ownsRow.lt HR.out q hq
        have hg5 := HG.out
        have hrow : ∀ X : Obj, (w5.alloc X).ownsRow w.heap.size 9 1 (.slice A k c) k ((rdK s1 k).1.map Value.string) := fun X => ownsRow_keep HR.out fun q hq => by
          have := hlo q hq
          exact (Below.heap_alloc w5 _ _ (by have := ho5.size; omega)).trans (ho5.block q this.2 (by rintro ⟨⟩; omega))
        have HX5 : Hid (RS w5 g BB (rdK s1 (k + 1)).2 ∧ Only w w5 g ∧ ∀ q, (Value.slice A k c).ownBlock = some q → w.heap.size ≤ q) := Lib.hid ⟨hs5, hw5, fun q hq => (hlo q hq).1⟩
        have HSX := Lib.hid hsx
        have HROW := Lib.hid hrow
        have hsz5 := hw5.size
        have hkn : k ≤ 8 := by omega
        clear hs5 ho5 hw5 hlo hsx HT hrow
        go_wp2_with (at_builtin; refine wpList_append_own _ rfl _ _ 23 rfl w.heap.size 9 i0 (.string ⟨#[]⟩) 1 16 Tryz.underlying23 hi hz0 hz1 hz2 rfl (by decide) _ k _ rfl (HROW.out _) ⟨w5.heap.size, 0, none⟩ 1 1 [.string sx] rfl rfl (cell_one_new _ _ _) (by simp [Value.oneCell']) (by unfold maxLen; omega) (by omega) (by simp; omega) ?_; intro v6 w6 hown6 hg6 hnil6; obtain ⟨A6, c6, rfl⟩ := own_shape hown6; have HX6 : Hid (RS w6 g BB (rdK s1 (k + 1)).2 ∧ Only w w6 g) := Lib.hid (by have ho6 : Only w w6 g := ⟨hg6.os.trans HX5.out.2.1.os, hg6.tape.trans HX5.out.2.1.tape, hg6.output.trans HX5.out.2.1.output, Nat.le_trans hsz5 (Nat.le_trans (by simp) hg6.size), fun q hq hne => (hg6.block q (by simp; omega) (fun e => by have := HX5.out.2.2 q e.symm; omega)).trans ((Below.heap_alloc w5 _ q (by omega)).trans (HX5.out.2.1.block q hq hne))⟩; have hgk : ∀ q, q < w.heap.size → w6.heap[q]? = w5.heap[q]? := fun q hq => (hg6.block q (by simp; omega) (fun e => by have := HX5.out.2.2 q e.symm; omega)).trans (Below.heap_alloc w5 _ q (by omega)); have hbz := HBB.out; exact ⟨HX5.out.1.keep (hgk g hg5) ⟨hg6.os, hg6.tape, hg6.output, Nat.le_trans (by simp) hg6.size, fun q hq => hgk q (by omega)⟩, ho6⟩); have HR6 := Lib.hid hown6; clear hown6 hg6 hnil6)
        try go_wp2_with fail
        go_roundw
        case rel => exact ⟨k + 1, A6, c6, by go_num, by omega, rfl, HX6, Lib.hid (by have h9 := HR6.out; rw [HSX.out] at h9; unfold rdK; rw [List.map_append]; exact h9)⟩
        case measure => simp [intOf]; omega
    · have hke : k = n := by omega
      have d1 : decide ((k : Int) < (n : Int)) = false := decide_eq_false (by omega)
      have HE : Hid (rdPathO st = rdK s1 k) := Lib.hid (by unfold rdPathO; rw [← HS1.out, ← HN.out, hke])
      clear hke
      go_wp2_with fail
      go_ret
      unfold RPathR
      rw [HE.out]
      exact ⟨A, c, (rdK s1 k).1, by rw [rdK_len]; rfl, by rw [rdK_len]; exact HR.out, HH.out.1, HH.out.2, (fun r hr => rfl), s1, k, by omega, rfl⟩
end Go.Proofs.YtipiplnhbecjeaaGreat

/- The document's reading of an update's code. -/
namespace Go.Proofs.YtipiplnhbecjeaaGreat
set_option linter.unusedVariables false
set_option linter.unusedSimpArgs false
open Go.RowKit
set_option maxRecDepth 100000
def RReadU (g BB : Nat) (st : Option (List UInt8)) (w : World) (e : Ending) (w' : World) : Prop :=
  ∃ cs : Array Value, e = .returned (.agg cs) ∧ SpecL w' (NewB w.heap.size w') (rdS st).1 cs ∧ RS w' g BB (rdS st).2 ∧ Only w w' g
theorem TBox.other {w : World} {p : Nat} {c0 c1 c2 c3 c4 c5 c6 : Value} (h : TBox w p c0 c1 c2 c3 c4 c5 c6) (D i : Nat) (u : Value) (hne : p ≠ D) : TBox (w.setCell ⟨D, i, none⟩ u) p c0 c1 c2 c3 c4 c5 c6 := (heap_setCell_other _ ⟨D, i, none⟩ p _ hne).trans h
theorem RS.onlyB {w w' : World} {g BB : Nat} {st : Option (List UInt8)} (h : RS w g BB st) (hk : ∀ b, b ≤ g → w'.heap[b]? = w.heap[b]?) (hB : BB ≤ g) (ho : w'.os = w.os ∧ w'.tape = w.tape ∧ w'.output = w.output) (hz : w.heap.size ≤ w'.heap.size) : RS w' g BB st :=
  h.keep (hk g (Nat.le_refl _)) ⟨ho.1, ho.2.1, ho.2.2, hz, fun b hb => hk b (by omega)⟩
theorem spec_endR {w W : World} {g BB : Nat} {st : Option (List UInt8)} {S : Nat → Prop} {c0 c1 c2 c3 c4 c5 c6 : Value} (hs : RS W g BB (rdS st).2) (ho : Only w W g) (hg : g < w.heap.size) (hB : BB ≤ g) (h : SpecL W S (rdS st).1 #[c0, c1, c2, c3, c4, c5, c6]) (hS : ∀ b, S b → w.heap.size + 1 ≤ b ∧ b < W.heap.size) :
    RReadU g BB st w (.returned (.agg #[c0, c1, c2, c3, c4, c5, c6])) (seven W w.heap.size c0 c1 c2 c3 c4 c5 c6) := by
  have hz : (seven W w.heap.size c0 c1 c2 c3 c4 c5 c6).heap.size = W.heap.size := seven_size
  refine ⟨_, rfl, (h.keep fun b hb => seven_other b (by have := hS b hb; omega)).imp fun b hb => ?_, hs.onlyB (fun b hb => seven_other b (by omega)) hB seven_rest (by rw [hz]; exact Nat.le_refl _), ?_⟩
  · have := hS b hb
    exact ⟨by omega, by rw [hz]; omega⟩
  · exact ⟨seven_rest.1.trans ho.os, seven_rest.2.1.trans ho.tape, seven_rest.2.2.trans ho.output, by rw [hz]; exact ho.size, fun b hb hne => (seven_other b (by omega)).trans (ho.block b hb hne)⟩
theorem Only.new {w w' : World} {g p i : Nat} {u : Value} (h : Only w w' g) (hp : w.heap.size ≤ p) : Only w (w'.setCell ⟨p, i, none⟩ u) g :=
  ⟨h.os, h.tape, h.output, by simp; exact h.size, fun b hb hne => (heap_setCell_other _ ⟨p, i, none⟩ b _ (by show b ≠ p; omega)).trans (h.block b hb hne)⟩
theorem Only.al {w w' : World} {g : Nat} (h : Only w w' g) (o : Obj) : Only w (w'.alloc o) g := h.trans ⟨rfl, rfl, rfl, by simp, fun b hb _ => Below.heap_alloc w' _ b hb⟩
theorem OpsRow.far {w0 w w' : World} {A : Option Addr} {c : Nat} {l : List OpT} (h : OpsRow w0 w A c l) (hk : ∀ b, w0.heap.size ≤ b → w'.heap[b]? = w.heap[b]?) (hz : w.heap.size ≤ w'.heap.size) : OpsRow w0 w' A c l := by
  obtain ⟨xs, S, h1, h2, h3⟩ := h
  refine ⟨xs, S, ⟨h1.1, h1.2.imp id ?_⟩, h2.keep fun b hb => hk b (h3 b hb).1, fun b hb => ⟨(h3 b hb).1, Nat.lt_of_lt_of_le (h3 b hb).2.1 hz, (h3 b hb).2.2⟩⟩
  rintro ⟨q, cap, cur, e, hB, hh, hr⟩
  exact ⟨q, cap, cur, e, hB, (hk q hB).trans hh, hr⟩
/-- While operators are read. -/
structure LI (w w2 W : World) (g BB : Nat) (st : Option (List UInt8)) (A : Option Addr) (c : Nat) (l : List OpT) : Prop where
  q : TBox W (w.heap.size + 1) (.bool false) (.int .i64 0) (.int .i64 0) (.string ⟨#[]⟩) (.slice none 0 0) (.slice none 0 0) (.slice A l.length c)
  r : TBox W w.heap.size (.bool false) (.int .i64 0) (.int .i64 0) (.string ⟨#[]⟩) (.slice none 0 0) (.slice none 0 0) (.slice none 0 0)
  row : OpsRow w2 W A c l
  s : RS W g BB st
  only : Only w W g
  z2 : w.heap.size + 2 ≤ w2.heap.size
  zW : w2.heap.size ≤ W.heap.size
theorem LI.step {w w2 W W' : World} {g BB : Nat} {st st' : Option (List UInt8)} {A : Option Addr} {c : Nat} {l : List OpT} (h : LI w w2 W g BB st A c l) (hg : g < w.heap.size) (hs : RS W' g BB st') (ho : Only W W' g) : LI w w2 W' g BB st' A c l := by
  have h1 := h.z2; have h2 := h.zW; have h3 := ho.size
  exact ⟨h.q.only ho (by omega), h.r.only ho (by omega), h.row.only ho (by omega), hs, h.only.trans ho, h1, by omega⟩
theorem LI.push {w w2 W w10 : World} {g BB k m p c c7 : Nat} {st : Option (List UInt8)} {A : Option Addr} {l : List OpT} {o : OpT} {S S0 : Nat → Prop} {cs xs : List Value} {v : Value} (h : LI w w2 W g BB st A c l) (hg : g < w.heap.size) (hB : BB ≤ g) (hk : k = l.length) (hop : OpL W S o cs.toArray) (hS : ∀ b, S b → m ≤ b ∧ b < W.heap.size) (hm : w2.heap.size ≤ m)
    (hom : ∀ q, (Value.slice A k c).ownBlock = some q → q < m)
    (hl : OpsC (W.alloc (.cells cs.toArray 33)) S0 l xs) (hS0 : ∀ b, S0 b → w2.heap.size ≤ b ∧ b < (W.alloc (.cells cs.toArray 33)).heap.size ∧ ∀ p, (Value.slice A k c).ownBlock = some p → b ≠ p)
    (hv : v = .slice (some ⟨p, 0, none⟩) (k + 1) c7) (hown : w10.ownsRow w2.heap.size 33 8 v (k + 1) (xs ++ cs)) (hb : (W.alloc (.cells cs.toArray 33)).grownBy w10 (Value.slice A k c).ownBlock) (hat : v.ownBlock = (Value.slice A k c).ownBlock ∨ v.ownBlock = some (W.alloc (.cells cs.toArray 33)).heap.size) :
    LI w w2 (w10.setCell ⟨w.heap.size + 1, 6, none⟩ (.slice (some ⟨p, 0, none⟩) (k + 1) c7)) g BB st (some ⟨p, 0, none⟩) c7 (l ++ [o]) ∧ TBox w10 (w.heap.size + 1) (.bool false) (.int .i64 0) (.int .i64 0) (.string ⟨#[]⟩) (.slice none 0 0) (.slice none 0 0) (.slice A l.length c) ∧ TBox w10 w.heap.size (.bool false) (.int .i64 0) (.int .i64 0) (.string ⟨#[]⟩) (.slice none 0 0) (.slice none 0 0) (.slice none 0 0) := by
  subst hv
  have h1 := h.z2; have h2 := h.zW
  have hz9 : (W.alloc (.cells cs.toArray 33)).heap.size = W.heap.size + 1 := by simp
  have hpo : ∀ q, (Value.slice A k c).ownBlock = some q → w2.heap.size ≤ q := fun q hq => by
    rw [hk] at hq
    exact (h.row.own q hq).1
  have k9 : ∀ b, b < W.heap.size → (W.alloc (.cells cs.toArray 33)).heap[b]? = W.heap[b]? := fun b hb => Below.heap_alloc W _ b hb
  have k10 : ∀ b, b < W.heap.size → b < w2.heap.size → w10.heap[b]? = W.heap[b]? := fun b hb' hb2 => (hb.block b (by omega) (fun e => by have := hpo b e.symm; omega)).trans (k9 b hb')
  have hz10 := hb.size
  have hq10 : TBox w10 (w.heap.size + 1) (.bool false) (.int .i64 0) (.int .i64 0) (.string ⟨#[]⟩) (.slice none 0 0) (.slice none 0 0) (.slice A l.length c) := (k10 _ (by omega) (by omega)).trans h.q
  have hr10 : TBox w10 w.heap.size (.bool false) (.int .i64 0) (.int .i64 0) (.string ⟨#[]⟩) (.slice none 0 0) (.slice none 0 0) (.slice none 0 0) := (k10 _ (by omega) (by omega)).trans h.r
  have hrow10 : OpsRow w2 w10 (some ⟨p, 0, none⟩) c7 (l ++ [o]) := OpsRow.push (S2 := S) hk hb (hat.imp id fun h => ⟨_, Nat.le_refl _, h⟩) hown hl (hop.keep fun b hb' => k9 b (hS b hb').2) hS0 (fun b hb' => ⟨by have := (hS b hb').1; omega, by have := (hS b hb').2; omega, fun q hq e => by have := hom q hq; have := (hS b hb').1; omega⟩)
  have ho10 : Only w w10 g := ⟨hb.os.trans h.only.os, hb.tape.trans h.only.tape, hb.output.trans h.only.output, by have := h.only.size; omega, fun b hb' hne => (k10 b (by omega) (by omega)).trans (h.only.block b hb' hne)⟩
  have kk : ∀ b, b ≠ w.heap.size + 1 → (w10.setCell ⟨w.heap.size + 1, 6, none⟩ (.slice (some ⟨p, 0, none⟩) (k + 1) c7)).heap[b]? = w10.heap[b]? := fun b hb => heap_setCell_other _ ⟨w.heap.size + 1, 6, none⟩ b _ hb
  refine ⟨⟨?_, hr10.other _ _ _ (by omega), hrow10.far (fun b hb' => kk b (by omega)) (by simp), ?_, ho10.new (by omega), h1, by simp; omega⟩, hq10, hr10⟩
  · have := hq10.set6 (.slice (some ⟨p, 0, none⟩) (k + 1) c7)
    rw [List.length_append, List.length_singleton, ← hk]
    exact this
  · exact h.s.onlyB (fun b hb' => (kk b (by omega)).trans (k10 b (by omega) (by omega))) hB ⟨hb.os, hb.tape, hb.output⟩ (by simp; omega)
theorem rdByte_nn : rdByte none = (0, none) := rfl
theorem rdPath_nn : (rdPathO none).2 = none := by
  unfold rdPathO
  have h : rdCount 8 none = (0, none) := by unfold rdCount; split <;> rfl
  rw [h]; rfl
theorem readO_nn : (readO none).2 = none := rfl
theorem rdOpsK_none {s : Option (List UInt8)} {k : Nat} (h : (rdOpsK s k).2 = none) : ∀ m, k ≤ m → (rdOpsK s m).2 = none
  | 0, hm => by obtain rfl : k = 0 := by omega
                exact h
  | m + 1, hm => by
    by_cases hk : k = m + 1
    · rw [← hk]; exact h
    · have h1 := rdOpsK_none h m (by omega)
      show (rdOp (rdOpsK s m).2).2 = none
      rw [h1]
      unfold rdOp
      rw [rdByte_nn]
      simp only
      rw [if_neg (by omega), if_neg (by omega)]
      simp only
      rw [rdPath_nn]
      exact readO_nn
theorem eight_new2 (w : World) (q : Nat) (hq : q = w.heap.size) (cs : List Value) (t : TypeId) : ∀ j u, cs[j]? = some u → (w.alloc (.cells cs.toArray t)).cell? ((⟨q, 0, none⟩ : Addr).add j) = some u := by
  subst hq
  exact eight_new w cs t
theorem opl_one {w : World} {S : Nat → Prop} {o : OpT} {cs : List Value} (h : OpL w S o cs.toArray) : ∀ u ∈ cs, u.oneCell' = true := h.oneL
set_option maxHeartbeats 16000000 in
theorem rread7_any (g BB : Nat) (st : Option (List UInt8)) (w : World) (hs : RS w g BB st) (hB0 : BB ≤ g) : Calls Tryz.prog 21 #[.pointer (some ⟨g, 0, none⟩)] w (RReadU g BB st w) := by
  obtain ⟨i0, hi, hz0, hz1, hz2⟩ := info_parts Tryz.infoAOp
  have hgl := hs.lt
  have hB := Lib.hid hB0
  obtain ⟨w1, hw1⟩ : ∃ W, W = (w.alloc (.cells #[.bool false, .int .i64 0, .int .i64 0, .string ⟨#[]⟩, .slice none 0 0, .slice none 0 0, .slice none 0 0] 28)).alloc (.cells #[.bool false, .int .i64 0, .int .i64 0, .string ⟨#[]⟩, .slice none 0 0, .slice none 0 0, .slice none 0 0] 28) := ⟨_, rfl⟩
  have hr1 : TBox w1 w.heap.size (.bool false) (.int .i64 0) (.int .i64 0) (.string ⟨#[]⟩) (.slice none 0 0) (.slice none 0 0) (.slice none 0 0) := by rw [hw1]; exact (TBox.new w _ _ _ _ _ _ _).alloc _
  have hq1 : TBox w1 (w.heap.size + 1) (.bool false) (.int .i64 0) (.int .i64 0) (.string ⟨#[]⟩) (.slice none 0 0) (.slice none 0 0) (.slice none 0 0) := by
    have h := TBox.new (w.alloc (.cells #[.bool false, .int .i64 0, .int .i64 0, .string ⟨#[]⟩, .slice none 0 0, .slice none 0 0, .slice none 0 0] 28)) (.bool false) (.int .i64 0) (.int .i64 0) (.string ⟨#[]⟩) (.slice none 0 0) (.slice none 0 0) (.slice none 0 0)
    rw [← hw1, show (w.alloc (.cells #[.bool false, .int .i64 0, .int .i64 0, .string ⟨#[]⟩, .slice none 0 0, .slice none 0 0, .slice none 0 0] 28)).heap.size = w.heap.size + 1 by simp] at h
    exact h
  have ho1 : Only w w1 g := by rw [hw1]; exact ((Only.refl w g).al _).al _
  have hz1' : w1.heap.size = w.heap.size + 2 := by rw [hw1]; simp
  have hs1 : RS w1 g BB st := hs.onlyB (fun b hb => by rw [hw1]; exact (Below.heap_alloc _ _ b (by simp; omega)).trans (Below.heap_alloc w _ b (by omega))) hB0 (by rw [hw1]; exact ⟨rfl, rfl, rfl⟩) (by omega)
  have HC := Lib.hid (rsbyte_any g BB st w1 hs1 hB0)
  have HR1 := Lib.hid hr1
  have HQ1 := Lib.hid hq1
  have HO1 := Lib.hid ho1
  have HZ1 := Lib.hid hz1'
  have HW1 := Lib.hid hw1
  clear hs hB0 hr1 hq1 ho1 hz1' hs1 hw1
  go_enter Tryz.func21, Tryz.ntmps21
  go_wp2_with fail
  rw [← HW1.out]
  clear HW1
  refine HC.out.mono ?_
  rintro e w2 ⟨rfl, hs2, ho2⟩
  obtain ⟨n, hn⟩ : ∃ n, n = (rdByte st).1 := ⟨_, rfl⟩
  obtain ⟨s1, hs1'⟩ : ∃ s1, s1 = (rdByte st).2 := ⟨_, rfl⟩
  rw [← hs1'] at hs2
  rw [← hn]
  have HN := Lib.hid hn
  have HS1 := Lib.hid hs1'
  have HR2 := Lib.hid (HR1.out.only ho2 (by omega))
  have HQ2 := Lib.hid (HQ1.out.only ho2 (by omega))
  have HO2 := Lib.hid (HO1.out.trans ho2)
  have HS2 := Lib.hid hs2
  have hz2' : w.heap.size + 2 ≤ w2.heap.size := by have := ho2.size; have := HZ1.out; omega
  clear hn hs1' hs2 ho2 HC HR1 HQ1 HO1 HZ1
  by_cases h1 : n = 1
  · have d1 : ((n : Int) == 1) = true := beq_iff_eq.2 (by omega)
    have H1 := Lib.hid h1
    clear h1
    have hq2 := HQ2.out
    have q0 := hq2.g0
    have qf := fun i => hq2.free i
    obtain ⟨w3, hw3⟩ : ∃ W, W = w2.setCell ⟨w.heap.size + 1, 0, none⟩ (.bool true) := ⟨_, rfl⟩
    have HQ3 : Hid (TBox w3 (w.heap.size + 1) (.bool true) (.int .i64 0) (.int .i64 0) (.string ⟨#[]⟩) (.slice none 0 0) (.slice none 0 0) (.slice none 0 0)) := Lib.hid (by rw [hw3]; exact hq2.set0 _)
    have HR3 : Hid (TBox w3 w.heap.size (.bool false) (.int .i64 0) (.int .i64 0) (.string ⟨#[]⟩) (.slice none 0 0) (.slice none 0 0) (.slice none 0 0)) := Lib.hid (by rw [hw3]; exact HR2.out.other _ _ _ (by omega))
    have HO3 : Hid (Only w w3 g) := Lib.hid (by rw [hw3]; exact HO2.out.new (by omega))
    have HS3 : Hid (RS w3 g BB s1) := Lib.hid (by rw [hw3]; exact HS2.out.onlyB (fun b hb => heap_setCell_other _ ⟨w.heap.size + 1, 0, none⟩ b _ (by show b ≠ w.heap.size + 1; omega)) hB.out ⟨rfl, rfl, rfl⟩ (by simp))
    have hz3 : w3.heap.size = w2.heap.size := by rw [hw3]; simp
    have HV := Lib.hid (rread_any g BB s1 w3 HS3.out hB.out)
    have HW3 := Lib.hid hw3
    clear hq2 hw3 HQ2 HR2 HO2 HS2
    go_wp2_with fail
    rw [← HW3.out]
    clear HW3 q0 qf
    refine HV.out.mono ?_
    rintro e w4 ⟨v, rfl, hs4, ho4, hv4⟩
    obtain ⟨VA, vc, VA', vc', rfl, -⟩ := hv4.shape
    obtain ⟨t, ht⟩ : ∃ t, t = (readO s1).1 := ⟨_, rfl⟩
    rw [← ht] at hv4 ⊢
    have HT := Lib.hid ht
    have hq4 := HQ3.out.only ho4 (by omega)
    have hr4 := HR3.out.only ho4 (by omega)
    have ho4' := HO3.out.trans ho4
    have hz4 := ho4.size
    obtain ⟨w5, hw5⟩ : ∃ W, W = five w4 (w.heap.size + 1) 1 (.int .i64 t.kind) (.int .i64 t.num) (.string t.text) (.slice VA t.items.length vc) (.slice VA' t.names.length vc') := ⟨_, rfl⟩
    have k5 : ∀ b, b ≠ w.heap.size + 1 → w5.heap[b]? = w4.heap[b]? := fun b hb => by rw [hw5]; exact five_other _ _ _ _ _ _ _ _ b hb
    have z5 : w5.heap.size = w4.heap.size := by rw [hw5]; exact five_size _ _ _ _ _ _ _ _
    have r5 : w5.os = w4.os ∧ w5.tape = w4.tape ∧ w5.output = w4.output := by rw [hw5]; exact five_rest _ _ _ _ _ _ _ _
    have HQ5 : Hid (TBox w5 (w.heap.size + 1) (.bool true) (.int .i64 t.kind) (.int .i64 t.num) (.string t.text) (.slice VA t.items.length vc) (.slice VA' t.names.length vc') (.slice none 0 0)) := Lib.hid (by rw [hw5]; exact ((((hq4.set1 _).set2 _).set3 _).set4 _).set5 _)
    have HR5 : Hid (TBox w5 w.heap.size (.bool false) (.int .i64 0) (.int .i64 0) (.string ⟨#[]⟩) (.slice none 0 0) (.slice none 0 0) (.slice none 0 0)) := Lib.hid ((k5 _ (by omega)).trans hr4)
    have HO5 : Hid (Only w w5 g) := Lib.hid ⟨r5.1.trans ho4'.os, r5.2.1.trans ho4'.tape, r5.2.2.trans ho4'.output, by rw [z5]; exact ho4'.size, fun b hb hne => (k5 b (by omega)).trans (ho4'.block b hb hne)⟩
    have HS5 : Hid (RS w5 g BB (readO s1).2) := Lib.hid (hs4.onlyB (fun b hb => k5 b (by omega)) hB.out r5 (by omega))
    have HV5 : Hid (LV w5 (fun b => w.heap.size + 2 ≤ b ∧ b < w5.heap.size) t (.agg #[.int .i64 t.kind, .int .i64 t.num, .string t.text, .slice VA t.items.length vc, .slice VA' t.names.length vc'])) := Lib.hid ((hv4.keep fun b hb => k5 b (by have := hb.1; omega)).imp fun b hb => ⟨by have := hb.1; omega, by have := hb.2; omega⟩)
    have HU : Hid (rdU st = (⟨true, t, []⟩, (readO s1).2)) := Lib.hid (by
      unfold rdU
      rw [if_neg (by rw [← HN.out, H1.out]; decide), if_pos (by rw [← HN.out]; exact H1.out), ← HS1.out, ← HT.out])
    have HDT : Hid (depthT t ≤ 8) := Lib.hid (by rw [HT.out]; exact readO_depth s1)
    have HW5 := Lib.hid hw5
    have q0 := hq4.g0
    have q1 := hq4.g1
    have q2 := hq4.g2
    have q3 := hq4.g3
    have q4 := hq4.g4
    have q5 := hq4.g5
    have q6 := hq4.g6
    have qf := fun i => hq4.free i
    clear hs4 ho4 hv4 ht hq4 hr4 ho4' hw5 k5 r5 HV HQ3 HR3 HO3 HS3
    cases hst : (readO s1).2 with
    | none =>
      rw [hst] at HS5 HU
      have HUN := Lib.hid (rdS_none (st := st) (by rw [HU.out]))
      have HW5' := HW5.out
      subst HW5'
      have b1 := rs_c1 HS5.out
      have f1 := rs_f1 HS5.out
      have HR' : Hid (TBox ((five w4 (w.heap.size + 1) 1 (.int .i64 t.kind) (.int .i64 t.num) (.string t.text) (.slice VA t.items.length vc) (.slice VA' t.names.length vc')).setCell ⟨g, 1, none⟩ (.bool true)) w.heap.size (.bool false) (.int .i64 0) (.int .i64 0) (.string ⟨#[]⟩) (.slice none 0 0) (.slice none 0 0) (.slice none 0 0)) := Lib.hid (HR5.out.other g 1 (.bool true) (by omega))
      have HS' : Hid (RS ((five w4 (w.heap.size + 1) 1 (.int .i64 t.kind) (.int .i64 t.num) (.string t.text) (.slice VA t.items.length vc) (.slice VA' t.names.length vc')).setCell ⟨g, 1, none⟩ (.bool true)) g BB none) := Lib.hid (rs_spoil HS5.out)
      have HO' : Hid (Only w ((five w4 (w.heap.size + 1) 1 (.int .i64 t.kind) (.int .i64 t.num) (.string t.text) (.slice VA t.items.length vc) (.slice VA' t.names.length vc')).setCell ⟨g, 1, none⟩ (.bool true)) g) := Lib.hid (HO5.out.trans set_only)
      have y0 := HR'.out.g0
      have y1 := HR'.out.g1
      have y2 := HR'.out.g2
      have y3 := HR'.out.g3
      have y4 := HR'.out.g4
      have y5 := HR'.out.g5
      have y6 := HR'.out.g6
      have yf := fun i => HR'.out.free i
      simp only [five, Nat.reduceAdd] at b1 f1 yf y0 y1 y2 y3 y4 y5 y6
      go_wp2_with fail
      refine bodyPost_ret (results_cell_s rfl _ _ w.heap.size 28 _ (0, 0) rfl (seven_box HR'.out) (by kernel_rfl)) rfl ?_
      have e0 := HUN.out
      refine spec_endR (S := fun _ => False) (by rw [e0]; exact HS'.out) HO'.out hgl hB.out ?_ (fun b hb => hb.elim)
      rw [e0]
      exact none_spec _ _
    | some r0 =>
      rw [hst] at HS5 HU
      have HSP : Hid (SpecL w5 (fun b => w.heap.size + 2 ≤ b ∧ b < w5.heap.size) ⟨true, t, []⟩ #[.bool true, .int .i64 t.kind, .int .i64 t.num, .string t.text, .slice VA t.items.length vc, .slice VA' t.names.length vc', .slice none 0 0]) := Lib.hid ⟨VA, vc, VA', vc', none, 0, rfl, HV5.out, fun h => absurd h (by simp), by simp, by simp⟩
      have HSM : Hid (SmallR ⟨true, t, []⟩) := Lib.hid ⟨by have := HDT.out; show depthT t ≤ 1000; omega, fun o ho => by cases ho⟩
      have hsz := HO5.out.size
      have HSX : Hid (∀ b, (fun b => w.heap.size + 2 ≤ b ∧ b < w5.heap.size) b → b < w5.heap.size) := Lib.hid fun b hb => hb.2
      have HK := Lib.hid (rspcheck_any (fun b => w.heap.size + 2 ≤ b ∧ b < w5.heap.size) _ _ w5 HSX.out HSP.out HSM.out)
      have b1 := rs_c1 HS5.out
      have hg1 := HS5.out.lt
      have q0 := HQ5.out.g0
      have q1 := HQ5.out.g1
      have q2 := HQ5.out.g2
      have q3 := HQ5.out.g3
      have q4 := HQ5.out.g4
      have q5 := HQ5.out.g5
      have q6 := HQ5.out.g6
      rw [HW5.out] at b1 q0 q1 q2 q3 q4 q5 q6
      simp only [five, Nat.reduceAdd] at b1 q0 q1 q2 q3 q4 q5 q6
      have hwe := HW5.out
      simp only [five, Nat.reduceAdd] at hwe
      have HWE := Lib.hid hwe
      clear hwe
      go_wp2_with fail
      rw [← HWE.out]
      clear HWE HW5
      refine HK.out.mono ?_
      rintro e wz ⟨rfl, hbz⟩
      have HRz := Lib.hid (HR5.out.call hbz)
      have HQz := Lib.hid (HQ5.out.call hbz)
      have HSz : Hid (RS wz g BB (some r0)) := Lib.hid (HS5.out.onlyB (fun b hb => hbz.block b (by omega)) hB.out ⟨hbz.os, hbz.tape, hbz.output⟩ hbz.size)
      have HOz : Hid (Only w wz g) := Lib.hid (HO5.out.trans (Only.ofBelow hbz))
      have HSPz := Lib.hid (HSP.out.keep fun b hb => hbz.block b hb.2)
      have hzz := hbz.size
      obtain ⟨x, hx⟩ : ∃ x, x = checkS (rdU st).1 := ⟨_, rfl⟩
      have hxx : checkS (⟨true, t, []⟩ : SpecT) = x := by rw [hx, HU.out]
      rw [hxx]
      have HXE := Lib.hid hx
      clear hbz hx hxx HK b1 q0 q1 q2 q3 q4 q5 q6
      by_cases hx0 : x = 0
      · subst hx0
        have y0 := HRz.out.g0
        have y1 := HRz.out.g1
        have y2 := HRz.out.g2
        have y3 := HRz.out.g3
        have y4 := HRz.out.g4
        have y5 := HRz.out.g5
        have y6 := HRz.out.g6
        have yf := fun i => HRz.out.free i
        have q0 := HQz.out.g0
        have q1 := HQz.out.g1
        have q2 := HQz.out.g2
        have q3 := HQz.out.g3
        have q4 := HQz.out.g4
        have q5 := HQz.out.g5
        have q6 := HQz.out.g6
        go_wp2_with fail
        refine bodyPost_ret (results_cell_s rfl _ _ w.heap.size 28 _ (0, 0) rfl (seven_box HRz.out) (by kernel_rfl)) rfl ?_
        have e0 : rdS st = ((⟨true, t, []⟩ : SpecT), some r0) := by
          rw [rdS_some (l := r0) (by rw [HU.out]), if_pos HXE.out.symm, HU.out]
        refine spec_endR (S := fun b => w.heap.size + 2 ≤ b ∧ b < w5.heap.size) (by rw [e0]; exact HSz.out) HOz.out hgl hB.out ?_ (fun b hb => ⟨by have := hb.1; omega, by have := hb.2; omega⟩)
        rw [e0]
        exact HSPz.out
      · have hne : (x != 0) = true := bne_iff_ne.2 hx0
        have b1 := rs_c1 HSz.out
        have f1 := rs_f1 HSz.out
        have HR' : Hid (TBox (wz.setCell ⟨g, 1, none⟩ (.bool true)) w.heap.size (.bool false) (.int .i64 0) (.int .i64 0) (.string ⟨#[]⟩) (.slice none 0 0) (.slice none 0 0) (.slice none 0 0)) := Lib.hid (HRz.out.other g 1 (.bool true) (by omega))
        have HS' : Hid (RS (wz.setCell ⟨g, 1, none⟩ (.bool true)) g BB none) := Lib.hid (rs_spoil HSz.out)
        have HO' : Hid (Only w (wz.setCell ⟨g, 1, none⟩ (.bool true)) g) := Lib.hid (HOz.out.trans set_only)
        have y0 := HR'.out.g0
        have y1 := HR'.out.g1
        have y2 := HR'.out.g2
        have y3 := HR'.out.g3
        have y4 := HR'.out.g4
        have y5 := HR'.out.g5
        have y6 := HR'.out.g6
        have yf := fun i => HR'.out.free i
        go_wp2_with fail
        refine bodyPost_ret (results_cell_s rfl _ _ w.heap.size 28 _ (0, 0) rfl (seven_box HR'.out) (by kernel_rfl)) rfl ?_
        have e0 : rdS st = (⟨false, noneV, []⟩, none) := by
          rw [rdS_some (l := r0) (by rw [HU.out]), if_neg (fun h => hx0 (HXE.out.trans h))]
        refine spec_endR (S := fun _ => False) (by rw [e0]; exact HS'.out) HO'.out hgl hB.out ?_ (fun b hb => hb.elim)
        rw [e0]
        exact none_spec _ _
  have d1 : ((n : Int) == 1) = false := beq_eq_false_iff_ne.2 (by omega)
  by_cases h0 : n = 0
  rotate_left
  · have d0 : ((n : Int) == 0) = false := beq_eq_false_iff_ne.2 (by omega)
    have H01 := Lib.hid (And.intro h0 h1)
    clear h0 h1
    have g1c := rs_c1 HS2.out
    have g1f := rs_f1 HS2.out
    have HR3 : Hid (TBox (w2.setCell ⟨g, 1, none⟩ (.bool true)) w.heap.size (.bool false) (.int .i64 0) (.int .i64 0) (.string ⟨#[]⟩) (.slice none 0 0) (.slice none 0 0) (.slice none 0 0)) := Lib.hid (HR2.out.other g 1 (.bool true) (by omega))
    have HS3 : Hid (RS (w2.setCell ⟨g, 1, none⟩ (.bool true)) g BB none) := Lib.hid (rs_spoil HS2.out)
    have HO3 : Hid (Only w (w2.setCell ⟨g, 1, none⟩ (.bool true)) g) := Lib.hid (HO2.out.trans set_only)
    have HUN : Hid (rdS st = (⟨false, noneV, []⟩, none)) := Lib.hid (by
      have hU : rdU st = (⟨false, noneV, []⟩, s1) := by
        unfold rdU
        rw [if_neg (by rw [← HN.out]; exact H01.out.1), if_neg (by rw [← HN.out]; exact H01.out.2), ← HS1.out]
      cases s1 with
      | none => exact rdS_none (by rw [hU])
      | some l => rw [rdS_some (l := l) (by rw [hU]), hU]; simp only; rw [if_neg (by decide +kernel)])
    have b1 := rs_c1 HS3.out
    have f1 := rs_f1 HS3.out
    have HR' : Hid (TBox ((w2.setCell ⟨g, 1, none⟩ (.bool true)).setCell ⟨g, 1, none⟩ (.bool true)) w.heap.size (.bool false) (.int .i64 0) (.int .i64 0) (.string ⟨#[]⟩) (.slice none 0 0) (.slice none 0 0) (.slice none 0 0)) := Lib.hid (HR3.out.other g 1 (.bool true) (by omega))
    have HS' : Hid (RS ((w2.setCell ⟨g, 1, none⟩ (.bool true)).setCell ⟨g, 1, none⟩ (.bool true)) g BB none) := Lib.hid (rs_spoil HS3.out)
    have HO' : Hid (Only w ((w2.setCell ⟨g, 1, none⟩ (.bool true)).setCell ⟨g, 1, none⟩ (.bool true)) g) := Lib.hid (HO3.out.trans set_only)
    have y0 := HR'.out.g0
    have y1 := HR'.out.g1
    have y2 := HR'.out.g2
    have y3 := HR'.out.g3
    have y4 := HR'.out.g4
    have y5 := HR'.out.g5
    have y6 := HR'.out.g6
    have yf := fun i => HR'.out.free i
    go_wp2_with fail
    refine bodyPost_ret (results_cell_s rfl _ _ w.heap.size 28 _ (0, 0) rfl (seven_box HR'.out) (by kernel_rfl)) rfl ?_
    have e0 := HUN.out
    refine spec_endR (S := fun _ => False) (by rw [e0]; exact HS'.out) HO'.out hgl hB.out ?_ (fun b hb => hb.elim)
    rw [e0]
    exact none_spec _ _
  have d0 : ((n : Int) == 0) = true := beq_iff_eq.2 (by omega)
  have H0 := Lib.hid h0
  clear h1 h0
  have HCC := Lib.hid (rscount_any g BB 16 s1 w2 HS2.out hB.out (by omega))
  have h16 : (rdCount 16 s1).1 ≤ 16 := rdCount_le 16 s1 (by omega)
  obtain ⟨N, hN⟩ : ∃ N, N = (rdCount 16 s1).1 := ⟨_, rfl⟩
  have HNN := Lib.hid hN
  rw [← hN] at HCC h16
  clear hN
  go_wp2_with fail
  refine HCC.out.mono ?_
  rintro e w3 ⟨rfl, hs3, ho3⟩
  obtain ⟨s2, hs2'⟩ : ∃ s2, s2 = (rdCount 16 s1).2 := ⟨_, rfl⟩
  rw [← hs2'] at hs3
  have HS2' := Lib.hid hs2'
  have hz3 : w.heap.size + 2 ≤ w3.heap.size := by have := ho3.size; omega
  have HLI0 : Hid (LI w w3 w3 g BB (rdOpsK s2 0).2 none 0 []) := Lib.hid ⟨HQ2.out.only ho3 (by omega), HR2.out.only ho3 (by omega), OpsRow.nil _ _, hs3, HO2.out.trans ho3, hz3, Nat.le_refl _⟩
  clear hs3 ho3 hs2' HCC HR2 HQ2 HO2 HS2
  go_wp2_with fail
  go_loopw [5] (fun i wr => ∃ (k : Nat) (A : Option Addr) (c : Nat) (l : List OpT), i = .int .i64 k ∧ k ≤ N ∧ k = l.length ∧ Hid (LI w w3 wr g BB (rdOpsK s2 k).2 A c l) ∧ Hid (∀ r, (rdOpsK s2 k).2 = some r → l = (rdOpsK s2 k).1)) (fun i _ => N - (intOf i).toNat)
  case atStart => exact ⟨0, none, 0, [], rfl, by omega, rfl, HLI0, Lib.hid (fun r _ => rfl)⟩
  case round =>
    clear HLI0
    obtain ⟨k, A, c, l, rfl, hk, hkl, HLI, HEQ⟩ := hrel
    have HKL := Lib.hid hkl
    clear hkl
    have b1 := rs_c1 HLI.out.s
    obtain ⟨sb, hsb⟩ : ∃ b, b = (rdOpsK s2 k).2.isNone := ⟨_, rfl⟩
    rw [← hsb] at b1
    have HSB := Lib.hid hsb
    clear hsb
    have HUK : Hid (rdU st = (⟨false, noneV, (rdOpsK s2 N).1⟩, (rdOpsK s2 N).2)) := Lib.hid (by
      unfold rdU
      rw [if_pos (by rw [← HN.out]; exact H0.out), ← HS1.out]
      unfold rdOpsO
      rw [← HNN.out, ← HS2'.out])
    by_cases hlt : k < N
    · cases sb with
      | true =>
        have hnone : (rdOpsK s2 k).2 = none := by simpa using HSB.out.symm
        have HUN : Hid (rdS st = (⟨false, noneV, []⟩, none)) := Lib.hid (rdS_none (by rw [HUK.out]; exact rdOpsK_none hnone N hk))
        have HS3 : Hid (RS wr g BB none) := Lib.hid (by have h := HLI.out.s; rw [hnone] at h; exact h)
        have HR3 := Lib.hid HLI.out.r
        have HO3 := Lib.hid HLI.out.only
        have b1s := b1
        clear hnone b1s b1
        have b1 := rs_c1 HS3.out
        have f1 := rs_f1 HS3.out
        have HR' : Hid (TBox (wr.setCell ⟨g, 1, none⟩ (.bool true)) w.heap.size (.bool false) (.int .i64 0) (.int .i64 0) (.string ⟨#[]⟩) (.slice none 0 0) (.slice none 0 0) (.slice none 0 0)) := Lib.hid (HR3.out.other g 1 (.bool true) (by omega))
        have HS' : Hid (RS (wr.setCell ⟨g, 1, none⟩ (.bool true)) g BB none) := Lib.hid (rs_spoil HS3.out)
        have HO' : Hid (Only w (wr.setCell ⟨g, 1, none⟩ (.bool true)) g) := Lib.hid (HO3.out.trans set_only)
        have y0 := HR'.out.g0
        have y1 := HR'.out.g1
        have y2 := HR'.out.g2
        have y3 := HR'.out.g3
        have y4 := HR'.out.g4
        have y5 := HR'.out.g5
        have y6 := HR'.out.g6
        have yf := fun i => HR'.out.free i
        go_wp2_with fail
        refine bodyPost_ret (results_cell_s rfl _ _ w.heap.size 28 _ (0, 0) rfl (seven_box HR'.out) (by kernel_rfl)) rfl ?_
        have e0 := HUN.out
        refine spec_endR (S := fun _ => False) (by rw [e0]; exact HS'.out) HO'.out hgl hB.out ?_ (fun b hb => hb.elim)
        rw [e0]
        exact none_spec _ _
      | false =>
        have b1s := b1
        obtain ⟨sk, hsk⟩ : ∃ s, s = (rdOpsK s2 k).2 := ⟨_, rfl⟩
        have HSTP : Hid (rdOpsK s2 (k + 1) = ((rdOpsK s2 k).1 ++ [(rdOp sk).1], (rdOp sk).2)) := Lib.hid (by rw [hsk]; rfl)
        have hgood : ∃ r, sk = some r := by
          cases h : sk with
          | none => rw [← hsk, h] at HSB; exact absurd HSB.out (by decide)
          | some r => exact ⟨r, rfl⟩
        rw [← hsk] at HLI HEQ
        have HKG := Lib.hid hgood
        have HSK := Lib.hid hsk
        have HBY := Lib.hid (rsbyte_any g BB sk wr HLI.out.s hB.out)
        clear hsk hgood b1s
        go_wp2_with fail
        refine HBY.out.mono ?_
        rintro e w5 ⟨rfl, hs5, ho5⟩
        have hm256 : (rdByte sk).1 < 256 := rdByte_lt sk
        obtain ⟨m, hm⟩ : ∃ m, m = (rdByte sk).1 := ⟨_, rfl⟩
        obtain ⟨t1, ht1⟩ : ∃ s, s = (rdByte sk).2 := ⟨_, rfl⟩
        rw [← hm] at hm256 ⊢
        rw [← ht1] at hs5
        have hz5 := ho5.size
        have hm3 : w3.heap.size ≤ wr.heap.size := HLI.out.zW
        have HOM : Hid (∀ q, (Value.slice A k c).ownBlock = some q → q < wr.heap.size) := Lib.hid fun q hq => by rw [HKL.out] at hq; exact (HLI.out.row.own q hq).2
        obtain ⟨w6, hw6⟩ : ∃ W, W = w5.alloc (.cells #[.int .i64 (m : Int), .slice none 0 0, .int .i64 0, .int .i64 0, .string ⟨#[]⟩, .slice none 0 0, .slice none 0 0, .slice none 0 0] 33) := ⟨_, rfl⟩
        have hob6 : OBox w6 w5.heap.size (.int .i64 (m : Int)) (.slice none 0 0) (.int .i64 0) (.int .i64 0) (.string ⟨#[]⟩) (.slice none 0 0) (.slice none 0 0) (.slice none 0 0) := by rw [hw6]; exact OBox.new w5 _ _ _ _ _ _ _ _
        have hz6 : w6.heap.size = w5.heap.size + 1 := by rw [hw6]; simp
        have ho6 : Only wr w6 g := by rw [hw6]; exact ho5.al _
        have hs6 : RS w6 g BB t1 := hs5.onlyB (fun b hb => by rw [hw6]; exact Below.heap_alloc w5 _ b (by omega)) hB.out (by rw [hw6]; exact ⟨rfl, rfl, rfl⟩) (by omega)
        have HPT := Lib.hid (rpath7_any g BB t1 w6 hs6 hB.out)
        have HOB6 := Lib.hid hob6
        have HO6 := Lib.hid ho6
        have HW6 := Lib.hid hw6
        have HM := Lib.hid (And.intro hm ht1)
        clear hs5 ho5 hob6 ho6 hs6 hw6 hm ht1 HBY
        go_wp2_with fail
        rw [← HW6.out]
        clear HW6
        refine HPT.out.mono ?_
        rintro e w7 ⟨PA, pc, P, rfl, hrow7, hs7, ho7, hpe, ks, kk, hk8, hpk⟩
        obtain ⟨hc7, hst7⟩ := strs_own hrow7 (by rw [hpk]; exact rdK_size _ _)
        have hp8 : P.length ≤ 8 := by rw [hpk, rdK_len]; exact hk8
        obtain ⟨t2, ht2⟩ : ∃ s, s = (rdPathO t1).2 := ⟨_, rfl⟩
        rw [← ht2] at hs7 hpe
        have hz7 := ho7.size
        have hob7 := HOB6.out.only ho7 (by omega)
        have ho7' : Only wr w7 g := HO6.out.trans ho7
        obtain ⟨w8, hw8⟩ : ∃ W, W = w7.setCell ⟨w5.heap.size, 1, none⟩ (.slice PA P.length pc) := ⟨_, rfl⟩
        have hz8 : w8.heap.size = w7.heap.size := by rw [hw8]; simp
        have k8 : ∀ b, b ≠ w5.heap.size → w8.heap[b]? = w7.heap[b]? := fun b hb => by rw [hw8]; exact heap_setCell_other _ ⟨w5.heap.size, 1, none⟩ b _ hb
        have hob8 : OBox w8 w5.heap.size (.int .i64 (m : Int)) (.slice PA P.length pc) (.int .i64 0) (.int .i64 0) (.string ⟨#[]⟩) (.slice none 0 0) (.slice none 0 0) (.slice none 0 0) := by rw [hw8]; exact hob7.set1 _
        have ho8 : Only wr w8 g := by rw [hw8]; exact ho7'.new hz5
        have hs8 : RS w8 g BB t2 := hs7.onlyB (fun b hb => k8 b (by omega)) hB.out (by rw [hw8]; exact ⟨rfl, rfl, rfl⟩) (by omega)
        have hst8 : StrsAt w8 (fun b => wr.heap.size ≤ b ∧ b < w8.heap.size ∧ b ≠ w5.heap.size) PA P := (hst7.keep fun b hb => k8 b (by have := hb.1; omega)).imp fun b hb => ⟨by have := hb.1; omega, by have := hb.2; omega, by have := hb.1; omega⟩
        have HLI8 := Lib.hid (HLI.out.step hgl hs8 ho8)
        have HOB8 := Lib.hid hob8
        have HST8 := Lib.hid hst8
        have HP7 := Lib.hid (And.intro hc7 (And.intro hp8 (And.intro ht2 hpe)))
        have HS8 := Lib.hid hs8
        have HO8 := Lib.hid ho8
        have HZ8 := Lib.hid (show w5.heap.size + 1 ≤ w8.heap.size by omega)
        have q0 := hob7.g0
        have q1 := hob7.g1
        have q2 := hob7.g2
        have q3 := hob7.g3
        have q4 := hob7.g4
        have q5 := hob7.g5
        have q6 := hob7.g6
        have q7 := hob7.g7
        have qf := fun i => hob7.free i
        clear hrow7 hs7 ho7 hpe hpk hc7 hst7 ht2 hob7 ho7' hob8 ho8 hs8 hst8 k8 HPT HOB6 HO6 hz6 hz7 hz8
        by_cases h2 : m = 2
        · have d2 : ((m : Int) == 2) = true := beq_iff_eq.2 (by omega)
          have HSN : Hid (∀ b, (fun b => wr.heap.size ≤ b ∧ b < w8.heap.size ∧ b ≠ w5.heap.size) b → wr.heap.size ≤ b ∧ b < w8.heap.size) := Lib.hid fun b hb => ⟨hb.1, hb.2.1⟩
          have HOP : Hid (OpL w8 (fun b => wr.heap.size ≤ b ∧ b < w8.heap.size ∧ b ≠ w5.heap.size) ⟨(m : Int), P, noneV, []⟩ #[.int .i64 (m : Int), .slice PA P.length pc, .int .i64 0, .int .i64 0, .string ⟨#[]⟩, .slice none 0 0, .slice none 0 0, .slice none 0 0]) := Lib.hid ⟨PA, pc, _, _, _, _, _, none, 0, rfl, leaf_lv _ _ _ _ _ (by unfold Rng; omega) (by unfold Rng; omega) (by decide), HST8.out, strs_nil _ _ _, HP7.out.1, Nat.le_refl _, rng_k (k := (m : Int)) (by omega) (by omega), by show P.length ≤ _; have := HP7.out.2.1; omega, by simp⟩
          have HST : Hid ((rdOpsK s2 (k + 1)).2 = t2) := Lib.hid (by
            rw [HSTP.out]
            show (rdOp sk).2 = t2
            unfold rdOp
            rw [if_pos (by rw [← HM.out.1]; exact h2), ← HM.out.2, ← HP7.out.2.2.1])
          have HST2 : Hid ((rdOpsK s2 (k + 1)).1 = (rdOpsK s2 k).1 ++ [(rdOp sk).1]) := Lib.hid (by rw [HSTP.out])
          have HEQ2 : Hid (∀ r, t2 = some r → l ++ [(⟨(m : Int), P, noneV, []⟩ : OpT)] = (rdOpsK s2 k).1 ++ [(rdOp sk).1]) := Lib.hid fun r hr => by
            obtain ⟨r0, hr0⟩ := HKG.out
            rw [HEQ.out r0 hr0]
            unfold rdOp
            rw [if_pos (by rw [← HM.out.1]; exact h2), ← HM.out.2, ← HP7.out.2.2.2 r hr, h2]
            rfl
          have hw8' := hw8
          subst hw8'
          clear h2
          have h1c := opl_one (cs := [.int .i64 (m : Int), .slice PA P.length pc, .int .i64 0, .int .i64 0, .string ⟨#[]⟩, .slice none 0 0, .slice none 0 0, .slice none 0 0]) HOP.out
          obtain ⟨xs, S0, r1, r2, r3⟩ := HLI8.out.row.alloc (.cells (List.toArray [.int .i64 (m : Int), .slice PA P.length pc, .int .i64 0, .int .i64 0, .string ⟨#[]⟩, .slice none 0 0, .slice none 0 0, .slice none 0 0]) 33)
          rw [← HKL.out] at r1 r3
          have HX := Lib.hid (fun (w10 : World) (v : Value) (p c7 : Nat) (e7 : v = .slice (some ⟨p, 0, none⟩) (k + 1) c7) => LI.push (w10 := w10) (v := v) (p := p) (c7 := c7) HLI8.out hgl hB.out HKL.out HOP.out HSN.out hm3 HOM.out r2 r3 e7)
          have HR1 := Lib.hid r1
          have H1C := Lib.hid h1c
          have y6 := HLI8.out.q.g6
          rw [← HKL.out] at y6
          have z0 := HOB8.out.g0
          have z1 := HOB8.out.g1
          have z2 := HOB8.out.g2
          have z3 := HOB8.out.g3
          have z4 := HOB8.out.g4
          have z5 := HOB8.out.g5
          have z6 := HOB8.out.g6
          have z7 := HOB8.out.g7
          have hzW : w3.heap.size ≤ (w7.setCell ⟨w5.heap.size, 1, none⟩ (.slice PA P.length pc)).heap.size := HLI8.out.zW
          have HZW := Lib.hid hzW
          clear h1c r1 r2 r3 hzW HO8 HS8
          go_wp2_with (at_builtin; go_must (refine wpList_append_own_at _ rfl _ _ 26 rfl w3.heap.size 33 i0 _ 8 136 Tryz.underlying26 hi hz0 hz1 hz2 rfl (by decide) _ k _ rfl HR1.out ⟨w7.heap.size, 0, none⟩ 1 1 _ rfl rfl (eight_new2 (w7.setCell ⟨w5.heap.size, 1, none⟩ (.slice PA P.length pc)) w7.heap.size (by simp) _ _) H1C.out (by unfold maxLen; omega) (by omega) (by have := HZW.out; simp at this ⊢; omega) ?_); intro v7 w10 hown7 hg7 hnil7 hat7; obtain ⟨pp, c7, rfl⟩ := row_pos hown7 (by omega); have HX7 := Lib.hid (HX.out w10 _ pp c7 rfl hown7 hg7 hat7); have x6 := HX7.out.2.1.g6; have xf := fun i => HX7.out.2.1.free i; rw [← HKL.out] at x6; clear hown7 hg7 hnil7 hat7 y6 z0 z1 z2 z3 z4 z5 z6 z7)
          try go_wp2_with fail
          go_roundw
          case rel => exact ⟨k + 1, some ⟨pp, 0, none⟩, c7, l ++ [(⟨(m : Int), P, noneV, []⟩ : OpT)], by go_num, by omega, by rw [List.length_append, List.length_singleton, ← HKL.out], Lib.hid (by rw [HST.out]; exact HX7.out.1), Lib.hid (fun r hr => by rw [HST.out] at hr; rw [HST2.out]; exact HEQ2.out r hr)⟩
          case measure => simp [intOf]; omega
        · have d2 : ((m : Int) == 2) = false := beq_eq_false_iff_ne.2 (by omega)
          have HW8 := Lib.hid hw8
          clear hw8
          have hp5 : w5.heap.size ≠ g := by omega
          by_cases h6 : m = 6
          · have d6 : ((m : Int) == 6) = true := beq_iff_eq.2 (by omega)
            have HP9 := Lib.hid (rpath7_any g BB t2 w8 HS8.out hB.out)
            have HH := Lib.hid (And.intro h2 h6)
            clear h2 h6
            go_wp2_with fail
            rw [← HW8.out]
            clear HW8 q0 q1 q2 q3 q4 q5 q6 q7 qf
            refine HP9.out.mono ?_
            rintro e w9 ⟨TA, tc, T, rfl, hrow9, hs9, ho9, hpe9, ks9, kk9, hk9, hpk9⟩
            obtain ⟨hc9, hst9⟩ := strs_own hrow9 (by rw [hpk9]; exact rdK_size _ _)
            have hT8 : T.length ≤ 8 := by rw [hpk9, rdK_len]; exact hk9
            obtain ⟨t3, ht3⟩ : ∃ s, s = (rdPathO t2).2 := ⟨_, rfl⟩
            rw [← ht3] at hs9 hpe9
            have hz9 := ho9.size
            have hz8 := HZ8.out
            have hob9 := HOB8.out.only ho9 hp5
            obtain ⟨wt, hwt⟩ : ∃ W, W = w9.setCell ⟨w5.heap.size, 7, none⟩ (.slice TA T.length tc) := ⟨_, rfl⟩
            have hzt : wt.heap.size = w9.heap.size := by rw [hwt]; simp
            have kt : ∀ b, b ≠ w5.heap.size → wt.heap[b]? = w9.heap[b]? := fun b hb => by rw [hwt]; exact heap_setCell_other _ ⟨w5.heap.size, 7, none⟩ b _ hb
            have hobt : OBox wt w5.heap.size (.int .i64 (m : Int)) (.slice PA P.length pc) (.int .i64 0) (.int .i64 0) (.string ⟨#[]⟩) (.slice none 0 0) (.slice none 0 0) (.slice TA T.length tc) := by rw [hwt]; exact hob9.set7 _
            have hot : Only wr wt g := by rw [hwt]; exact (HO8.out.trans ho9).new hz5
            have hst : RS wt g BB t3 := hs9.onlyB (fun b hb => kt b (by omega)) hB.out (by rw [hwt]; exact ⟨rfl, rfl, rfl⟩) (by omega)
            have HLIt := Lib.hid (HLI.out.step hgl hst hot)
            have HOBt := Lib.hid hobt
            have HSN : Hid (∀ b, (fun b => wr.heap.size ≤ b ∧ b < wt.heap.size ∧ b ≠ w5.heap.size) b → wr.heap.size ≤ b ∧ b < wt.heap.size) := Lib.hid fun b hb => ⟨hb.1, hb.2.1⟩
            have hsp : StrsAt wt (fun b => wr.heap.size ≤ b ∧ b < wt.heap.size ∧ b ≠ w5.heap.size) PA P := (HST8.out.keep fun b hb => (kt b hb.2.2).trans (ho9.block b hb.2.1 (by rintro ⟨⟩; have := hb.1; omega))).imp fun b hb => ⟨hb.1, by have := hb.2.1; omega, hb.2.2⟩
            have hstt : StrsAt wt (fun b => wr.heap.size ≤ b ∧ b < wt.heap.size ∧ b ≠ w5.heap.size) TA T := (hst9.keep fun b hb => kt b (by have := hb.1; omega)).imp fun b hb => ⟨by have := hb.1; omega, by have := hb.2; omega, by have := hb.1; omega⟩
            have HOP : Hid (OpL wt (fun b => wr.heap.size ≤ b ∧ b < wt.heap.size ∧ b ≠ w5.heap.size) ⟨(m : Int), P, noneV, T⟩ #[.int .i64 (m : Int), .slice PA P.length pc, .int .i64 0, .int .i64 0, .string ⟨#[]⟩, .slice none 0 0, .slice none 0 0, .slice TA T.length tc]) := Lib.hid ⟨PA, pc, _, _, _, _, _, TA, tc, rfl, leaf_lv _ _ _ _ _ (by unfold Rng; omega) (by unfold Rng; omega) (by decide), hsp, hstt, HP7.out.1, hc9, rng_k (k := (m : Int)) (by omega) (by omega), by show P.length ≤ _; have := HP7.out.2.1; omega, by show T.length ≤ _; omega⟩
            have HST : Hid ((rdOpsK s2 (k + 1)).2 = t3) := Lib.hid (by
              rw [HSTP.out]
              show (rdOp sk).2 = t3
              unfold rdOp
              rw [if_neg (by rw [← HM.out.1]; exact HH.out.1), if_pos (by rw [← HM.out.1]; exact HH.out.2), ← HM.out.2, ← HP7.out.2.2.1, ← ht3])
            have HST2 : Hid ((rdOpsK s2 (k + 1)).1 = (rdOpsK s2 k).1 ++ [(rdOp sk).1]) := Lib.hid (by rw [HSTP.out])
            have HEQ2 : Hid (∀ r, t3 = some r → l ++ [(⟨(m : Int), P, noneV, T⟩ : OpT)] = (rdOpsK s2 k).1 ++ [(rdOp sk).1]) := Lib.hid fun r hr => by
              obtain ⟨r0, hr0⟩ := HKG.out
              have ht2s : ∃ r2, t2 = some r2 := by
                cases h : t2 with
                | none => rw [h, rdPath_nn] at ht3; rw [ht3] at hr; cases hr
                | some r2 => exact ⟨r2, rfl⟩
              obtain ⟨r2, hr2⟩ := ht2s
              rw [HEQ.out r0 hr0]
              unfold rdOp
              rw [if_neg (by rw [← HM.out.1]; exact HH.out.1), if_pos (by rw [← HM.out.1]; exact HH.out.2), ← HM.out.2, ← HP7.out.2.2.1, ← HP7.out.2.2.2 r2 hr2, ← hpe9 r hr, HH.out.2]
              rfl
            have q0 := hob9.g0
            have q1 := hob9.g1
            have q2 := hob9.g2
            have q3 := hob9.g3
            have q4 := hob9.g4
            have q5 := hob9.g5
            have q6 := hob9.g6
            have q7 := hob9.g7
            have qf := fun i => hob9.free i
            clear hrow9 hs9 ho9 hpe9 hpk9 hc9 hst9 ht3 hob9 hobt hot hst kt hsp hstt HP9 hzt hz9
            subst hwt
            have h1c := opl_one (cs := [.int .i64 (m : Int), .slice PA P.length pc, .int .i64 0, .int .i64 0, .string ⟨#[]⟩, .slice none 0 0, .slice none 0 0, .slice TA T.length tc]) HOP.out
            obtain ⟨xs, S0, r1, r2, r3⟩ := HLIt.out.row.alloc (.cells (List.toArray [.int .i64 (m : Int), .slice PA P.length pc, .int .i64 0, .int .i64 0, .string ⟨#[]⟩, .slice none 0 0, .slice none 0 0, .slice TA T.length tc]) 33)
            rw [← HKL.out] at r1 r3
            have HX := Lib.hid (fun (w10 : World) (v : Value) (p c7 : Nat) (e7 : v = .slice (some ⟨p, 0, none⟩) (k + 1) c7) => LI.push (w10 := w10) (v := v) (p := p) (c7 := c7) HLIt.out hgl hB.out HKL.out HOP.out HSN.out hm3 HOM.out r2 r3 e7)
            have HR1 := Lib.hid r1
            have H1C := Lib.hid h1c
            have y6 := HLIt.out.q.g6
            rw [← HKL.out] at y6
            have z0 := HOBt.out.g0
            have z1 := HOBt.out.g1
            have z2 := HOBt.out.g2
            have z3 := HOBt.out.g3
            have z4 := HOBt.out.g4
            have z5 := HOBt.out.g5
            have z6 := HOBt.out.g6
            have z7 := HOBt.out.g7
            have hzW : w3.heap.size ≤ (w9.setCell ⟨w5.heap.size, 7, none⟩ (.slice TA T.length tc)).heap.size := HLIt.out.zW
            have HZW := Lib.hid hzW
            clear h1c r1 r2 r3 hzW HO8 HS8 HLI8 HOB8
            go_wp2_with (at_builtin; go_must (refine wpList_append_own_at _ rfl _ _ 26 rfl w3.heap.size 33 i0 _ 8 136 Tryz.underlying26 hi hz0 hz1 hz2 rfl (by decide) _ k _ rfl HR1.out ⟨w9.heap.size, 0, none⟩ 1 1 _ rfl rfl (eight_new2 (w9.setCell ⟨w5.heap.size, 7, none⟩ (.slice TA T.length tc)) w9.heap.size (by simp) _ _) H1C.out (by unfold maxLen; omega) (by omega) (by have := HZW.out; simp at this ⊢; omega) ?_); intro v7 w10 hown7 hg7 hnil7 hat7; obtain ⟨pp, c7, rfl⟩ := row_pos hown7 (by omega); have HX7 := Lib.hid (HX.out w10 _ pp c7 rfl hown7 hg7 hat7); have x6 := HX7.out.2.1.g6; have xf := fun i => HX7.out.2.1.free i; rw [← HKL.out] at x6; clear hown7 hg7 hnil7 hat7 y6 z0 z1 z2 z3 z4 z5 z6 z7)
            try go_wp2_with fail
            go_roundw
            case rel => exact ⟨k + 1, some ⟨pp, 0, none⟩, c7, l ++ [(⟨(m : Int), P, noneV, T⟩ : OpT)], by go_num, by omega, by rw [List.length_append, List.length_singleton, ← HKL.out], Lib.hid (by rw [HST.out]; exact HX7.out.1), Lib.hid (fun r hr => by rw [HST.out] at hr; rw [HST2.out]; exact HEQ2.out r hr)⟩
            case measure => simp [intOf]; omega
          · have d6 : ((m : Int) == 6) = false := beq_eq_false_iff_ne.2 (by omega)
            have HP9 := Lib.hid (rread_any g BB t2 w8 HS8.out hB.out)
            have HH := Lib.hid (And.intro h2 h6)
            clear h2 h6
            go_wp2_with fail
            rw [← HW8.out]
            clear HW8 q0 q1 q2 q3 q4 q5 q6 q7 qf
            refine HP9.out.mono ?_
            rintro e w9 ⟨v, rfl, hs9, ho9, hv9⟩
            obtain ⟨VA, vc, VA', vc', rfl, -⟩ := hv9.shape
            obtain ⟨t, ht⟩ : ∃ t, t = (readO t2).1 := ⟨_, rfl⟩
            obtain ⟨t3, ht3⟩ : ∃ s, s = (readO t2).2 := ⟨_, rfl⟩
            rw [← ht] at hv9 ⊢
            rw [← ht3] at hs9
            have hz9 := ho9.size
            have hz8 := HZ8.out
            have hob9 := HOB8.out.only ho9 hp5
            obtain ⟨wt, hwt⟩ : ∃ W, W = five w9 w5.heap.size 2 (.int .i64 t.kind) (.int .i64 t.num) (.string t.text) (.slice VA t.items.length vc) (.slice VA' t.names.length vc') := ⟨_, rfl⟩
            have hzt : wt.heap.size = w9.heap.size := by rw [hwt]; exact five_size _ _ _ _ _ _ _ _
            have kt : ∀ b, b ≠ w5.heap.size → wt.heap[b]? = w9.heap[b]? := fun b hb => by rw [hwt]; exact five_other _ _ _ _ _ _ _ _ b hb
            have rt : wt.os = w9.os ∧ wt.tape = w9.tape ∧ wt.output = w9.output := by rw [hwt]; exact five_rest _ _ _ _ _ _ _ _
            have hobt : OBox wt w5.heap.size (.int .i64 (m : Int)) (.slice PA P.length pc) (.int .i64 t.kind) (.int .i64 t.num) (.string t.text) (.slice VA t.items.length vc) (.slice VA' t.names.length vc') (.slice none 0 0) := by rw [hwt]; exact ((((hob9.set2 _).set3 _).set4 _).set5 _).set6 _
            have hot : Only wr wt g := by
              have h := HO8.out.trans ho9
              exact ⟨rt.1.trans h.os, rt.2.1.trans h.tape, rt.2.2.trans h.output, by rw [hzt]; exact h.size, fun b hb hne => (kt b (by omega)).trans (h.block b hb hne)⟩
            have hst : RS wt g BB t3 := hs9.onlyB (fun b hb => kt b (by omega)) hB.out rt (by omega)
            have HLIt := Lib.hid (HLI.out.step hgl hst hot)
            have HOBt := Lib.hid hobt
            have HSN : Hid (∀ b, (fun b => wr.heap.size ≤ b ∧ b < wt.heap.size ∧ b ≠ w5.heap.size) b → wr.heap.size ≤ b ∧ b < wt.heap.size) := Lib.hid fun b hb => ⟨hb.1, hb.2.1⟩
            have hsp : StrsAt wt (fun b => wr.heap.size ≤ b ∧ b < wt.heap.size ∧ b ≠ w5.heap.size) PA P := (HST8.out.keep fun b hb => (kt b hb.2.2).trans (ho9.block b hb.2.1 (by rintro ⟨⟩; have := hb.1; omega))).imp fun b hb => ⟨hb.1, by have := hb.2.1; omega, hb.2.2⟩
            have hvt : LV wt (fun b => wr.heap.size ≤ b ∧ b < wt.heap.size ∧ b ≠ w5.heap.size) t _ := (hv9.keep fun b hb => kt b (by have := hb.1; omega)).imp fun b hb => ⟨by have := hb.1; omega, by have := hb.2; omega, by have := hb.1; omega⟩
            have HOP : Hid (OpL wt (fun b => wr.heap.size ≤ b ∧ b < wt.heap.size ∧ b ≠ w5.heap.size) ⟨(m : Int), P, t, []⟩ #[.int .i64 (m : Int), .slice PA P.length pc, .int .i64 t.kind, .int .i64 t.num, .string t.text, .slice VA t.items.length vc, .slice VA' t.names.length vc', .slice none 0 0]) := Lib.hid ⟨PA, pc, _, _, _, _, _, none, 0, rfl, hvt, hsp, strs_nil _ _ _, HP7.out.1, Nat.le_refl _, rng_k (k := (m : Int)) (by omega) (by omega), by show P.length ≤ _; have := HP7.out.2.1; omega, by simp⟩
            have HST : Hid ((rdOpsK s2 (k + 1)).2 = t3) := Lib.hid (by
              rw [HSTP.out]
              show (rdOp sk).2 = t3
              unfold rdOp
              rw [if_neg (by rw [← HM.out.1]; exact HH.out.1), if_neg (by rw [← HM.out.1]; exact HH.out.2), ← HM.out.2, ← HP7.out.2.2.1, ← ht3])
            have HST2 : Hid ((rdOpsK s2 (k + 1)).1 = (rdOpsK s2 k).1 ++ [(rdOp sk).1]) := Lib.hid (by rw [HSTP.out])
            have HEQ2 : Hid (∀ r, t3 = some r → l ++ [(⟨(m : Int), P, t, []⟩ : OpT)] = (rdOpsK s2 k).1 ++ [(rdOp sk).1]) := Lib.hid fun r hr => by
              obtain ⟨r0, hr0⟩ := HKG.out
              have ht2s : ∃ r2, t2 = some r2 := by
                cases h : t2 with
                | none => rw [h, readO_nn] at ht3; rw [ht3] at hr; cases hr
                | some r2 => exact ⟨r2, rfl⟩
              obtain ⟨r2, hr2⟩ := ht2s
              rw [HEQ.out r0 hr0]
              unfold rdOp
              rw [if_neg (by rw [← HM.out.1]; exact HH.out.1), if_neg (by rw [← HM.out.1]; exact HH.out.2), ← HM.out.2, ← HP7.out.2.2.1, ← HP7.out.2.2.2 r2 hr2, ← ht, ← HM.out.1]
            have q0 := hob9.g0
            have q1 := hob9.g1
            have q2 := hob9.g2
            have q3 := hob9.g3
            have q4 := hob9.g4
            have q5 := hob9.g5
            have q6 := hob9.g6
            have q7 := hob9.g7
            have qf := fun i => hob9.free i
            clear hs9 ho9 hv9 ht ht3 hob9 hobt hot hst kt rt hsp hvt HP9 hzt hz9
            subst hwt
            have h1c := opl_one (cs := [.int .i64 (m : Int), .slice PA P.length pc, .int .i64 t.kind, .int .i64 t.num, .string t.text, .slice VA t.items.length vc, .slice VA' t.names.length vc', .slice none 0 0]) HOP.out
            obtain ⟨xs, S0, r1, r2, r3⟩ := HLIt.out.row.alloc (.cells (List.toArray [.int .i64 (m : Int), .slice PA P.length pc, .int .i64 t.kind, .int .i64 t.num, .string t.text, .slice VA t.items.length vc, .slice VA' t.names.length vc', .slice none 0 0]) 33)
            rw [← HKL.out] at r1 r3
            have HX := Lib.hid (fun (w10 : World) (v : Value) (p c7 : Nat) (e7 : v = .slice (some ⟨p, 0, none⟩) (k + 1) c7) => LI.push (w10 := w10) (v := v) (p := p) (c7 := c7) HLIt.out hgl hB.out HKL.out HOP.out HSN.out hm3 HOM.out r2 r3 e7)
            have HR1 := Lib.hid r1
            have H1C := Lib.hid h1c
            have y6 := HLIt.out.q.g6
            rw [← HKL.out] at y6
            have z0 := HOBt.out.g0
            have z1 := HOBt.out.g1
            have z2 := HOBt.out.g2
            have z3 := HOBt.out.g3
            have z4 := HOBt.out.g4
            have z5 := HOBt.out.g5
            have z6 := HOBt.out.g6
            have z7 := HOBt.out.g7
            have hzW : w3.heap.size ≤ (five w9 w5.heap.size 2 (.int .i64 t.kind) (.int .i64 t.num) (.string t.text) (.slice VA t.items.length vc) (.slice VA' t.names.length vc')).heap.size := HLIt.out.zW
            have HZW := Lib.hid hzW
            simp only [five, Nat.reduceAdd] at y6 z0 z1 z2 z3 z4 z5 z6 z7
            clear h1c r1 r2 r3 hzW HO8 HS8 HLI8 HOB8
            go_wp2_with (at_builtin; go_must (refine wpList_append_own_at _ rfl _ _ 26 rfl w3.heap.size 33 i0 _ 8 136 Tryz.underlying26 hi hz0 hz1 hz2 rfl (by decide) _ k _ rfl HR1.out ⟨w9.heap.size, 0, none⟩ 1 1 _ rfl rfl (eight_new2 (five w9 w5.heap.size 2 (.int .i64 t.kind) (.int .i64 t.num) (.string t.text) (.slice VA t.items.length vc) (.slice VA' t.names.length vc')) w9.heap.size (by simp [five]) _ _) H1C.out (by unfold maxLen; omega) (by omega) (by have := HZW.out; simp [five] at this ⊢; omega) ?_); intro v7 w10 hown7 hg7 hnil7 hat7; obtain ⟨pp, c7, rfl⟩ := row_pos hown7 (by omega); have HX7 := Lib.hid (HX.out w10 _ pp c7 rfl hown7 hg7 hat7); have x6 := HX7.out.2.1.g6; have xf := fun i => HX7.out.2.1.free i; rw [← HKL.out] at x6; clear hown7 hg7 hnil7 hat7 y6 z0 z1 z2 z3 z4 z5 z6 z7)
            try go_wp2_with fail
            go_roundw
            case rel => exact ⟨k + 1, some ⟨pp, 0, none⟩, c7, l ++ [(⟨(m : Int), P, t, []⟩ : OpT)], by go_num, by omega, by rw [List.length_append, List.length_singleton, ← HKL.out], Lib.hid (by rw [HST.out]; exact HX7.out.1), Lib.hid (fun r hr => by rw [HST.out] at hr; rw [HST2.out]; exact HEQ2.out r hr)⟩
            case measure => simp [intOf]; omega
    · have hke : k = N := by omega
      cases hst : (rdOpsK s2 k).2 with
      | none =>
        have HUN : Hid (rdS st = (⟨false, noneV, []⟩, none)) := Lib.hid (rdS_none (by rw [HUK.out, ← hke]; exact hst))
        have HS3 : Hid (RS wr g BB none) := Lib.hid (by have h := HLI.out.s; rw [hst] at h; exact h)
        have HR3 := Lib.hid HLI.out.r
        have HO3 := Lib.hid HLI.out.only
        clear hst b1 hke
        have b1 := rs_c1 HS3.out
        have f1 := rs_f1 HS3.out
        have HR' : Hid (TBox (wr.setCell ⟨g, 1, none⟩ (.bool true)) w.heap.size (.bool false) (.int .i64 0) (.int .i64 0) (.string ⟨#[]⟩) (.slice none 0 0) (.slice none 0 0) (.slice none 0 0)) := Lib.hid (HR3.out.other g 1 (.bool true) (by omega))
        have HS' : Hid (RS (wr.setCell ⟨g, 1, none⟩ (.bool true)) g BB none) := Lib.hid (rs_spoil HS3.out)
        have HO' : Hid (Only w (wr.setCell ⟨g, 1, none⟩ (.bool true)) g) := Lib.hid (HO3.out.trans set_only)
        have y0 := HR'.out.g0
        have y1 := HR'.out.g1
        have y2 := HR'.out.g2
        have y3 := HR'.out.g3
        have y4 := HR'.out.g4
        have y5 := HR'.out.g5
        have y6 := HR'.out.g6
        have yf := fun i => HR'.out.free i
        go_wp2_with fail
        refine bodyPost_ret (results_cell_s rfl _ _ w.heap.size 28 _ (0, 0) rfl (seven_box HR'.out) (by kernel_rfl)) rfl ?_
        have e0 := HUN.out
        refine spec_endR (S := fun _ => False) (by rw [e0]; exact HS'.out) HO'.out hgl hB.out ?_ (fun b hb => hb.elim)
        rw [e0]
        exact none_spec _ _
      | some r0 =>
        have hl := HEQ.out r0 hst
        have HU : Hid (rdU st = (⟨false, noneV, l⟩, some r0)) := Lib.hid (by rw [HUK.out, ← hke, ← hl, hst])
        have HS3 : Hid (RS wr g BB (some r0)) := Lib.hid (by have h := HLI.out.s; rw [hst] at h; exact h)
        have HR3 := Lib.hid HLI.out.r
        have HQ3 := Lib.hid HLI.out.q
        have HO3 := Lib.hid HLI.out.only
        have hl16 : l.length ≤ 16 := by have := HKL.out; omega
        have HSP : Hid (SpecL wr (fun b => w.heap.size + 2 ≤ b ∧ b < wr.heap.size) ⟨false, noneV, l⟩ #[.bool false, .int .i64 0, .int .i64 0, .string ⟨#[]⟩, .slice none 0 0, .slice none 0 0, .slice A l.length c]) := Lib.hid ⟨none, 0, none, 0, A, c, rfl, leaf_lv _ _ _ _ _ (by unfold Rng; omega) (by unfold Rng; omega) (by decide), (HLI.out.row.rows).imp (fun b hb => ⟨by have := hb.1; omega, hb.2⟩), HLI.out.row.cap, by show l.length ≤ _; omega⟩
        have HSM : Hid (SmallR ⟨false, noneV, l⟩) := Lib.hid ⟨Nat.le_trans (show depthT noneV ≤ 8 by decide) (by omega), fun o ho => by
          have h : o ∈ (rdOpsK s2 k).1 := by rw [← hl]; exact ho
          have := rdOpsK_depth s2 k o h
          omega⟩
        clear hst hl b1 hke
        have hsz := HO3.out.size
        have HSX : Hid (∀ b, (fun b => w.heap.size + 2 ≤ b ∧ b < wr.heap.size) b → b < wr.heap.size) := Lib.hid fun b hb => hb.2
        have HK := Lib.hid (rspcheck_any (fun b => w.heap.size + 2 ≤ b ∧ b < wr.heap.size) _ _ wr HSX.out HSP.out HSM.out)
        have b1 := rs_c1 HS3.out
        have hg1 := HS3.out.lt
        have q0 := HQ3.out.g0
        have q1 := HQ3.out.g1
        have q2 := HQ3.out.g2
        have q3 := HQ3.out.g3
        have q4 := HQ3.out.g4
        have q5 := HQ3.out.g5
        have q6 := HQ3.out.g6
        go_wp2_with fail
        refine HK.out.mono ?_
        rintro e wz ⟨rfl, hbz⟩
        have HRz := Lib.hid (HR3.out.call hbz)
        have HQz := Lib.hid (HQ3.out.call hbz)
        have HSz : Hid (RS wz g BB (some r0)) := Lib.hid (HS3.out.onlyB (fun b hb => hbz.block b (by omega)) hB.out ⟨hbz.os, hbz.tape, hbz.output⟩ hbz.size)
        have HOz : Hid (Only w wz g) := Lib.hid (HO3.out.trans (Only.ofBelow hbz))
        have HSPz := Lib.hid (HSP.out.keep fun b hb => hbz.block b hb.2)
        have hzz := hbz.size
        obtain ⟨x, hx⟩ : ∃ x, x = checkS (rdU st).1 := ⟨_, rfl⟩
        have hxx : checkS (⟨false, noneV, l⟩ : SpecT) = x := by rw [hx, HU.out]
        rw [hxx]
        have HXE := Lib.hid hx
        clear hbz hx hxx HK b1 q0 q1 q2 q3 q4 q5 q6
        by_cases hx0 : x = 0
        · subst hx0
          have y0 := HRz.out.g0
          have y1 := HRz.out.g1
          have y2 := HRz.out.g2
          have y3 := HRz.out.g3
          have y4 := HRz.out.g4
          have y5 := HRz.out.g5
          have y6 := HRz.out.g6
          have yf := fun i => HRz.out.free i
          have q0 := HQz.out.g0
          have q1 := HQz.out.g1
          have q2 := HQz.out.g2
          have q3 := HQz.out.g3
          have q4 := HQz.out.g4
          have q5 := HQz.out.g5
          have q6 := HQz.out.g6
          go_wp2_with fail
          refine bodyPost_ret (results_cell_s rfl _ _ w.heap.size 28 _ (0, 0) rfl (seven_box HRz.out) (by kernel_rfl)) rfl ?_
          have e0 : rdS st = ((⟨false, noneV, l⟩ : SpecT), some r0) := by
            rw [rdS_some (l := r0) (by rw [HU.out]), if_pos HXE.out.symm, HU.out]
          refine spec_endR (S := fun b => w.heap.size + 2 ≤ b ∧ b < wr.heap.size) (by rw [e0]; exact HSz.out) HOz.out hgl hB.out ?_ (fun b hb => ⟨by have := hb.1; omega, by have := hb.2; omega⟩)
          rw [e0]
          exact HSPz.out
        · have hne : (x != 0) = true := bne_iff_ne.2 hx0
          have b1 := rs_c1 HSz.out
          have f1 := rs_f1 HSz.out
          have HR' : Hid (TBox (wz.setCell ⟨g, 1, none⟩ (.bool true)) w.heap.size (.bool false) (.int .i64 0) (.int .i64 0) (.string ⟨#[]⟩) (.slice none 0 0) (.slice none 0 0) (.slice none 0 0)) := Lib.hid (HRz.out.other g 1 (.bool true) (by omega))
          have HS' : Hid (RS (wz.setCell ⟨g, 1, none⟩ (.bool true)) g BB none) := Lib.hid (rs_spoil HSz.out)
          have HO' : Hid (Only w (wz.setCell ⟨g, 1, none⟩ (.bool true)) g) := Lib.hid (HOz.out.trans set_only)
          have y0 := HR'.out.g0
          have y1 := HR'.out.g1
          have y2 := HR'.out.g2
          have y3 := HR'.out.g3
          have y4 := HR'.out.g4
          have y5 := HR'.out.g5
          have y6 := HR'.out.g6
          have yf := fun i => HR'.out.free i
          go_wp2_with fail
          refine bodyPost_ret (results_cell_s rfl _ _ w.heap.size 28 _ (0, 0) rfl (seven_box HR'.out) (by kernel_rfl)) rfl ?_
          have e0 : rdS st = (⟨false, noneV, []⟩, none) := by
            rw [rdS_some (l := r0) (by rw [HU.out]), if_neg (fun h => hx0 (HXE.out.trans h))]
          refine spec_endR (S := fun _ => False) (by rw [e0]; exact HS'.out) HO'.out hgl hB.out ?_ (fun b hb => hb.elim)
          rw [e0]
          exact none_spec _ _
end Go.Proofs.YtipiplnhbecjeaaGreat

/- A nil source: no update is read. -/
namespace Go.Proofs.YtipiplnhbecjeaaGreat
set_option linter.unusedVariables false
set_option linter.unusedSimpArgs false
open Go.RowKit
set_option maxRecDepth 100000
theorem spreadops_nil (w : World) : Calls Tryz.prog 81 #[.pointer none] w fun e w' => e = .returned (.slice none 0 0) ∧ Below w.heap.size w w' := by
  go_enter Tryz.func81, Tryz.ntmps81
  go_wp2_with fail
  refine (scount_nil 16 _ (by omega)).mono ?_
  rintro e w1 ⟨rfl, hb⟩
  have HB := Lib.hid hb
  clear hb
  go_wp2_with fail
  go_loopw [3, 6] (fun v i wr => i = .int .i64 0 ∧ v = .slice none 0 0 ∧ wr = w1) (fun _ _ _ => 0)
  case atStart => exact ⟨rfl, rfl, rfl⟩
  case round =>
    obtain ⟨rfl, rfl, rfl⟩ := hrel
    go_wp2_with fail
    go_ret
    exact ⟨rfl, HB.out⟩
/-- The zero update in the block of the results. -/
theorem zero_endS {w W : World} {g p : Nat} {c0 c1 c2 c3 c4 c5 c6 : Value} (h : Below g w W) (hg : g ≤ p) : Below g w (seven W p c0 c1 c2 c3 c4 c5 c6) :=
  ⟨seven_rest.1.trans h.os, seven_rest.2.1.trans h.tape, seven_rest.2.2.trans h.output, by rw [seven_size]; exact h.size, fun b hb => (seven_other b (by omega)).trans (h.block b hb)⟩
theorem spreadu_nil (w : World) : Calls Tryz.prog 49 #[.pointer none] w fun e w' => e = .returned (.agg #[.bool false, .int .i64 0, .int .i64 0, .string ⟨#[]⟩, .slice none 0 0, .slice none 0 0, .slice none 0 0]) ∧ Below w.heap.size w w' := by
  have hb0 := below_box (w := w) (.cells #[.bool false, .int .i64 0, .int .i64 0, .string ⟨#[]⟩, .slice none 0 0, .slice none 0 0, .slice none 0 0] 28)
  have hx0 : TBox (w.alloc (.cells #[.bool false, .int .i64 0, .int .i64 0, .string ⟨#[]⟩, .slice none 0 0, .slice none 0 0, .slice none 0 0] 28)) w.heap.size _ _ _ _ _ _ _ := TBox.new w _ _ _ _ _ _ _
  have HB0 := Lib.hid hb0
  have HX0 := Lib.hid hx0
  clear hb0 hx0
  go_enter Tryz.func49, Tryz.ntmps49
  go_wp2_with fail
  refine (sbyte_nil _).mono ?_
  rintro e w1 ⟨rfl, hb⟩
  have HX1 := Lib.hid (HX0.out.call hb)
  have HB1 := Lib.hid (HB0.out.trans (hb.mono HB0.out.size))
  clear hb HX0 HB0
  go_wp2_with fail
  refine (spreadops_nil _).mono ?_
  rintro e w2 ⟨rfl, hb⟩
  have HX2 := Lib.hid (HX1.out.call hb)
  have HB2 := Lib.hid (HB1.out.trans (hb.mono HB1.out.size))
  clear hb HX1 HB1
  have y0 := HX2.out.g0
  have y1 := HX2.out.g1
  have y2 := HX2.out.g2
  have y3 := HX2.out.g3
  have y4 := HX2.out.g4
  have y5 := HX2.out.g5
  have y6 := HX2.out.g6
  have yf := fun i => HX2.out.free i
  go_wp2_with fail
  refine bodyPost_ret (results_cell_s rfl _ _ w.heap.size 28 _ (0, 0) rfl (seven_box HX2.out) (by kernel_rfl)) rfl ?_
  exact ⟨rfl, zero_endS HB2.out (Nat.le_refl _)⟩
set_option maxHeartbeats 4000000 in
theorem spread_nil (w : World) : Calls Tryz.prog 19 #[.pointer none] w fun e w' => e = .returned (.agg #[.bool false, .int .i64 0, .int .i64 0, .string ⟨#[]⟩, .slice none 0 0, .slice none 0 0, .slice none 0 0]) ∧ Below w.heap.size w w' := by
  have hb0 := below_box (w := w) (.cells #[.bool false, .int .i64 0, .int .i64 0, .string ⟨#[]⟩, .slice none 0 0, .slice none 0 0, .slice none 0 0] 28)
  have hx0 : TBox (w.alloc (.cells #[.bool false, .int .i64 0, .int .i64 0, .string ⟨#[]⟩, .slice none 0 0, .slice none 0 0, .slice none 0 0] 28)) w.heap.size _ _ _ _ _ _ _ := TBox.new w _ _ _ _ _ _ _
  have HB0 := Lib.hid hb0
  have HX0 := Lib.hid hx0
  clear hb0 hx0
  go_enter Tryz.func19, Tryz.ntmps19
  go_wp2_with fail
  refine (spreadu_nil _).mono ?_
  rintro e w1 ⟨rfl, hb⟩
  have hb1 := HB0.out.trans (hb.mono HB0.out.size)
  have hbx := below_box (w := w1) (.cells #[.bool false, .int .i64 0, .int .i64 0, .string ⟨#[]⟩, .slice none 0 0, .slice none 0 0, .slice none 0 0] 28)
  have HX2 := Lib.hid ((HX0.out.call hb).alloc (.cells #[.bool false, .int .i64 0, .int .i64 0, .string ⟨#[]⟩, .slice none 0 0, .slice none 0 0, .slice none 0 0] 28))
  have HB2 := Lib.hid (hb1.trans (hbx.mono hb1.size))
  clear hb hb1 hbx HX0 HB0
  go_wp2_with (go_at_call 22; refine (bad_nil _).mono ?_; rintro e w' ⟨rfl, rfl⟩)
  refine (spoil_nil _).mono ?_
  rintro e w' ⟨rfl, rfl⟩
  have y0 := HX2.out.g0
  have y1 := HX2.out.g1
  have y2 := HX2.out.g2
  have y3 := HX2.out.g3
  have y4 := HX2.out.g4
  have y5 := HX2.out.g5
  have y6 := HX2.out.g6
  have yf := fun i => HX2.out.free i
  go_wp2_with fail
  refine bodyPost_ret (results_cell_s rfl _ _ w.heap.size 28 _ (0, 0) rfl (seven_box HX2.out) (by kernel_rfl)) rfl ?_
  exact ⟨rfl, zero_endS HB2.out (Nat.le_refl _)⟩
end Go.Proofs.YtipiplnhbecjeaaGreat
