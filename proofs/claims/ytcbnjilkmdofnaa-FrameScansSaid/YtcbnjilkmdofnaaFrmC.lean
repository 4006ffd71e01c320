/- Rows of bytes read by appends; lists of such rows, and the library's putting of them behind one another. -/
import Derived.Test.YtcbnjilkmdofnaaFrmB
import Derived.Laws.AppendOwnNone
import Derived.Lib.AppendZerosOnto
import Derived.Lib.AppendZeros
import Derived.Lib.SliceRun
namespace Go.Proofs.Ytcbnjilkmdofnaa
set_option linter.unusedVariables false
set_option linter.unusedSimpArgs false
open Go.RowKit

theorem addr_addY (b off i : Nat) : ((⟨b, off, none⟩ : Addr).add i) = ⟨b, off + i, none⟩ := by
  unfold Addr.add
  split
  · next h => simp [h]
  · rfl
theorem OwnB.rdY {w : World} {B : Nat} {v : Value} {l : List UInt8} (h : OwnB w B v l) : Rd w w.heap.size v l := by
  have hc := fun g hg => World.ownsRow.cells (g := g) h hg
  have hlt := World.ownsRow.lt h
  rcases h.2 with ⟨rfl, h0⟩ | ⟨g, cap, cur, rfl, hB, hh, hcap, hm, -⟩
  · have hl : l = [] := List.eq_nil_of_length_eq_zero h0
    subst hl
    exact ⟨none, 0, rfl, Nat.le_refl _, ⟨by omega, fun _ => rfl⟩, fun h => absurd h (by simp)⟩
  · refine ⟨some ⟨g, 0, none⟩, cap, rfl, hcap, ⟨by unfold maxLen at hm; omega, fun h => by cases h⟩, fun hp => ⟨g, 0, rfl, (hlt g rfl).2, fun i hi => ?_⟩⟩
    have h1 := hc g rfl i (.int .u8 (l[i].toNat : Int)) (by simp [bcells, hi])
    rw [addr_addY] at h1
    exact h1
set_option maxRecDepth 100000 in
theorem append_bytesY {w : World} {ops : Array Oper} {rest : List Oper} {o : Oper} {a : Act} {Q : Exit → Act → World → Prop} (hgd : o.guard = none) (s x : Operand)
    (ho : o.op = .call { callee := .builtin .append, args := #[s, x], argTypes := #[22, 22] }) (B : Nat) (v : Value) (l : List UInt8) (hs : a.eval s = v) (hown : OwnB w B v l)
    (D : Nat) (vx : Value) (m : List UInt8) (hx : a.eval x = vx) (hrd : Rd w D vx m) (hB : B ≤ w.heap.size) (hl : l.length + m.length ≤ 140737488355328)
    (K : ∀ v' w', OwnB w' B v' (l ++ m) → w.grownBy w' v.ownBlock → wpList Try.prog ops Q rest (a.put o.dst v') w') : wpList Try.prog ops Q (o :: rest) a w := by
  obtain ⟨i0, hi, hz0, hz1, hz2⟩ := info_parts Try.infoU8
  obtain ⟨A, cap, rfl, hcap, ⟨hc2, hA⟩, hc⟩ := hrd
  cases A with
  | none =>
    have hm : m = [] := by
      match m, hc with
      | [], _ => rfl
      | b :: r, hc => obtain ⟨_, _, h, _⟩ := hc (by simp); cases h
    subst hm
    obtain rfl := hA rfl
    refine wpList_append_own_none hgd s x 22 ho B 5 i0 1 Try.underlying22 hi v l.length (bcells l) hs hown hx ?_
    exact K v w (by rw [List.append_nil]; exact hown) ⟨rfl, rfl, rfl, Nat.le_refl _, fun _ _ _ => rfl⟩
  | some ad =>
    refine wpList_append_own _ hgd s x 22 ho B 5 i0 (.int .u8 0) 1 1 Try.underlying22 hi hz0 hz1 hz2 rfl (by decide) v l.length (bcells l) hs hown ad m.length cap (bcells m) hx (by simp [bcells]) ?_ (bcells_oneCell m) (by unfold maxLen; omega) (by omega) hB ?_
    · intro j u hj
      have hjl : j < m.length := by have := (List.getElem?_eq_some_iff.1 hj).1; simpa [bcells] using this
      obtain ⟨b, off, hAd, -, hcell⟩ := hc (by omega)
      injection hAd with hAd
      subst hAd
      rw [addr_addY, hcell j hjl]
      simpa [bcells, List.getElem?_map, List.getElem?_eq_getElem hjl] using hj
    · intro v' w' h1 h2 _
      exact K v' w' (by unfold OwnB; rw [List.length_append, bcells_append]; exact h1) h2
theorem below_ownY {a w w' : World} {B : Nat} {v : Value} {l : List UInt8} (hb : Below B a w) (h : OwnB w B v l) (hB : B ≤ w.heap.size) (hg : w.grownBy w' v.ownBlock) : Below B a w' := hb.grown hg hB (fun k hk => (World.ownsRow.lt h k hk).1)
theorem Rd.upY {w : World} {B B' : Nat} {v : Value} {l : List UInt8} (h : Rd w B v l) (hb : B ≤ B') : Rd w B' v l := by
  obtain ⟨A, cap, hv, hc, hm, h1⟩ := h
  refine ⟨A, cap, hv, hc, hm, fun hl => ?_⟩
  obtain ⟨b, off, hA, hbB, hcell⟩ := h1 hl
  exact ⟨b, off, hA, by omega, hcell⟩
theorem Rd.shapeY {w : World} {B : Nat} {v : Value} {l : List UInt8} (h : Rd w B v l) : ∃ A cap, v = .slice A l.length cap := by
  obtain ⟨A, cap, hv, _⟩ := h
  exact ⟨A, cap, hv⟩

/-- Rows of bytes, one behind the other, in blocks below B. -/
def BssAt (w : World) (B : Nat) (A : Option Addr) (ls : List (List UInt8)) : Prop :=
  0 < ls.length → ∃ b off, A = some ⟨b, off, none⟩ ∧ b < B ∧ ∀ i (h : i < ls.length), ∃ v, w.cell? ⟨b, off + i, none⟩ = some v ∧ Rd w B v ls[i]
theorem BssAt.keep {w w' : World} {B : Nat} {A : Option Addr} {ls : List (List UInt8)} (h : BssAt w B A ls) (hb : Below B w w') : BssAt w' B A ls := fun hl => by
  obtain ⟨b, off, hA, hbB, hc⟩ := h hl
  refine ⟨b, off, hA, hbB, fun i hi => ?_⟩
  obtain ⟨v, hv, hr⟩ := hc i hi
  exact ⟨v, (hb.cell (p := ⟨b, off + i, none⟩) hbB).trans hv, hr.keep hb⟩

set_option maxHeartbeats 1000000 in
set_option maxRecDepth 100000 in
theorem growB_nil (n : Nat) (w : World) (hn : n ≤ 140737488351232) : Calls Try.prog 73 #[.slice none 0 0, .int .i64 n] w (Gives [] w) := by
  obtain ⟨i0, hi, hz0, hz1, hz2⟩ := info_parts Try.infoU8
  by_cases h0 : n = 0
  · subst h0
    go_enter Try.func73, Try.ntmps73
    go_wp2_with fail
    go_ret
    exact ⟨_, rfl, World.ownsRow_nil _ _ _ _, Below.refl _ _⟩
  · have hrz : ∀ ty, (Builtin.append_ #[22, 3] ty #[.slice none 0 0, .int .i64 n]).run Try.prog w = .ok (.slice (some ⟨w.heap.size, 0, none⟩) n (grownCap w n 0 5)) (w.drew.alloc (.cells (#[] ++ Builtin.zeroCells (Value.int .u8 0).cells n ++ Builtin.zeroCells (Value.int .u8 0).cells (grownCap w n 0 5 - n)) 5)) := fun ty => by
      have h := Lib.run_append_grow_zeros w 22 3 ty 5 i0 (.int .u8 0) .i64 .i64 Try.underlying22 Try.underlying3 hi hz0 none 0 0 [] (run_firstCells_none w.drew i0.size 0 0 0) n (by omega) (by omega) (by omega) (by omega) (by rw [hz2]; omega) (growslice_fits (by omega) (by rw [hz2]; omega))
      simpa using h
    have hG := grownCap_ge w n 0 5
    have hG2 := grownCap_le_maxLen w n 0 5 (by unfold maxLen; omega)
    obtain ⟨G, hGe⟩ : ∃ G, G = grownCap w n 0 5 := ⟨_, rfl⟩
    rw [← hGe] at hrz hG hG2
    have HG := Lib.hid hG2
    unfold maxLen at hG2
    have hn1 : (1 : Int) ≤ (n : Int) := by omega
    have HR : Hid (OwnB (w.drew.alloc (.cells (#[] ++ Builtin.zeroCells (Value.int .u8 0).cells n ++ Builtin.zeroCells (Value.int .u8 0).cells (G - n)) 5)) w.heap.size (.slice (some ⟨w.heap.size, 0, none⟩) 0 G) []) := by
      refine World.ownsRow_made (size := 1) w.drew _ G (Nat.le_refl _) HG.out ?_
      simp only [Array.size_append, size_zeroCells]
      simp [Value.cells]; omega
    obtain ⟨C, hC⟩ : ∃ C, C = (#[] ++ Builtin.zeroCells (Value.int .u8 0).cells n ++ Builtin.zeroCells (Value.int .u8 0).cells (G - n)) := ⟨_, rfl⟩
    rw [← hC] at hrz HR
    clear hGe h0 hC
    go_enter Try.func73, Try.ntmps73
    go_wp2_with (at_builtin; refine Lib.wpList_append_run _ rfl _ _ _ _ rfl _ _ rfl rfl _ _ (hrz _) ?_)
    go_ret
    exact ⟨_, rfl, HR.out, (Below.refl _ _).drew.alloc (Nat.le_refl _) _⟩

theorem flat_take_le (ls : List (List UInt8)) (k : Nat) : (ls.take k).flatten.length ≤ ls.flatten.length := by
  conv => rhs; rw [← List.take_append_drop k ls, List.flatten_append, List.length_append]
  omega
theorem flat_take_succ (ls : List (List UInt8)) (k : Nat) (h : k < ls.length) : (ls.take (k + 1)).flatten = (ls.take k).flatten ++ ls[k] := by
  rw [List.take_succ_eq_append_getElem h, List.flatten_append]
  simp

set_option maxHeartbeats 4000000 in
set_option maxRecDepth 100000 in
theorem concatB_any (B : Nat) (A : Option Addr) (c : Nat) (ls : List (List UInt8)) (w : World) (h : BssAt w B A ls) (hB : B ≤ w.heap.size) (hl : ls.flatten.length ≤ 140737488351232) (hn : ls.length ≤ 140737488351232) :
    Calls Try.prog 55 #[.slice A ls.length c] w (Gives ls.flatten w) := by
  have H := Lib.hid h
  have HL := Lib.hid hl
  clear h hl
  go_enter Try.func55, Try.ntmps55
  go_wp2_with fail
  go_loopw [3, 11] (fun n i wr => ∃ k m : Nat, i = .int .i64 k ∧ n = .int .i64 m ∧ wr = w ∧ k ≤ ls.length ∧ Hid (m = (ls.take k).flatten.length)) (fun _ i _ => ls.length - (intOf i).toNat)
  case atStart => exact ⟨0, 0, rfl, rfl, rfl, by omega, by show _ = _; simp⟩
  case round =>
    obtain ⟨k0, m, rfl, rfl, rfl, hk0, HK⟩ := hrel
    have hml : m ≤ 140737488351232 := by have := HK.out; have := flat_take_le ls k0; have := HL.out; omega
    by_cases hlt : k0 < ls.length
    · obtain ⟨b, off, rfl, hbB, hcell⟩ := H.out (by omega)
      obtain ⟨v, hv, hr⟩ := hcell k0 hlt
      obtain ⟨Av, cv, rfl⟩ := hr.shapeY
      have hm2 : m + ls[k0].length = (ls.take (k0 + 1)).flatten.length := by rw [flat_take_succ ls k0 hlt, List.length_append, HK.out]
      have hm3 : m + ls[k0].length ≤ 140737488351232 := by have := flat_take_le ls (k0 + 1); have := HL.out; omega
      obtain ⟨q, hq⟩ : ∃ q, q = ls[k0].length := ⟨_, rfl⟩
      have HM2 : Hid (m + q = (ls.take (k0 + 1)).flatten.length) := by rw [hq]; exact hm2
      rw [← hq] at hv hm3
      clear hcell hr hm2 hq H
      go_wp2_with fail
      go_roundw
      case rel => exact ⟨k0 + 1, m + q, by go_num, by go_num, trivial, by omega, HM2⟩
      case measure => simp [intOf]; omega
    · have hk2 : k0 = ls.length := by omega
      subst hk2
      go_wp2_with fail
      refine (growB_nil _ _ hml).mono ?_
      rintro e w1 ⟨v, rfl, hv, hb1⟩
      have HV := Lib.hid hv
      have HB1 := Lib.hid hb1
      clear hv hb1
      go_wp2_with fail
      obtain ⟨wo, hwo⟩ : ∃ wo : World, wo = wr := ⟨_, rfl⟩
      rw [← hwo] at hB H HV HB1
      have HWO := Lib.hid hwo
      clear hwo HK
      go_loopw [6, 27] (fun v i wr => ∃ k : Nat, i = .int .i64 k ∧ k ≤ ls.length ∧ Hid (Below wo.heap.size wo wr) ∧ Hid (OwnB wr wo.heap.size v (ls.take k).flatten)) (fun _ i _ => ls.length - (intOf i).toNat)
      case atStart => exact ⟨0, rfl, by omega, HB1, HV⟩
      case round =>
        obtain ⟨k1, rfl, hk1, HB2, HO⟩ := hrel
        have hsz := HB2.out.size
        by_cases hlt : k1 < ls.length
        · obtain ⟨b, off, rfl, hbB, hcell⟩ := (H.out.keep (HB2.out.mono hB)) (by omega)
          obtain ⟨vx, hv, hr⟩ := hcell k1 hlt
          have hfl := flat_take_succ ls k1 hlt
          have hml2 : (ls.take k1).flatten.length + ls[k1].length ≤ 140737488355328 := by
            have h1 := flat_take_le ls (k1 + 1)
            rw [hfl, List.length_append] at h1
            have := HL.out; omega
          obtain ⟨x, hx⟩ : ∃ x, x = ls[k1] := ⟨_, rfl⟩
          rw [← hx] at hr hml2 hfl
          obtain ⟨y, hy⟩ : ∃ y, y = (ls.take k1).flatten := ⟨_, rfl⟩
          rw [← hy] at HO hml2 hfl
          have HF := Lib.hid hfl
          have HR := Lib.hid hr
          have HML := Lib.hid hml2
          clear hcell hr hx hy hfl hml2 H
          go_wp2_with (at_builtin; go_must (refine append_bytesY rfl _ _ rfl wo.heap.size _ y rfl HO.out _ vx x rfl HR.out hsz HML.out ?_))
          intro v2 w2 hv2 hg
          have HV2 := Lib.hid hv2
          have HB3 := Lib.hid (below_ownY HB2.out HO.out hsz hg)
          clear hv2 hg
          go_wp2_with fail
          go_roundw
          case rel => exact ⟨k1 + 1, by go_num, by omega, HB3, by rw [HF.out]; exact HV2⟩
          case measure => simp [intOf]; omega
        · have hk2 : k1 = ls.length := by omega
          have hv2 := HO.out
          rw [hk2, List.take_of_length_le (Nat.le_refl _)] at hv2
          have HV2 := Lib.hid hv2
          clear hv2
          clear HO
          go_wp2_with fail
          go_ret
          exact ⟨_, rfl, by rw [← HWO.out]; exact HV2.out, by rw [← HWO.out]; exact HB2.out⟩
end Go.Proofs.Ytcbnjilkmdofnaa
