/- The document's own reading of groups, over bytes that came in. -/
import Derived.Test.YtipiplnhbecjeaaGreatKVarH
namespace Go.Proofs.YtipiplnhbecjeaaGreat
set_option linter.unusedVariables false
set_option linter.unusedSimpArgs false
open Go.RowKit

/-- A slice value that reads as l, in blocks below B. -/
def Rd (w : World) (B : Nat) (v : Value) (l : List UInt8) : Prop :=
  ∃ (A : Option Addr) (cap : Nat), v = .slice A l.length cap ∧ l.length ≤ cap ∧ (cap ≤ 9223372036854775807 ∧ (A = none → cap = 0)) ∧
    (0 < l.length → ∃ b off, A = some ⟨b, off, none⟩ ∧ b < B ∧ ∀ i (h : i < l.length), w.cell? ⟨b, off + i, none⟩ = some (.int .u8 (l[i].toNat : Int)))
theorem Rd.keep {w w' : World} {B : Nat} {v : Value} {l : List UInt8} (h : Rd w B v l) (hb : Below B w w') : Rd w' B v l := by
  obtain ⟨A, cap, hv, hc, hm, h1⟩ := h
  refine ⟨A, cap, hv, hc, hm, fun hl => ?_⟩
  obtain ⟨b, off, hA, hbB, hcell⟩ := h1 hl
  exact ⟨b, off, hA, hbB, fun i hi => (hb.cell (p := ⟨b, off + i, none⟩) hbB).trans (hcell i hi)⟩

/-- Block g is the document's source, with what it has left: none, if it is bad. -/
def RS (w : World) (g B : Nat) : Option (List UInt8) → Prop
  | none => ∃ (A : Option Addr) (n c : Nat), w.heap[g]? = some (.cells #[.slice A n c, .bool true] 50 (0, 0))
  | some l => ∃ v, w.heap[g]? = some (.cells #[v, .bool false] 50 (0, 0)) ∧ Rd w B v l
theorem RS.lt {w : World} {g B : Nat} {st : Option (List UInt8)} (h : RS w g B st) : g < w.heap.size := by
  cases st with
  | none => obtain ⟨_, _, _, h⟩ := h; exact (Array.getElem?_eq_some_iff.1 h).1
  | some l => obtain ⟨v, h, _⟩ := h; exact (Array.getElem?_eq_some_iff.1 h).1
theorem RS.keep {w w' : World} {g B : Nat} {st : Option (List UInt8)} (h : RS w g B st) (he : w'.heap[g]? = w.heap[g]?) (hb : Below B w w') : RS w' g B st := by
  cases st with
  | none => obtain ⟨A, n, c, h⟩ := h; exact ⟨A, n, c, he.trans h⟩
  | some l => obtain ⟨v, h, h2⟩ := h; exact ⟨v, he.trans h, h2.keep hb⟩

theorem add_val (acc b k : Nat) (hacc : acc < 128 ^ k) (h : k ≤ 9) (h9 : k = 9 → b % 128 ≤ 1) :
    IntKind.u64.wrap ((acc : Int) + IntKind.u64.wrap ((b : Int) % 128 * 2 ^ (7 * k))) = ((acc + b % 128 * 128 ^ k : Nat) : Int) := by
  have hm := mul_pow_lt (b % 128) k (by omega) h h9
  have hp := pow_le9 k h
  have e : IntKind.u64.wrap ((b : Int) % 128 * 2 ^ (7 * k)) = ((b % 128 * 128 ^ k : Nat) : Int) := by
    have e1 : ((b : Int) % 128 * 2 ^ (7 * k)) = ((b % 128 * 128 ^ k : Nat) : Int) := by
      rw [← pow7]; simp
    rw [e1, IntKind.wrap_u64]; omega
  rw [e, IntKind.wrap_u64]
  omega

/-- What a round of the document's reading finds. -/
def GL (l : List UInt8) (k acc : Nat) : Prop := acc < 128 ^ k ∧ getG k acc (l.drop k) = getG 0 0 l
theorem dropL (l : List UInt8) (k : Nat) (hk : k < l.length) : l.drop k = l[k] :: l.drop (k + 1) := List.drop_eq_getElem_cons hk
theorem GL_end {l : List UInt8} {k acc : Nat} (HG : GL l k acc) (hn : ¬ (k < l.length ∧ k < 10)) (h10 : k ≤ 10) (hle : k ≤ l.length) : getG 0 0 l = (0, 0) := by
  rw [← HG.2]
  by_cases h : k < l.length
  · rw [dropL l k h, getG, if_pos (by omega)]
  · rw [List.drop_eq_nil_of_le (by omega), getG]
theorem GL_hi {l : List UInt8} {k acc : Nat} (HG : GL l k acc) (hk : k < l.length) (h9 : k = 9) (hb : 1 < l[k].toNat) : getG 0 0 l = (0, 0) := by
  rw [← HG.2, dropL l k hk, getG, if_neg (by omega), if_pos ⟨h9, hb⟩]
theorem GL_zero {l : List UInt8} {k acc : Nat} (HG : GL l k acc) (hk : k < l.length) (h10 : k < 10) (h0 : 0 < k) (hb : l[k].toNat = 0) : getG 0 0 l = (0, 0) := by
  rw [← HG.2, dropL l k hk, getG, if_neg (by omega), if_neg (by omega), if_pos (by omega), if_pos ⟨hb, h0⟩]
theorem GL_last {l : List UInt8} {k acc : Nat} (HG : GL l k acc) (hk : k < l.length) (h10 : k < 10) (h9 : k = 9 → l[k].toNat ≤ 1) (hb : l[k].toNat < 128) (hz : l[k].toNat = 0 → ¬ 0 < k) :
    IntKind.u64.wrap ((acc : Int) + IntKind.u64.wrap ((l[k].toNat : Int) % 128 * 2 ^ (7 * k))) = ((getG 0 0 l).1 : Int) ∧ (getG 0 0 l).2 = k + 1 := by
  rw [add_val acc l[k].toNat k HG.1 (by omega) (by omega)]
  rw [← HG.2, dropL l k hk, getG, if_neg (by omega), if_neg (by omega), if_pos (by omega), if_neg (by omega)]
  rw [Nat.mod_eq_of_lt hb]
  exact ⟨rfl, rfl⟩
theorem GL_more {l : List UInt8} {k acc : Nat} (HG : GL l k acc) (hk : k < l.length) (h10 : k < 10) (h9 : k ≠ 9) (hb : 128 ≤ l[k].toNat) :
    ∃ acc' : Nat, IntKind.u64.wrap ((acc : Int) + IntKind.u64.wrap ((l[k].toNat : Int) % 128 * 2 ^ (7 * k))) = (acc' : Int) ∧ GL l (k + 1) acc' := by
  have hlt := UInt8.toNat_lt l[k]
  refine ⟨_, add_val acc l[k].toNat k HG.1 (by omega) (by omega), ?_, ?_⟩
  · have e3 : (128 : Nat) ^ (k + 1) = 128 * 128 ^ k := by rw [Nat.pow_succ]; omega
    have : l[k].toNat % 128 * 128 ^ k ≤ 127 * 128 ^ k := Nat.mul_le_mul_right _ (by omega)
    have := HG.1
    omega
  · rw [← HG.2, dropL l k hk]
    conv => rhs; rw [getG, if_neg (by omega), if_neg (by omega), if_neg (by omega)]
    have e : l[k].toNat % 128 = l[k].toNat - 128 := by omega
    rw [e]

/-- What the document's source says next, as that of the program. -/
theorem rdN_max (l : List UInt8) : rdN 18446744073709551615 (some l) = if (getG 0 0 l).2 = 0 then (0, none) else ((getG 0 0 l).1, some (l.drop (getG 0 0 l).2)) := by
  have := getG_lt l 0 0 (by decide) (by omega)
  simp only [rdN]
  by_cases h : (getG 0 0 l).2 = 0
  · rw [if_pos (Or.inl h), if_pos h]
  · rw [if_neg (by omega), if_neg h]

theorem set_rs0 {w : World} {g : Nat} {v u : Value} {b : Bool} (h : w.heap[g]? = some (.cells #[v, .bool b] 50 (0, 0))) : (w.setCell ⟨g, 0, none⟩ u).heap[g]? = some (.cells #[u, .bool b] 50 (0, 0)) := Go.Joins.block_setCell (i := 0) h u
theorem set_rs1 {w : World} {g : Nat} {v : Value} {b c : Bool} (h : w.heap[g]? = some (.cells #[v, .bool b] 50 (0, 0))) : (w.setCell ⟨g, 1, none⟩ (.bool c)).heap[g]? = some (.cells #[v, .bool c] 50 (0, 0)) := Go.Joins.block_setCell (i := 1) h (.bool c)

/-- The slice behind k elements. -/
theorem Rd.cut {w : World} {B b off cap k : Nat} {l : List UInt8} (h : Rd w B (.slice (some ⟨b, off, none⟩) l.length cap) l) (hk : k ≤ l.length) :
    Rd w B (.slice (if cap = k then some ⟨b, off, none⟩ else some ⟨b, off + k, none⟩) (l.length - k) (cap - k)) (l.drop k) := by
  obtain ⟨A, cap', hv, hc, hm, h1⟩ := h
  injection hv with hA _ hcap
  subst hA; subst hcap
  refine ⟨_, _, by rw [List.length_drop], by rw [List.length_drop]; omega, ⟨by omega, fun h => by split at h <;> cases h⟩, fun hl => ?_⟩
  rw [List.length_drop] at hl
  obtain ⟨b', off', hA, hB, hcell⟩ := h1 (by omega)
  injection hA with hA; injection hA with hA1 hA2
  subst hA1; subst hA2
  rw [if_neg (by omega)]
  refine ⟨b, off + k, rfl, hB, fun i hi => ?_⟩
  rw [List.length_drop] at hi
  have := hcell (k + i) (by omega)
  rw [List.getElem_drop, Nat.add_assoc]
  exact this

theorem rs_bad {w : World} {g B : Nat} {A : Option Addr} {n c : Nat} {l : List UInt8} (h : w.heap[g]? = some (.cells #[.slice A n c, .bool false] 50 (0, 0))) (hz : (getG 0 0 l).2 = 0) :
    Ending.returned (.int .u64 0) = .returned (.int .u64 (rdN 18446744073709551615 (some l)).1) ∧ RS (w.setCell ⟨g, 1, none⟩ (.bool true)) g B (rdN 18446744073709551615 (some l)).2 ∧ Only w (w.setCell ⟨g, 1, none⟩ (.bool true)) g := by
  rw [rdN_max, if_pos hz]
  exact ⟨rfl, ⟨_, _, _, set_rs1 h⟩, (Only.refl w g).set _ _⟩
theorem rs_good {w : World} {g B n : Nat} {v u : Value} {l : List UInt8} {x : Int} (h : w.heap[g]? = some (.cells #[v, .bool false] 50 (0, 0))) (hg : B ≤ g) (hx : x = ((getG 0 0 l).1 : Int)) (hn : (getG 0 0 l).2 = n + 1) (hu : Rd w B u (l.drop (n + 1))) :
    Ending.returned (.int .u64 x) = .returned (.int .u64 (rdN 18446744073709551615 (some l)).1) ∧ RS (w.setCell ⟨g, 0, none⟩ u) g B (rdN 18446744073709551615 (some l)).2 ∧ Only w (w.setCell ⟨g, 0, none⟩ u) g := by
  rw [rdN_max, if_neg (by omega), hn]
  exact ⟨ret_u64 hx, ⟨u, set_rs0 h, hu.keep ((Below.refl _ _).setCell hg _)⟩, (Only.refl w g).set _ _⟩

theorem top9 : IntKind.u64.wrap (((1 : Nat) : Int) % 128 * 2 ^ (7 * 9)) = 9223372036854775808 := by decide
set_option maxHeartbeats 2000000 in
set_option maxRecDepth 1000000 in
theorem rsgroups_some (g B : Nat) (l : List UInt8) (w : World) (h : RS w g B (some l)) (hg : B ≤ g) :
    Calls Tryz.prog 84 #[.pointer (some ⟨g, 0, none⟩)] w fun e w' => e = .returned (.int .u64 (rdN 18446744073709551615 (some l)).1) ∧ RS w' g B (rdN 18446744073709551615 (some l)).2 ∧ Only w w' g := by
  obtain ⟨v, hgv, hrd⟩ := h
  have c0 : w.cell? ⟨g, 0, none⟩ = some v := Go.Joins.cell_of_block hgv 0
  have c1 : w.cell? ⟨g, 1, none⟩ = some (.bool false) := Go.Joins.cell_of_block hgv 1
  have f0 : w.frozen? ⟨g, 0, none⟩ = false := Go.Joins.unfrozen_of_block hgv 0
  have f1 : w.frozen? ⟨g, 1, none⟩ = false := Go.Joins.unfrozen_of_block hgv 1
  have HV := Lib.hid hgv
  have HR := Lib.hid hrd
  obtain ⟨A, cap, rfl, hcap, hmax, hA⟩ := hrd
  have HM := Lib.hid (rdN_max l)
  have HA := Lib.hid hA
  have hbad : (getG 0 0 l).2 = 0 → Hid (Int.ofNat 0 = ((rdN 18446744073709551615 (some l)).1 : Int) ∧ (rdN 18446744073709551615 (some l)).2 = none) := fun h0 => by
    rw [rdN_max, if_pos h0]; exact ⟨rfl, rfl⟩
  have HBAD := Lib.hid hbad
  clear hgv hbad hA
  go_enter Tryz.func84, Tryz.ntmps84
  go_wp2
  go_loop [3, 4] (fun n i => ∃ (k acc : Nat), n = .int .u64 acc ∧ i = .int .i64 k ∧ k ≤ 10 ∧ k ≤ l.length ∧ GL l k acc) (fun _ i => 10 - (intOf i).toNat)
  case atStart => exact ⟨0, 0, rfl, rfl, by omega, by omega, by simp, by simp⟩
  case round =>
    obtain ⟨k, acc, rfl, rfl, hL1, hL2, HG⟩ := hrel
    have HG' := Lib.hid HG
    clear HG
    by_cases hlt : k < l.length ∧ k < 10
    · obtain ⟨hlt1, hlt2⟩ := hlt
      obtain ⟨b, off, rfl, hbB, hcell⟩ := HA.out (by omega)
      have hc := hcell k hlt1
      obtain ⟨bk, hbk⟩ : ∃ bk : Nat, bk = l[k].toNat := ⟨_, rfl⟩
      rw [← hbk] at hc
      have hb256 : bk < 256 := by rw [hbk]; exact UInt8.toNat_lt l[k]
      have HK := Lib.hid hbk
      clear hcell hbk
      by_cases hA9 : k = 9 ∧ 1 < bk
      · obtain ⟨rfl, hb1⟩ := hA9
        have HZ := Lib.hid (GL_hi HG'.out hlt1 rfl (by have := HK.out; omega))
        go_wp2
        go_ret
        exact rs_bad HV.out (by rw [HZ.out])
      · by_cases hB0 : 0 < k ∧ bk = 0
        · obtain ⟨hk0, rfl⟩ := hB0
          have HZ := Lib.hid (GL_zero HG'.out hlt1 hlt2 hk0 HK.out.symm)
          by_cases hk9 : k = 9
          · subst hk9
            go_wp2
            go_ret
            exact rs_bad HV.out (by rw [HZ.out])
          · go_wp2
            go_ret
            exact rs_bad HV.out (by rw [HZ.out])
        · by_cases hlo : bk < 128
          · have HL := Lib.hid (GL_last HG'.out hlt1 hlt2 (by have := HK.out; omega) (by have := HK.out; omega) (by have := HK.out; omega))
            have HCut := Lib.hid (HR.out.cut (k := k + 1) (by omega))
            by_cases hck : cap = k + 1
            · subst hck
              have hll : l.length - (k + 1) = 0 := by omega
              have HLL := Lib.hid hll
              clear hll
              by_cases hk9 : k = 9
              · subst hk9
                obtain rfl : bk = 1 := by omega
                have hx := HL.out.1
                rw [← HK.out, top9] at hx
                have HX := Lib.hid hx
                clear hx
                go_wp2
                go_ret
                exact rs_good HV.out hg HX.out HL.out.2 (by have h1 := HLL.out; simpa [h1] using HCut.out)
              · have hx := HL.out.1
                rw [← HK.out] at hx
                have HX := Lib.hid hx
                clear hx
                go_wp2
                all_goals go_ret
                all_goals exact rs_good HV.out hg (by simpa using HX.out) HL.out.2 (by have h1 := HLL.out; simpa [h1] using HCut.out)
            · by_cases hk9 : k = 9
              · subst hk9
                obtain rfl : bk = 1 := by omega
                have hx := HL.out.1
                rw [← HK.out, top9] at hx
                have HX := Lib.hid hx
                clear hx
                go_wp2
                go_ret
                exact rs_good HV.out hg HX.out HL.out.2 (by simpa [hck] using HCut.out)
              · have hx := HL.out.1
                rw [← HK.out] at hx
                have HX := Lib.hid hx
                clear hx
                go_wp2
                all_goals go_ret
                all_goals exact rs_good HV.out hg (by simpa using HX.out) HL.out.2 (by simpa [hck] using HCut.out)
          · have hk9 : k ≠ 9 := by omega
            obtain ⟨acc', ha1, ha2⟩ := GL_more HG'.out hlt1 hlt2 hk9 (by have := HK.out; omega)
            rw [← HK.out] at ha1
            have HA1 := Lib.hid ha1
            have HA2 := Lib.hid ha2
            clear ha1 ha2
            go_wp2
            all_goals
              go_round
              case rel => exact ⟨k + 1, acc', by rw [HA1.out], by go_num, by omega, by omega, HA2.out⟩
              case measure => simp [intOf]; omega
    · have HZ := Lib.hid (GL_end HG'.out hlt hL1 hL2)
      by_cases hk10 : k = 10
      · subst hk10
        go_wp2
        go_ret
        exact rs_bad HV.out (by rw [HZ.out])
      · have hkl : k = l.length := by omega
        have hk1 : k < 10 := by omega
        have hk2 : ¬ k < l.length := by omega
        go_wp2
        go_ret
        exact rs_bad HV.out (by rw [HZ.out])
end Go.Proofs.YtipiplnhbecjeaaGreat

/- The document's own source: bytes, numbers, counts and texts. -/
namespace Go.Proofs.YtipiplnhbecjeaaGreat
set_option linter.unusedVariables false
set_option linter.unusedSimpArgs false
open Go.RowKit

/-- What of a source's block is wanted in a walk. -/
structure RCells (w : World) (g : Nat) (v : Value) (b : Bool) : Prop where
  c0 : w.cell? ⟨g, 0, none⟩ = some v
  c1 : w.cell? ⟨g, 1, none⟩ = some (.bool b)
  f0 : w.frozen? ⟨g, 0, none⟩ = false
  f1 : w.frozen? ⟨g, 1, none⟩ = false
theorem rcells {w : World} {g : Nat} {v : Value} {b : Bool} (h : w.heap[g]? = some (.cells #[v, .bool b] 50 (0, 0))) : RCells w g v b :=
  ⟨Go.Joins.cell_of_block h 0, Go.Joins.cell_of_block h 1, Go.Joins.unfrozen_of_block h 0, Go.Joins.unfrozen_of_block h 1⟩

set_option maxHeartbeats 1000000 in
set_option maxRecDepth 1000000 in
theorem rsbyte_any (g B : Nat) (st : Option (List UInt8)) (w : World) (h : RS w g B st) (hg : B ≤ g) :
    Calls Tryz.prog 51 #[.pointer (some ⟨g, 0, none⟩)] w fun e w' => e = .returned (.int .i64 (rdByte st).1) ∧ RS w' g B (rdByte st).2 ∧ Only w w' g := by
  rcases st with _ | l
  · obtain ⟨Au, nu, cu, hu⟩ := h
    obtain ⟨c0, c1, f0, f1⟩ := rcells hu
    have HU := Lib.hid hu
    clear hu
    go_enter Tryz.func51, Tryz.ntmps51
    go_wp2
    go_ret
    exact ⟨rfl, ⟨_, _, _, set_rs1 HU.out⟩, (Only.refl w g).set _ _⟩
  · obtain ⟨v, hv, hrd⟩ := h
    obtain ⟨c0, c1, f0, f1⟩ := rcells hv
    have HV := Lib.hid hv
    have HR := Lib.hid hrd
    obtain ⟨A, cap, rfl, hcap, hmax, hA⟩ := hrd
    clear hv
    rcases l with _ | ⟨b0, r⟩
    · clear hA
      go_enter Tryz.func51, Tryz.ntmps51
      go_wp2
      go_ret
      exact ⟨rfl, ⟨_, _, _, set_rs1 HV.out⟩, (Only.refl w g).set _ _⟩
    · obtain ⟨b, off, rfl, hbB, hcell⟩ := hA (by simp)
      have hc : w.cell? ⟨b, off, none⟩ = some (.int .u8 (b0.toNat : Int)) := hcell 0 (by simp)
      have hb256 : (b0.toNat : Int) < 256 := by have := UInt8.toNat_lt b0; omega
      have HCut := Lib.hid (HR.out.cut (k := 1) (by simp))
      have hmax1 := hmax.1
      simp only [List.length_cons] at hcap
      clear hcell hA hmax
      by_cases hck : cap = 1
      · subst hck
        have hl0 : Hid (r.length = 0) := by show r.length = 0; omega
        go_enter Tryz.func51, Tryz.ntmps51
        go_wp2
        go_ret
        exact ⟨rfl, ⟨_, set_rs0 HV.out, (by have h1 := HCut.out; have h2 := hl0.out; simpa [h2] using h1 : Rd w B _ r).keep ((Below.refl _ _).setCell hg _)⟩, (Only.refl w g).set _ _⟩
      · go_enter Tryz.func51, Tryz.ntmps51
        go_wp2
        go_ret
        exact ⟨rfl, ⟨_, set_rs0 HV.out, (by have h1 := HCut.out; simpa [hck] using h1 : Rd w B _ r).keep ((Below.refl _ _).setCell hg _)⟩, (Only.refl w g).set _ _⟩

theorem zag_even (n : Nat) (h : n % 2 = 0) : zag n = ((n / 2 : Nat) : Int) := by unfold zag; rw [if_neg (by omega)]
theorem zag_odd (n : Nat) (h : ¬ n % 2 = 0) : zag n = -((n / 2 : Nat) : Int) - 1 := by unfold zag; rw [if_pos (by omega)]
set_option maxHeartbeats 1000000 in
set_option maxRecDepth 1000000 in
theorem rsint_any (g B : Nat) (st : Option (List UInt8)) (w : World) (h : RS w g B st) (hg : B ≤ g) :
    Calls Tryz.prog 108 #[.pointer (some ⟨g, 0, none⟩)] w fun e w' => e = .returned (.int .i64 (rdInt st).1) ∧ RS w' g B (rdInt st).2 ∧ Only w w' g := by
  rcases st with _ | l
  · obtain ⟨Au, nu, cu, hu⟩ := h
    obtain ⟨c0, c1, f0, f1⟩ := rcells hu
    have HU := Lib.hid hu
    clear hu
    go_enter Tryz.func108, Tryz.ntmps108
    go_wp2_with fail
    go_ret
    exact ⟨rfl, ⟨_, _, _, HU.out⟩, Only.refl w g⟩
  · have H := Lib.hid h
    obtain ⟨v, hv, hrd⟩ := h
    obtain ⟨c0, c1, f0, f1⟩ := rcells hv
    obtain ⟨x, st', hr⟩ : ∃ x st', rdN 18446744073709551615 (some l) = (x, st') := ⟨_, _, rfl⟩
    have hx := rdN_lt 18446744073709551615 (some l)
    rw [hr] at hx
    have HI : Hid (rdInt (some l) = (zag x, st')) := by show rdInt (some l) = (zag x, st'); unfold rdInt; rw [hr]
    have HR := Lib.hid hr
    have hx' : (x : Int) / 2 ≤ 9223372036854775807 := by simp only [] at hx; omega
    clear hv hrd hr hx
    by_cases hev : x % 2 = 0
    · have he : ((x : Int) % 2 == 0) = true := by simp; omega
      go_enter Tryz.func108, Tryz.ntmps108
      go_wp2_with fail
      refine (rsgroups_some g B l _ H.out hg).mono ?_
      rw [HR.out]
      rintro e w1 ⟨rfl, hs, ho⟩
      go_wp2_with fail
      go_ret
      rw [HI.out]
      exact ⟨ret_i64 (by rw [zag_even x hev]; omega), hs, ho⟩
    · have he : ((x : Int) % 2 == 0) = false := by simp; omega
      go_enter Tryz.func108, Tryz.ntmps108
      go_wp2_with fail
      refine (rsgroups_some g B l _ H.out hg).mono ?_
      rw [HR.out]
      rintro e w1 ⟨rfl, hs, ho⟩
      go_wp2_with fail
      go_ret
      rw [HI.out]
      exact ⟨ret_i64 (by rw [zag_odd x hev]; omega), hs, ho⟩

/-- The document's count: from the groups. -/
theorem rdCount_bad {n : Int} {l : List UInt8} (h : (rdN 18446744073709551615 (some l)).2 = none ∨ 4611686018427387904 < (rdN 18446744073709551615 (some l)).1 ∨ n < ((rdN 18446744073709551615 (some l)).1 : Int)) (hn : (rdN 18446744073709551615 (some l)).2 = none → (rdN 18446744073709551615 (some l)).1 = 0) :
    rdCount n (some l) = (0, none) := by
  unfold rdCount
  split
  · rfl
  · next h0 =>
    rw [rdN_max] at h
    simp only [rdN]
    by_cases hz : (getG 0 0 l).2 = 0
    · rw [if_pos (Or.inl hz)]
    · rw [if_neg hz] at h
      rw [if_pos]
      refine .inr ?_
      unfold mc
      rcases h with h | h | h
      · cases h
      · split <;> (simp only [] at h; omega)
      · split <;> (simp only [] at h; omega)
theorem rdCount_good {n : Int} {l r : List UInt8} (h1 : (rdN 18446744073709551615 (some l)).2 = some r) (h2 : (rdN 18446744073709551615 (some l)).1 ≤ 4611686018427387904) (h3 : ((rdN 18446744073709551615 (some l)).1 : Int) ≤ n) :
    rdCount n (some l) = rdN 18446744073709551615 (some l) := by
  unfold rdCount
  rw [if_neg (by omega), rdN_max]
  rw [rdN_max] at h1 h2 h3
  by_cases hz : (getG 0 0 l).2 = 0
  · rw [if_pos hz] at h1; cases h1
  · rw [if_neg hz] at h2 h3 ⊢
    simp only [rdN]
    rw [if_neg]
    unfold mc
    simp only [] at h2 h3
    split <;> omega
end Go.Proofs.YtipiplnhbecjeaaGreat

/- The document's own source, on: counts and texts, what is left, whether all is read. -/
namespace Go.Proofs.YtipiplnhbecjeaaGreat
set_option linter.unusedVariables false
set_option linter.unusedSimpArgs false
open Go.RowKit

def leftOf : Option (List UInt8) → Int
  | none => 0
  | some l => l.length
def doneOf : Option (List UInt8) → Int
  | none => 10
  | some l => if l.isEmpty then 0 else 10
theorem rdN_none (m : Nat) (st : Option (List UInt8)) (h : (rdN m st).2 = none) : (rdN m st).1 = 0 := by
  cases st with
  | none => rfl
  | some l =>
    simp only [rdN] at h ⊢
    split at h
    · next hc => rw [if_pos hc]
    · cases h

set_option maxHeartbeats 1000000 in
set_option maxRecDepth 1000000 in
theorem rscount_any (g B : Nat) (n : Int) (st : Option (List UInt8)) (w : World) (h : RS w g B st) (hg : B ≤ g) (hn : n ≤ 9223372036854775807) :
    Calls Tryz.prog 53 #[.pointer (some ⟨g, 0, none⟩), .int .i64 n] w fun e w' => e = .returned (.int .i64 (rdCount n st).1) ∧ RS w' g B (rdCount n st).2 ∧ Only w w' g := by
  rcases st with _ | l
  · obtain ⟨Au, nu, cu, hu⟩ := h
    obtain ⟨c0, c1, f0, f1⟩ := rcells hu
    have HU := Lib.hid hu
    have HR : Hid (rdCount n none = (0, none)) := by show rdCount n none = (0, none); unfold rdCount; split <;> rfl
    clear hu
    go_enter Tryz.func53, Tryz.ntmps53
    go_wp2_with fail
    go_ret
    rw [HR.out]
    exact ⟨rfl, ⟨_, _, _, HU.out⟩, Only.refl w g⟩
  · have H := Lib.hid h
    obtain ⟨v, hv, hrd⟩ := h
    obtain ⟨c0, c1, f0, f1⟩ := rcells hv
    obtain ⟨A, cap, rfl, _, _, _⟩ := hrd
    obtain ⟨x, st', hr⟩ : ∃ x st', rdN 18446744073709551615 (some l) = (x, st') := ⟨_, _, rfl⟩
    have hx := rdN_lt 18446744073709551615 (some l)
    have hx0 := rdN_none 18446744073709551615 (some l)
    have hbad := rdCount_bad (n := n) (l := l)
    have hgood := fun r => rdCount_good (n := n) (l := l) (r := r)
    rw [hr] at hx hx0 hbad hgood
    have HR := Lib.hid hr
    have HX := Lib.hid hx
    have HX0 := Lib.hid hx0
    have HBAD := Lib.hid hbad
    have HGOOD := fun r => Lib.hid (hgood r)
    clear hv hr hx hx0 hbad hgood
    rcases st' with _ | r
    · have HC := Lib.hid (HBAD.out (.inl rfl) HX0.out)
      go_enter Tryz.func53, Tryz.ntmps53
      go_wp2_with fail
      refine (rsgroups_some g B l _ H.out hg).mono ?_
      rw [HR.out]
      rintro e w1 ⟨rfl, ⟨Au, nu, cu, hu⟩, ho⟩
      obtain ⟨d0, d1, e0, e1⟩ := rcells hu
      have HU := Lib.hid hu
      clear hu c0 c1 f0 f1
      go_wp2_with fail
      go_ret
      rw [HC.out]
      exact ⟨rfl, ⟨_, _, _, set_rs1 (set_rs0 HU.out)⟩, (ho.set _ _).set _ _⟩
    · by_cases hbig : 4611686018427387904 < x
      · have HC := Lib.hid (HBAD.out (.inr (.inl hbig)) HX0.out)
        go_enter Tryz.func53, Tryz.ntmps53
        go_wp2_with fail
        refine (rsgroups_some g B l _ H.out hg).mono ?_
        rw [HR.out]
        rintro e w1 ⟨rfl, ⟨u, hu, hrd⟩, ho⟩
        obtain ⟨d0, d1, e0, e1⟩ := rcells hu
        have HU := Lib.hid hu
        clear hu c0 c1 f0 f1 hrd
        go_wp2_with fail
        go_ret
        rw [HC.out]
        exact ⟨rfl, ⟨_, _, _, set_rs1 (set_rs0 HU.out)⟩, (ho.set _ _).set _ _⟩
      · have hx2 : (x : Int) ≤ 4611686018427387904 := by omega
        by_cases hmost : n < (x : Int)
        · have HC := Lib.hid (HBAD.out (.inr (.inr hmost)) HX0.out)
          go_enter Tryz.func53, Tryz.ntmps53
          go_wp2_with fail
          refine (rsgroups_some g B l _ H.out hg).mono ?_
          rw [HR.out]
          rintro e w1 ⟨rfl, ⟨u, hu, hrd⟩, ho⟩
          obtain ⟨d0, d1, e0, e1⟩ := rcells hu
          have HU := Lib.hid hu
          clear hu c0 c1 f0 f1 hrd
          go_wp2_with fail
          go_ret
          rw [HC.out]
          exact ⟨rfl, ⟨_, _, _, set_rs1 (set_rs0 HU.out)⟩, (ho.set _ _).set _ _⟩
        · have HC := Lib.hid ((HGOOD r).out rfl (by simp only []; omega) (by simp only []; omega))
          go_enter Tryz.func53, Tryz.ntmps53
          go_wp2_with fail
          refine (rsgroups_some g B l _ H.out hg).mono ?_
          rw [HR.out]
          rintro e w1 ⟨rfl, ⟨u, hu, hrd⟩, ho⟩
          obtain ⟨d0, d1, e0, e1⟩ := rcells hu
          have HU : Hid (RS w1 g B (some r)) := ⟨u, hu, hrd⟩
          clear hu c0 c1 f0 f1 hrd
          go_wp2_with fail
          go_ret
          rw [HC.out]
          exact ⟨rfl, HU.out, ho⟩

set_option maxHeartbeats 1000000 in
set_option maxRecDepth 1000000 in
theorem rsleft_any (g B : Nat) (st : Option (List UInt8)) (w : World) (h : RS w g B st) :
    Calls Tryz.prog 24 #[.pointer (some ⟨g, 0, none⟩)] w fun e w' => e = .returned (.int .i64 (leftOf st)) ∧ w = w' := by
  rcases st with _ | l
  · obtain ⟨Au, nu, cu, hu⟩ := h
    obtain ⟨c0, c1, f0, f1⟩ := rcells hu
    clear hu
    go_enter Tryz.func24, Tryz.ntmps24
    go_wp2_with fail
    go_ret
    exact ⟨rfl, rfl⟩
  · obtain ⟨v, hv, hrd⟩ := h
    obtain ⟨c0, c1, f0, f1⟩ := rcells hv
    obtain ⟨A, cap, rfl, hcap, hmax, hA⟩ := hrd
    clear hv hA
    go_enter Tryz.func24, Tryz.ntmps24
    go_wp2_with fail
    go_ret
    exact ⟨rfl, rfl⟩
end Go.Proofs.YtipiplnhbecjeaaGreat

/- The document's own source: texts. -/
namespace Go.Proofs.YtipiplnhbecjeaaGreat
set_option linter.unusedVariables false
set_option linter.unusedSimpArgs false
open Go.RowKit

set_option maxRecDepth 100000 in
/-- A slice that came in, cut and made a string. -/
theorem Rd.conv {w : World} {B n cap : Nat} {A : Option Addr} {l : List UInt8} (h : Rd w B (.slice A l.length cap) l) (hn : n ≤ l.length) (c : Nat) :
    (convert 39 9 (.slice A n c)).run Tryz.prog w = .ok (.string ⟨(l.take n).toArray⟩) w := by
  obtain ⟨A', cap', hv, _, _, h1⟩ := h
  injection hv with hA _ _
  subst hA
  rcases Nat.eq_zero_or_pos n with rfl | hp
  · rcases A with _ | a
    · rw [run_convert_bytes_nil w 39 5 Tryz.underlying39 Tryz.underlying5 0 c 9 Tryz.underlying9]
      rfl
    · exact run_convert_bytes_back w 39 9 5 a c [] Tryz.underlying39 Tryz.underlying5 Tryz.underlying9 (fun j hj => absurd hj (by simp))
  · obtain ⟨b, off, rfl, _, hcell⟩ := h1 (by omega)
    rw [run_convert_bytes_arg w 39 5 Tryz.underlying39 Tryz.underlying5 b off n c ((l.take n).map fun b => (b.toNat : Int)) (by simp; omega) ?_ 9 Tryz.underlying9, strOfNums_bytes]
    intro i hi
    rw [hcell i (by omega)]
    have hi2 : i < l.length := by omega
    simp [List.getElem?_map, List.getElem?_eq_getElem hi2, List.getD, List.getElem?_take, hi]

/-- The slice behind k elements, whatever it is. -/
theorem Rd.cutAny {w : World} {B cap k : Nat} {A : Option Addr} {l : List UInt8} (h : Rd w B (.slice A l.length cap) l) (hk : k ≤ l.length) :
    Rd w B (.slice (if cap = k then A else A.map (·.add k)) (l.length - k) (cap - k)) (l.drop k) := by
  obtain ⟨A', cap', hv, hc, hm, h1⟩ := h
  injection hv with hA _ hcap
  subst hA; subst hcap
  refine ⟨_, _, by rw [List.length_drop], by rw [List.length_drop]; omega, ⟨by omega, fun h => ?_⟩, fun hl => ?_⟩
  · split at h
    · omega
    · rcases A with _ | a
      · have := hm.2 rfl; omega
      · cases h
  · rw [List.length_drop] at hl
    obtain ⟨b, off, rfl, hB, hcell⟩ := h1 (by omega)
    rw [if_neg (by omega)]
    refine ⟨b, off + k, by simp only [Option.map_some, Addr.add]; split <;> simp_all, hB, fun i hi => ?_⟩
    rw [List.length_drop] at hi
    have := hcell (k + i) (by omega)
    rw [List.getElem_drop, Nat.add_assoc]
    exact this

set_option maxHeartbeats 1000000 in
set_option maxRecDepth 1000000 in
theorem rstext_any (g B : Nat) (n : Int) (st : Option (List UInt8)) (w : World) (h : RS w g B st) (hg : B ≤ g) (hn : n ≤ 9223372036854775807) :
    Calls Tryz.prog 85 #[.pointer (some ⟨g, 0, none⟩), .int .i64 n] w fun e w' => e = .returned (.string ⟨(rdText n st).1.toArray⟩) ∧ RS w' g B (rdText n st).2 ∧ Only w w' g := by
  have H := Lib.hid h
  obtain ⟨A0, n0, c0, b0, hv⟩ : ∃ A n c b, w.heap[g]? = some (.cells #[.slice A n c, .bool b] 50 (0, 0)) := by
    rcases st with _ | l
    · obtain ⟨A, n, c, hu⟩ := h; exact ⟨_, _, _, _, hu⟩
    · obtain ⟨v, hv, A, c, rfl, _⟩ := h; exact ⟨_, _, _, _, hv⟩
  obtain ⟨k0, k1, e0, e1⟩ := rcells hv
  obtain ⟨m, st', hr⟩ : ∃ m st', rdCount n st = (m, st') := ⟨_, _, rfl⟩
  have HN := Lib.hid hn
  have HR := Lib.hid hr
  have hm0 : st' = none → m = 0 := fun h0 => by
    have h1 : (rdCount n st).2 = none := by rw [hr]; exact h0
    have h2 : (rdCount n st).1 = 0 := by
      unfold rdCount at h1 ⊢
      split at h1
      · next hc => rw [if_pos hc]
      · next hc => rw [if_neg hc]; exact rdN_none _ _ h1
    rw [hr] at h2; exact h2
  clear hv h hn
  rcases st' with _ | r
  · have hm := hm0 rfl
    subst hm
    have HT : Hid (rdText n st = ([], none)) := by show rdText n st = ([], none); unfold rdText; rw [hr, if_pos rfl]
    clear hr hm0
    go_enter Tryz.func85, Tryz.ntmps85
    go_wp2_with fail
    refine (rscount_any g B n st _ H.out hg HN.out).mono ?_
    rw [HR.out]
    rintro e w1 ⟨rfl, ⟨Au, nu, cu, hu⟩, ho⟩
    obtain ⟨d0, d1, f0, f1⟩ := rcells hu
    have HU := Lib.hid hu
    clear hu k0 k1 e0 e1
    go_wp2_with fail
    go_ret
    rw [HT.out]
    exact ⟨rfl, ⟨_, _, _, set_rs1 (set_rs0 HU.out)⟩, (ho.set _ _).set _ _⟩
  · by_cases hl : r.length < m
    · have HT : Hid (rdText n st = ([], none)) := by
        show rdText n st = ([], none)
        unfold rdText; rw [hr, if_neg (by omega)]
        show (if r.length < m then _ else _) = _
        rw [if_pos hl]
      clear hr hm0
      go_enter Tryz.func85, Tryz.ntmps85
      go_wp2_with fail
      refine (rscount_any g B n st _ H.out hg HN.out).mono ?_
      rw [HR.out]
      rintro e w1 ⟨rfl, ⟨v, hu, A, cap, rfl, _⟩, ho⟩
      obtain ⟨d0, d1, f0, f1⟩ := rcells hu
      have HU := Lib.hid hu
      clear hu k0 k1 e0 e1
      go_wp2_with fail
      go_ret
      rw [HT.out]
      exact ⟨rfl, ⟨_, _, _, set_rs1 (set_rs0 HU.out)⟩, (ho.set _ _).set _ _⟩
    · have HT : Hid (rdText n st = (r.take m, some (r.drop m))) := by
        show rdText n st = (r.take m, some (r.drop m))
        unfold rdText; rw [hr]
        by_cases h0 : m = 0
        · subst h0; rw [if_pos rfl]; simp
        · rw [if_neg h0]
          show (if r.length < m then _ else _) = _
          rw [if_neg hl]
      have hml : m ≤ r.length := by omega
      clear hr hm0
      go_enter Tryz.func85, Tryz.ntmps85
      go_wp2_with fail
      refine (rscount_any g B n st _ H.out hg HN.out).mono ?_
      rw [HR.out]
      rintro e w1 ⟨rfl, ⟨v, hu, hrd⟩, ho⟩
      obtain ⟨d0, d1, f0, f1⟩ := rcells hu
      have HRD := Lib.hid hrd
      have HU := Lib.hid hu
      obtain ⟨A, cap, rfl, hcap, hmax, _⟩ := hrd
      have hmax1 := hmax.1
      have hcv := HRD.out.conv hml
      have HCut := Lib.hid (HRD.out.cutAny hml)
      clear hu k0 k1 e0 e1 hmax
      by_cases hck : cap = m
      · subst hck
        have HLL : Hid (r.length - cap = 0) := by show r.length - cap = 0; omega
        go_wp2_with fail
        go_ret
        rw [HT.out]
        exact ⟨rfl, ⟨_, set_rs0 HU.out, (by have h1 := HLL.out; simpa [h1] using HCut.out : Rd w1 B _ (r.drop cap)).keep ((Below.refl _ _).setCell hg _)⟩, ho.set _ _⟩
      · go_wp2_with fail
        go_ret
        rw [HT.out]
        exact ⟨rfl, ⟨_, set_rs0 HU.out, (by simpa [hck] using HCut.out : Rd w1 B _ (r.drop m)).keep ((Below.refl _ _).setCell hg _)⟩, ho.set _ _⟩
end Go.Proofs.YtipiplnhbecjeaaGreat
