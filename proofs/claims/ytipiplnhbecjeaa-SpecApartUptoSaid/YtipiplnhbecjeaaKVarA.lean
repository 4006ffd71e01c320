/- What each function of the package that lays numbers, counts and texts as bytes does, call by call. -/
import Derived.Test.YtipiplnhbecjeaaKMath
import Derived.Test.YtipiplnhbecjeaaRows
import Derived.WalkKit
import Derived.WalkSpells
import Derived.WalkLawsBesides
import Derived.Lib.Hide
import Derived.Lib.AppendStr
import Derived.Lib.SmallJoins
import Derived.Laws.BitsAllLaws
import Derived.Laws.BytesArg
import Derived.Laws.DeepNot64
namespace Go.Proofs.Ytipiplnhbecjeaa
set_option linter.unusedVariables false
set_option linter.unusedSimpArgs false
open Go.RowKit

theorem Try.infoU8 : (Try.prog.info? 5).map (fun i => (i.zero, i.size, i.bytes)) = some (some (.int .u8 0), 1, 1) := by kernel_rfl

theorem u64_max : IntKind.u64.max = 18446744073709551615 := by decide
theorem xor_all (a : Nat) (ha : a < 18446744073709551616) : 18446744073709551615 ^^^ a = 18446744073709551615 - a := by
  have h : (BitVec.allOnes 64 ^^^ BitVec.ofNat 64 a) = ~~~ (BitVec.ofNat 64 a) := by
    rw [BitVec.allOnes_xor]
  have h2 := congrArg BitVec.toNat h
  rw [BitVec.toNat_xor, BitVec.toNat_allOnes, BitVec.toNat_not, BitVec.toNat_ofNat, Nat.mod_eq_of_lt ha] at h2
  exact h2
theorem fold_neg (x : Int) (h1 : -9223372036854775808 ≤ x) (h2 : x < 0) :
    bits .xor .u64 IntKind.u64.max (IntKind.u64.wrap (IntKind.u64.wrap x * 2)) = (zig x : Int) := by
  have e : IntKind.u64.wrap (IntKind.u64.wrap x * 2) = ((2 * x + 18446744073709551616).toNat : Int) := by
    rw [IntKind.wrap_u64, IntKind.wrap_u64]; omega
  have hm : IntKind.u64.max = ((18446744073709551615 : Nat) : Int) := u64_max
  rw [e, hm, u64_xor_nat _ _ (by omega) (by omega), xor_all _ (by omega)]
  unfold zig; rw [if_pos h2]; omega
theorem fold_pos (x : Int) (h1 : 0 ≤ x) (h2 : x ≤ 9223372036854775807) :
    IntKind.u64.wrap (IntKind.u64.wrap x * 2) = (zig x : Int) := by
  rw [IntKind.wrap_u64, IntKind.wrap_u64]; unfold zig; rw [if_neg (by omega)]; omega
theorem ret_u64 {a b : Int} (h : a = b) : Ending.returned (.int .u64 a) = .returned (.int .u64 b) := by rw [h]
theorem ret_i64 {a b : Int} (h : a = b) : Ending.returned (.int .i64 a) = .returned (.int .i64 b) := by rw [h]

set_option maxHeartbeats 400000 in
theorem fold_any (x : Int) (w : World) (h1 : -9223372036854775808 ≤ x) (h2 : x ≤ 9223372036854775807) :
    Calls Try.prog 99 #[.int .i64 x] w fun e w' => e = .returned (.int .u64 (zig x)) ∧ w = w' := by
  have H1 := Lib.hid h1
  have H2 := Lib.hid h2
  clear h1 h2
  go_enter Try.func99, Try.ntmps99
  go_wp2
  · have hx : x < 0 := by assumption
    go_ret
    exact ⟨ret_u64 (fold_neg x H1.out hx), rfl⟩
  · have hx : 0 ≤ x := by assumption
    go_ret
    exact ⟨ret_u64 (fold_pos x hx H2.out), rfl⟩

theorem unfold_even (n : Nat) (hn : n < 18446744073709551616) (h : ((n : Int) % 2 == 1) = false) : wrap64 ((n : Int) / 2) = zag n := by
  have h' : ¬ n % 2 = 1 := by simp at h; omega
  unfold zag wrap64; rw [if_neg h']; omega
theorem unfold_odd (n : Nat) (hn : n < 18446744073709551616) (h : ((n : Int) % 2 == 1) = true) : bits .xor .i64 (-1) (wrap64 ((n : Int) / 2)) = zag n := by
  have h' : n % 2 = 1 := by simp at h; omega
  have e : wrap64 ((n : Int) / 2) = ((n / 2 : Nat) : Int) := by unfold wrap64; omega
  rw [e, i64_not _ (by omega)]
  unfold zag; rw [if_pos h']; omega
set_option maxHeartbeats 400000 in
theorem unfold_any (n : Nat) (w : World) (hn : n < 18446744073709551616) :
    Calls Try.prog 102 #[.int .u64 n] w fun e w' => e = .returned (.int .i64 (zag n)) ∧ w = w' := by
  have H1 := Lib.hid hn
  clear hn
  go_enter Try.func102, Try.ntmps102
  go_wp2
  · have hx : ((n : Int) % 2 == 1) = true := by assumption
    go_ret
    exact ⟨ret_i64 (unfold_odd n H1.out hx), rfl⟩
  · have hx : ((n : Int) % 2 == 1) = false := by assumption
    go_ret
    exact ⟨ret_i64 (unfold_even n H1.out hx), rfl⟩

/-- A slice of bytes that the call owns, from block B on. -/
def OwnB (w : World) (B : Nat) (v : Value) (l : List UInt8) : Prop := w.ownsRow B 5 1 v l.length (bcells l)

theorem u8_or128 (n : Nat) : bits .or .u8 ((n : Int) % 128) 128 = ((UInt8.ofNat (n % 128 + 128)).toNat : Int) := by
  rw [ofNat_toNat _ (by omega)]
  have e : ((n : Int) % 128) = ((n % 128 : Nat) : Int) := by omega
  rw [e]
  have h2 : (128 : Int) = ((128 : Nat) : Int) := rfl
  rw [h2, u8_or_nat _ _ (by omega) (by omega), Nat.or_comm, nat_join 7 128 (n % 128) (by decide) (by simp; omega)]
  omega

/-- Behind an append of one byte. -/
theorem OwnB_step {w1 : World} {B : Nat} {v' : Value} {l : List UInt8} {b : UInt8} {u : Int} (hu : u = (b.toNat : Int))
    (h : w1.ownsRow B 5 1 v' (l.length + 1) (bcells l ++ [Value.int .u8 u])) : OwnB w1 B v' (l ++ [b]) := by
  subst hu
  unfold OwnB
  rw [bcells_append, bcells_one, List.length_append]
  exact h
theorem below_app {B : Nat} {w wr w1 : World} {v : Value} {l : List UInt8} {o : Obj} (hb : Below B w wr) (hB : B ≤ w.heap.size) (hown : OwnB wr B v l) (hg : (wr.alloc o).grownBy w1 v.ownBlock) : Below B w w1 :=
  (hb.alloc (Nat.le_trans hB hb.size) o).grown hg (by have := hb.size; simp; omega) (fun k hk => (hown.lt k hk).1)

theorem u8_last (m : Nat) (h : m < 128) : (m : Int) = ((UInt8.ofNat m).toNat : Int) := by
  rw [ofNat_toNat _ (by omega)]

set_option maxHeartbeats 1000000 in
set_option maxRecDepth 1000000 in
theorem puts_any (B : Nat) (v : Value) (xs : List UInt8) (n : Nat) (w : World) (hn : n < 18446744073709551616) (hown : OwnB w B v xs) (hB : B ≤ w.heap.size) (hx : xs.length ≤ 140737488355300) :
    Calls Try.prog 69 #[v, .int .u64 n] w fun e w' => ∃ v', e = .returned v' ∧ OwnB w' B v' (xs ++ grp n) ∧ Below B w w' := by
  obtain ⟨i0, hi, hz0, hz1, hz2⟩ := info_parts Try.infoU8
  have HN := Lib.hid hn
  have HX := Lib.hid hx
  clear hn hx
  go_enter Try.func69, Try.ntmps69
  go_wp2
  go_loopw [0, 1] (fun v1 n1 wr => ∃ (m : Nat) (acc : List UInt8), n1 = .int .u64 m ∧ Hid (m < 18446744073709551616 ∧ acc ++ grp m = grp n) ∧ OwnB wr B v1 (xs ++ acc) ∧ Below B w wr) (fun _ n1 _ => (intOf n1).toNat)
  case atStart => exact ⟨n, [], rfl, ⟨HN.out, rfl⟩, by simpa using hown, Below.refl _ _⟩
  case round =>
    obtain ⟨m, acc, rfl, HM, hown1, hbel⟩ := hrel
    have hal : acc.length ≤ 11 := by
      have h1 := congrArg List.length HM.out.2
      have := (grp_length n).1
      simp at h1; omega
    have hsz := hbel.size
    by_cases hm : 128 ≤ m
    · have hown2 : wr.ownsRow B 5 1 _ (xs ++ acc).length (bcells (xs ++ acc)) := hown1
      go_wp2_with (at_builtin; go_must (refine wpList_append_own _ rfl _ _ 39 rfl B 5 i0 (.int .u8 0) 1 1 Try.underlying39 hi hz0 hz1 hz2 rfl (by decide) _ _ _ rfl (hown2.alloc _) ⟨wr.heap.size, 0, none⟩ 1 1 [.int .u8 (bits .or .u8 ((m : Int) % 128) 128)] rfl rfl ?c1 ?c2 ?c3 ?c4 ?c5 ?_))
      case c1 => exact cell_one_new _ _ _
      case c2 => intro u hu; simp at hu; subst hu; rfl
      case c3 => have := HX.out; rw [List.length_append]; unfold maxLen; omega
      case c4 => have := HX.out; rw [List.length_append]; omega
      case c5 => simp; omega
      intro v2 w2 hown3 hg _
      have hb2 := below_app hbel hB hown1 hg
      have hs2 := OwnB_step (l := xs ++ acc) (u8_or128 m) (by rw [List.length_append]; exact hown3)
      clear hown3 hg hown2 hown1
      go_wp2
      go_roundw
      case rel => exact ⟨m / 128, acc ++ [UInt8.ofNat (m % 128 + 128)], by go_num, ⟨by have := HM.out.1; omega, by
        rw [List.append_assoc, List.singleton_append, ← grp_large m hm HM.out.1]; exact HM.out.2⟩, by rw [← List.append_assoc]; exact hs2, hb2⟩
      case measure => simp [intOf]; omega
    · have hown2 : wr.ownsRow B 5 1 _ (xs ++ acc).length (bcells (xs ++ acc)) := hown1
      have hm' : m < 128 := by omega
      go_wp2_with (at_builtin; go_must (refine wpList_append_own _ rfl _ _ 39 rfl B 5 i0 (.int .u8 0) 1 1 Try.underlying39 hi hz0 hz1 hz2 rfl (by decide) _ _ _ rfl (hown2.alloc _) ⟨wr.heap.size, 0, none⟩ 1 1 [.int .u8 (m : Int)] rfl rfl ?d1 ?d2 ?d3 ?d4 ?d5 ?_))
      case d1 => exact cell_one_new _ _ _
      case d2 => intro u hu; simp at hu; subst hu; rfl
      case d3 => have := HX.out; rw [List.length_append]; unfold maxLen; omega
      case d4 => have := HX.out; rw [List.length_append]; omega
      case d5 => simp; omega
      intro v2 w2 hown3 hg _
      have hb2 := below_app hbel hB hown1 hg
      have hs2 := OwnB_step (l := xs ++ acc) (u8_last m hm') (by rw [List.length_append]; exact hown3)
      clear hown3 hg hown2 hown1
      go_wp2
      go_ret
      exact ⟨_, rfl, by rw [← HM.out.2, grp_small m hm', ← List.append_assoc]; exact hs2, hb2⟩
end Go.Proofs.Ytipiplnhbecjeaa

/- The codes of numbers, counts and texts, by the program and by the document's own answers, call by call. -/
namespace Go.Proofs.Ytipiplnhbecjeaa
set_option linter.unusedVariables false
set_option linter.unusedSimpArgs false
open Go.RowKit

theorem OwnB.below {w w' : World} {B : Nat} {v : Value} {l : List UInt8} (h : OwnB w B v l) (hb : Below w.heap.size w w') : OwnB w' B v l := by
  obtain ⟨h1, h2⟩ := h
  refine ⟨h1, ?_⟩
  rcases h2 with h2 | ⟨g, cap, cur, hv, hg, hh, r⟩
  · exact Or.inl h2
  · refine Or.inr ⟨g, cap, cur, hv, hg, ?_, r⟩
    have hlt : g < w.heap.size := (Array.getElem?_eq_some_iff.1 hh).1
    rw [hb.block g hlt]; exact hh
theorem OwnB.base {w : World} {B B' : Nat} {v : Value} {l : List UInt8} (h : OwnB w B v l) (hb : B' ≤ B) : OwnB w B' v l := Go.Joins.ownsRow_le h hb
/-- Its shape. -/
theorem OwnB.shape {w : World} {B : Nat} {v : Value} {l : List UInt8} (h : OwnB w B v l) (hl : 1 ≤ l.length) : ∃ g cap, v = .slice (some ⟨g, 0, none⟩) l.length cap ∧ B ≤ g ∧ g < w.heap.size ∧ l.length ≤ cap := by
  rcases h.2 with ⟨_, h2⟩ | ⟨g, cap, cur, hv, hg, hh, hc, _⟩
  · omega
  · exact ⟨g, cap, hv, hg, (Array.getElem?_eq_some_iff.1 hh).1, hc⟩
/-- Bytes as a string. -/
theorem strOfNums_bytes (l : List UInt8) : strOfNums (l.map fun b => (b.toNat : Int)) = ⟨l.toArray⟩ := by
  unfold strOfNums
  congr 2
  rw [List.map_map]
  conv => rhs; rw [← List.map_id l]
  apply List.map_congr_left
  intro b _
  simp
theorem OwnB.conv {w : World} {B : Nat} {v : Value} {l : List UInt8} (h : OwnB w B v l) :
    (convert 39 9 v).run Try.prog w = .ok (.string ⟨l.toArray⟩) w := by
  rcases h.2 with ⟨rfl, h2⟩ | ⟨g, cap, cur, rfl, hg, hh, hc, _, hcs, ht⟩
  · have hl : l = [] := List.eq_nil_of_length_eq_zero h2
    subst hl
    rw [run_convert_bytes_nil w 39 5 Try.underlying39 Try.underlying5 0 0 9 Try.underlying9]
    rfl
  · have h' : w.ownsRow B 5 1 (.slice (some ⟨g, 0, none⟩) l.length cap) l.length (bcells l) := h
    rw [run_convert_bytes_arg w 39 5 Try.underlying39 Try.underlying5 g 0 l.length cap (l.map fun b => (b.toNat : Int)) (by simp) ?_ 9 Try.underlying9, strOfNums_bytes]
    intro i hi
    rw [Nat.zero_add, h'.cellAt i (by omega)]
    simp [bcells, List.getElem?_map, List.getElem?_eq_getElem hi, List.getD]

/-- A call that answers bytes of its own. -/
def Gives (l : List UInt8) (w : World) (e : Ending) (w' : World) : Prop := ∃ v, e = .returned v ∧ OwnB w' w.heap.size v l ∧ Below w.heap.size w w'

set_option maxHeartbeats 400000 in
theorem int_any (x : Int) (w : World) (h1 : -9223372036854775808 ≤ x) (h2 : x ≤ 9223372036854775807) :
    Calls Try.prog 86 #[.int .i64 x] w (Gives (grp (zig x)) w) := by
  have HZ := Lib.hid (zig_lt x h1 h2)
  have H1 := Lib.hid h1
  have H2 := Lib.hid h2
  clear h1 h2
  go_enter Try.func86, Try.ntmps86
  go_wp2_with fail
  refine (fold_any x _ H1.out H2.out).mono ?_
  rintro e w' ⟨rfl, rfl⟩
  go_wp2_with fail
  refine (puts_any w.heap.size _ [] _ _ HZ.out (World.ownsRow_nil _ _ _ _) (Nat.le_refl _) (by simp)).mono ?_
  rintro e w1 ⟨v, rfl, hv, hb⟩
  go_wp2_with fail
  go_ret
  exact ⟨_, rfl, by simpa using hv, hb⟩

/-- A count's answer: bytes of its own and no error. -/
def Counts (n : Int) (w : World) (e : Ending) (w' : World) : Prop :=
  (0 ≤ n ∧ n ≤ 4611686018427387904 ∧ ∃ v, e = .returned (.tuple #[v, .int .i64 0]) ∧ OwnB w' w.heap.size v (grp n.toNat) ∧ Below w.heap.size w w') ∨
  ((n < 0 ∨ 4611686018427387904 < n) ∧ e = .returned (.tuple #[.slice none 0 0, .int .i64 1]) ∧ w = w')
set_option maxHeartbeats 400000 in
theorem count_any (n : Int) (w : World) (h2 : n ≤ 9223372036854775807) : Calls Try.prog 48 #[.int .i64 n] w (Counts n w) := by
  have H2 := Lib.hid h2
  clear h2
  by_cases h0 : n < 0
  · go_enter Try.func48, Try.ntmps48
    go_wp2_with fail
    go_ret2
    exact .inr ⟨.inl h0, rfl, rfl⟩
  · by_cases h3 : 4611686018427387904 < n
    · go_enter Try.func48, Try.ntmps48
      go_wp2_with fail
      go_ret2
      exact .inr ⟨.inr h3, rfl, rfl⟩
    · obtain ⟨m, rfl⟩ := Int.eq_ofNat_of_zero_le (by omega : 0 ≤ n)
      have hb : m ≤ 4611686018427387904 := by omega
      go_enter Try.func48, Try.ntmps48
      go_wp2_with fail
      refine (puts_any w.heap.size _ [] m _ (by omega) (World.ownsRow_nil _ _ _ _) (Nat.le_refl _) (by simp)).mono ?_
      rintro e w1 ⟨v, rfl, hv, hb⟩
      go_wp2_with fail
      go_ret2
      exact .inl ⟨by omega, by omega, v, rfl, by simpa using hv, hb⟩
end Go.Proofs.Ytipiplnhbecjeaa

/- The code of a text, and the document's own answers for numbers, counts and texts, call by call. -/
namespace Go.Proofs.Ytipiplnhbecjeaa
set_option linter.unusedVariables false
set_option linter.unusedSimpArgs false
open Go.RowKit

/-- A text's code. -/
def txt (s : ByteArray) : List UInt8 := grp s.size ++ s.data.toList
theorem strCells_bcells (s : ByteArray) : Lib.strCells s = bcells s.data.toList := rfl
theorem below_toStart {w w1 w2 : World} (h : Below w.heap.size w w1) (h2 : Below w1.heap.size w1 w2) : Below w.heap.size w w2 := h.trans (h2.mono h.size)
theorem below_of_grown {B : Nat} {w w1 : World} {row : Option Nat} (hg : w.grownBy w1 row) (hB : B ≤ w.heap.size) (hr : ∀ k, row = some k → B ≤ k) : Below B w w1 := (Below.refl _ _).grown hg hB hr

set_option maxHeartbeats 1000000 in
set_option maxRecDepth 1000000 in
theorem text_any (s : ByteArray) (w : World) (hs : s.size ≤ 140737488351232) :
    Calls Try.prog 70 #[.string s] w (Gives (txt s) w) := by
  obtain ⟨i0, hi, hz0, hz1, hz2⟩ := info_parts Try.infoU8
  have HS := Lib.hid hs
  have hs' : (s.size : Int) ≤ 9223372036854775000 := by omega
  clear hs
  go_enter Try.func70, Try.ntmps70
  go_wp2_with (at_make; go_must (refine wpList_make_own _ rfl _ _ 39 rfl w.heap.size 5 i0 (.int .u8 0) 1 Try.underlying39 hi hz0 hz1 _ _ _ (10 + s.size) rfl rfl ?b0 ?b1 ?b2 ?b3 ?_))
  case b0 => omega
  case b1 => have := HS.out; rw [hz2]; omega
  case b2 => have := HS.out; unfold maxLen; omega
  case b3 => exact Nat.le_refl _
  intro w1 hown hg
  have hb1 : Below w.heap.size w w1 := below_of_grown hg (Nat.le_refl _) (fun k hk => by cases hk)
  have hsz1 := hb1.size
  clear hg
  go_wp2_with fail
  refine (puts_any w.heap.size _ [] s.size _ (by omega) hown hsz1 (by simp)).mono ?_
  rintro e w2 ⟨v, rfl, hv, hb⟩
  have hb2 : Below w.heap.size w w2 := hb1.trans hb
  have hsz2 := hb2.size
  have hgl := grp_length s.size
  rw [List.nil_append] at hv
  have hv' : w2.ownsRow w.heap.size 5 1 v (grp s.size).length (bcells (grp s.size)) := hv
  go_wp2_with (at_builtin; go_must (refine Lib.wpList_append_own_string _ rfl _ _ 39 9 rfl w.heap.size 5 i0 Try.underlying39 Try.underlying9 hi hz0 hz1 hz2 _ _ _ rfl hv' s rfl ?c0 ?c1 ?c2 ?_))
  case c0 => have := HS.out; unfold maxLen; omega
  case c1 => have := HS.out; omega
  case c2 => exact hsz2
  intro v3 w3 hown3 hg3 _
  have hb3 : Below w.heap.size w w3 := hb2.grown hg3 hsz2 (fun k hk => (hv'.lt k hk).1)
  have hfin : OwnB w3 w.heap.size v3 (txt s) := by
    unfold OwnB txt
    rw [bcells_append, List.length_append]
    exact hown3
  clear hown3 hg3 hv hv'
  go_wp2_with fail
  go_ret
  exact ⟨_, rfl, hfin, hb3⟩

theorem wrap_div (m : Nat) (h : m < 18446744073709551616) : IntKind.u64.wrap ((m : Int) / 128) = ((m / 128 : Nat) : Int) := by rw [IntKind.wrap_u64]; omega
theorem u8_add128 (n : Nat) : IntKind.u8.wrap ((n : Int) % 128 + 128) = ((UInt8.ofNat (n % 128 + 128)).toNat : Int) := by
  rw [ofNat_toNat _ (by omega), IntKind.wrap_u8']; omega

set_option maxHeartbeats 1000000 in
set_option maxRecDepth 1000000 in
theorem rgroups_any (n : Nat) (w : World) (hn : n < 18446744073709551616) :
    Calls Try.prog 66 #[.int .u64 n] w (Gives (grp n) w) := by
  obtain ⟨i0, hi, hz0, hz1, hz2⟩ := info_parts Try.infoU8
  have HN := Lib.hid hn
  clear hn
  go_enter Try.func66, Try.ntmps66
  go_wp2
  go_loopw [0, 3] (fun n1 v1 wr => ∃ (m : Nat) (acc : List UInt8), n1 = .int .u64 m ∧ Hid (m < 18446744073709551616 ∧ acc ++ grp m = grp n) ∧ OwnB wr w.heap.size v1 acc ∧ Below w.heap.size w wr) (fun n1 _ _ => (intOf n1).toNat)
  case atStart => exact ⟨n, [], rfl, ⟨HN.out, rfl⟩, World.ownsRow_nil _ _ _ _, Below.refl _ _⟩
  case round =>
    obtain ⟨m, acc, rfl, HM, hown1, hbel⟩ := hrel
    have hal : acc.length ≤ 11 := by
      have h1 := congrArg List.length HM.out.2
      have := (grp_length n).1
      simp at h1; omega
    have hsz := hbel.size
    have hown2 : wr.ownsRow w.heap.size 5 1 _ acc.length (bcells acc) := hown1
    by_cases hm : 128 ≤ m
    · go_wp2_with (at_builtin; go_must (refine wpList_append_own _ rfl _ _ 39 rfl w.heap.size 5 i0 (.int .u8 0) 1 1 Try.underlying39 hi hz0 hz1 hz2 rfl (by decide) _ _ _ rfl (hown2.alloc _) ⟨wr.heap.size, 0, none⟩ 1 1 [.int .u8 ((m : Int) % 128 + 128)] rfl rfl ?c1 ?c2 ?c3 ?c4 ?c5 ?_))
      case c1 => exact cell_one_new _ _ _
      case c2 => intro u hu; simp at hu; subst hu; rfl
      case c3 => unfold maxLen; omega
      case c4 => omega
      case c5 => simp; omega
      intro v2 w2 hown3 hg _
      have hb2 := below_app hbel (Nat.le_refl _) hown1 hg
      have hs2 := OwnB_step (l := acc) (b := UInt8.ofNat (m % 128 + 128)) (by rw [ofNat_toNat _ (by omega)]; omega) hown3
      clear hown3 hg hown2 hown1
      go_wp2
      go_roundw
      case rel => exact ⟨m / 128, acc ++ [UInt8.ofNat (m % 128 + 128)], by rw [wrap_div m HM.out.1], ⟨by have := HM.out.1; omega, by
        rw [List.append_assoc, List.singleton_append, ← grp_large m hm HM.out.1]; exact HM.out.2⟩, hs2, hb2⟩
      case measure => simp only [intOf, wrap_div m HM.out.1]; omega
    · have hm' : m < 128 := by omega
      go_wp2_with (at_builtin; go_must (refine wpList_append_own _ rfl _ _ 39 rfl w.heap.size 5 i0 (.int .u8 0) 1 1 Try.underlying39 hi hz0 hz1 hz2 rfl (by decide) _ _ _ rfl (hown2.alloc _) ⟨wr.heap.size, 0, none⟩ 1 1 [.int .u8 (m : Int)] rfl rfl ?d1 ?d2 ?d3 ?d4 ?d5 ?_))
      case d1 => exact cell_one_new _ _ _
      case d2 => intro u hu; simp at hu; subst hu; rfl
      case d3 => unfold maxLen; omega
      case d4 => omega
      case d5 => simp; omega
      intro v2 w2 hown3 hg _
      have hb2 := below_app hbel (Nat.le_refl _) hown1 hg
      have hs2 := OwnB_step (l := acc) (u8_last m hm') hown3
      clear hown3 hg hown2 hown1
      go_wp2
      go_ret
      exact ⟨_, rfl, by rw [← HM.out.2, grp_small m hm']; exact hs2, hb2⟩

set_option maxHeartbeats 400000 in
theorem rzig_any (x : Int) (w : World) (h1 : -9223372036854775808 ≤ x) (h2 : x ≤ 9223372036854775807) :
    Calls Try.prog 67 #[.int .i64 x] w fun e w' => e = .returned (.int .u64 (zig x)) ∧ w = w' := by
  by_cases hx : 0 ≤ x
  · go_enter Try.func67, Try.ntmps67
    go_wp2
    go_ret
    exact ⟨ret_u64 (by unfold zig; split <;> omega), rfl⟩
  · go_enter Try.func67, Try.ntmps67
    go_wp2
    go_ret
    exact ⟨ret_u64 (by unfold zig; split <;> omega), rfl⟩
set_option maxHeartbeats 400000 in
theorem rint_any (x : Int) (w : World) (h1 : -9223372036854775808 ≤ x) (h2 : x ≤ 9223372036854775807) :
    Calls Try.prog 44 #[.int .i64 x] w (Gives (grp (zig x)) w) := by
  have HZ := Lib.hid (zig_lt x h1 h2)
  have H1 := Lib.hid h1
  have H2 := Lib.hid h2
  clear h1 h2
  go_enter Try.func44, Try.ntmps44
  go_wp2_with fail
  refine (rzig_any x _ H1.out H2.out).mono ?_
  rintro e w' ⟨rfl, rfl⟩
  go_wp2_with fail
  refine (rgroups_any _ _ HZ.out).mono ?_
  rintro e w1 ⟨v, rfl, hv, hb⟩
  go_wp2_with fail
  go_ret
  exact ⟨_, rfl, hv, hb⟩
set_option maxHeartbeats 400000 in
theorem rcount_any (n : Nat) (w : World) (h : n ≤ 9223372036854775807) :
    Calls Try.prog 46 #[.int .i64 n] w (Gives (grp n) w) := by
  go_enter Try.func46, Try.ntmps46
  go_wp2_with fail
  refine (rgroups_any _ _ (by omega)).mono ?_
  rintro e w1 ⟨v, rfl, hv, hb⟩
  go_wp2_with fail
  go_ret
  exact ⟨_, rfl, hv, hb⟩
end Go.Proofs.Ytipiplnhbecjeaa
