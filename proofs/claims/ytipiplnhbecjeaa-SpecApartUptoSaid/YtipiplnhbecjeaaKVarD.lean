/- The document's code of a text; sources that are nil, bad or good: whether they are bad, what is left, whether all is read; spoiling; beginning. -/
import Derived.Test.YtipiplnhbecjeaaKVarA
import Derived.Laws.IdiomStrings
import Derived.Lib.ConvBytes
import Derived.BigQuiet
import Derived.Deep.QuietTactic
namespace Go.Proofs.Ytipiplnhbecjeaa
set_option linter.unusedVariables false
set_option linter.unusedSimpArgs false
open Go.RowKit

theorem bytes_of (s : ByteArray) (w1 : World) : ∃ cap w2, (convert 9 39 (.string s)).run Try.prog w1 = .ok (.slice (some ⟨w1.heap.size, 0, none⟩) s.size cap) w2 ∧ Below w1.heap.size w1 w2 ∧
    (∀ j u, (bcells s.data.toList)[j]? = some u → w2.cell? ((⟨w1.heap.size, 0, none⟩ : Addr).add j) = some u) := by
  refine ⟨_, _, Lib.run_convert_string_bytes w1 9 39 5 s Try.underlying9 Try.underlying39 Try.underlying5, Go.Joins.below_bytesWorld _ _ _ _ (Nat.le_refl _), ?_⟩
  intro j u hu
  have hj : j < s.size := by
    have := (List.getElem?_eq_some_iff.1 hu).1
    simpa [bcells] using this
  have e : ((⟨w1.heap.size, 0, none⟩ : Addr).add j) = ⟨w1.heap.size, j, none⟩ := by unfold Addr.add; split <;> simp_all
  rw [e, Lib.bytesWorld_cell w1 _ s j hj]
  have hj' : j < s.data.toList.length := by simpa using hj
  simp only [bcells, List.getElem?_map, List.getElem?_eq_getElem hj', Option.map_some, List.getD, Option.getD_some] at hu ⊢
  exact hu

set_option maxHeartbeats 1000000 in
set_option maxRecDepth 1000000 in
theorem rtext_any (s : ByteArray) (w : World) (hs : s.size ≤ 140737488351232) :
    Calls Try.prog 45 #[.string s] w (Gives (txt s) w) := by
  obtain ⟨i0, hi, hz0, hz1, hz2⟩ := info_parts Try.infoU8
  have HS := Lib.hid hs
  clear hs
  go_enter Try.func45, Try.ntmps45
  go_wp2_with fail
  refine (rcount_any s.size _ (by have := HS.out; omega)).mono ?_
  rintro e w1 ⟨v, rfl, hv, hb1⟩
  obtain ⟨cap, w2, hrun, hb2, hc2⟩ := bytes_of s w1
  have hv2 := hv.below hb2
  have hb3 := below_toStart hb1 hb2
  have hsz := hb3.size
  have hgl := grp_length s.size
  have hv' : w2.ownsRow w.heap.size 5 1 v (grp s.size).length (bcells (grp s.size)) := hv2
  have HC := Lib.hid hc2
  clear hc2 hb1 hb2 hv hv2
  go_wp2_with (at_builtin; go_must (refine wpList_append_own _ rfl _ _ 39 rfl w.heap.size 5 i0 (.int .u8 0) 1 1 Try.underlying39 hi hz0 hz1 hz2 rfl (by decide) _ _ _ rfl hv' ⟨w1.heap.size, 0, none⟩ s.size cap (bcells s.data.toList) rfl ?c0 ?c1 ?c2 ?c3 ?c4 ?c5 ?_))
  case c0 => simp [bcells]
  case c1 => exact HC.out
  case c2 => exact bcells_oneCell _
  case c3 => have := HS.out; unfold maxLen; omega
  case c4 => have := HS.out; omega
  case c5 => exact hsz
  intro v3 w3 hown3 hg3 _
  have hb4 : Below w.heap.size w w3 := hb3.grown hg3 hsz (fun k hk => (hv'.lt k hk).1)
  have hfin : OwnB w3 w.heap.size v3 (txt s) := by
    unfold OwnB txt
    rw [bcells_append, List.length_append]
    have e : s.data.toList.length = s.size := by simp
    rw [e]
    exact hown3
  clear hown3 hg3 hv' hrun
  go_wp2_with fail
  go_ret
  exact ⟨_, rfl, hfin, hb4⟩

/-! Sources. -/
/-- Block g is a source that is bad or not and has s left. -/
def Src (w : World) (g : Nat) (s : ByteArray) (b : Bool) : Prop := w.heap[g]? = some (.cells #[.string s, .bool b] 58 (0, 0))
theorem Src.lt {w : World} {g : Nat} {s : ByteArray} {b : Bool} (h : Src w g s b) : g < w.heap.size := (Array.getElem?_eq_some_iff.1 h).1
theorem Src.rest {w : World} {g : Nat} {s : ByteArray} {b : Bool} (h : Src w g s b) : w.cell? ⟨g, 0, none⟩ = some (.string s) := Go.Joins.cell_of_block h 0
theorem Src.bad {w : World} {g : Nat} {s : ByteArray} {b : Bool} (h : Src w g s b) : w.cell? ⟨g, 1, none⟩ = some (.bool b) := Go.Joins.cell_of_block h 1
theorem Src.free {w : World} {g : Nat} {s : ByteArray} {b : Bool} (h : Src w g s b) (i : Nat) : w.frozen? ⟨g, i, none⟩ = false := Go.Joins.unfrozen_of_block h i

set_option maxHeartbeats 400000 in
theorem bad_nil (w : World) : Calls Try.prog 31 #[.pointer none] w fun e w' => e = .returned (.bool true) ∧ w = w' := by
  go_enter Try.func31, Try.ntmps31
  go_wp2
  go_ret
  exact ⟨rfl, rfl⟩
set_option maxHeartbeats 400000 in
theorem bad_any (g : Nat) (s : ByteArray) (b : Bool) (w : World) (h : Src w g s b) : Calls Try.prog 31 #[.pointer (some ⟨g, 0, none⟩)] w fun e w' => e = .returned (.bool b) ∧ w = w' := by
  have h1 := h.bad
  clear h
  go_enter Try.func31, Try.ntmps31
  go_wp2
  go_ret
  exact ⟨rfl, rfl⟩
set_option maxHeartbeats 400000 in
theorem spoil_nil (w : World) : Calls Try.prog 32 #[.pointer none] w fun e w' => e = .returned (.tuple #[]) ∧ w = w' := by
  go_enter Try.func32, Try.ntmps32
  go_wp2
  go_end0
  exact ⟨rfl, rfl⟩
/-- All but block g is as it was. -/
abbrev Only (w w' : World) (g : Nat) : Prop := w.grownBy w' (some g)
theorem Src.set0 {w : World} {g : Nat} {s t : ByteArray} {b : Bool} (h : Src w g s b) : Src (w.setCell ⟨g, 0, none⟩ (.string t)) g t b := Go.Joins.block_setCell (i := 0) h (.string t)
theorem Src.set1 {w : World} {g : Nat} {s : ByteArray} {b c : Bool} (h : Src w g s b) : Src (w.setCell ⟨g, 1, none⟩ (.bool c)) g s c := Go.Joins.block_setCell (i := 1) h (.bool c)
theorem Only.refl (w : World) (g : Nat) : Only w w g := World.grownBy.refl w _
theorem Only.set {a w : World} {g : Nat} (h : Only a w g) (i : Nat) (u : Value) : Only a (w.setCell ⟨g, i, none⟩ u) g :=
  ⟨h.os, h.tape, h.output, by simpa [World.setCell] using h.size, fun k hk hne => (Below.heap_setCell w _ u k (by rintro rfl; exact hne rfl)).trans (h.block k hk hne)⟩
theorem Only.alloc {a w : World} {g : Nat} (h : Only a w g) (o : Obj) : Only a (w.alloc o) g :=
  ⟨h.os, h.tape, h.output, Nat.le_trans h.size (by simp), fun k hk hne => (Below.heap_alloc w o k (Nat.lt_of_lt_of_le hk h.size)).trans (h.block k hk hne)⟩
theorem Only.trans {a b c : World} {g : Nat} (h : Only a b g) (k : Only b c g) : Only a c g :=
  ⟨k.os.trans h.os, k.tape.trans h.tape, k.output.trans h.output, Nat.le_trans h.size k.size, fun i hi hne => (k.block i (Nat.lt_of_lt_of_le hi h.size) hne).trans (h.block i hi hne)⟩
/-- A store into a block that is new. -/
theorem Only.setNew {a w : World} {g : Nat} (h : Only a w g) {p : Addr} (hp : a.heap.size ≤ p.block) (u : Value) : Only a (w.setCell p u) g :=
  ⟨h.os, h.tape, h.output, by simpa [World.setCell] using h.size, fun k hk hne => (Below.heap_setCell w _ u k (by omega)).trans (h.block k hk hne)⟩
theorem Only.below {a w : World} {g B : Nat} (h : Only a w g) (hB : B ≤ a.heap.size) (hg : B ≤ g) : Below B a w :=
  ⟨h.os, h.tape, h.output, h.size, fun k hk => h.block k (by omega) (by rintro ⟨⟩; omega)⟩
theorem Only.ofBelow {a w : World} {g : Nat} (h : Below a.heap.size a w) : Only a w g := ⟨h.os, h.tape, h.output, h.size, fun k hk _ => h.block k hk⟩
theorem Src.keep {w w' : World} {g B : Nat} {s : ByteArray} {b : Bool} (h : Src w g s b) (hb : Below B w w') (hg : g < B) : Src w' g s b := (hb.block g hg).trans h

set_option maxHeartbeats 400000 in
theorem spoil_any (g : Nat) (s : ByteArray) (b : Bool) (w : World) (h : Src w g s b) : Calls Try.prog 32 #[.pointer (some ⟨g, 0, none⟩)] w fun e w' => e = .returned (.tuple #[]) ∧ Src w' g ByteArray.empty true ∧ Only w w' g := by
  have h1 := h.bad
  have h0 := h.rest
  have f0 := h.free 0
  have f1 := h.free 1
  have H := Lib.hid h
  clear h
  go_enter Try.func32, Try.ntmps32
  go_wp2
  go_end0
  exact ⟨rfl, H.out.set0.set1, ((Only.refl w g).set _ _).set _ _⟩

set_option maxHeartbeats 400000 in
theorem left_nil (w : World) : Calls Try.prog 75 #[.pointer none] w fun e w' => e = .returned (.int .i64 0) ∧ w = w' := by
  go_enter Try.func75, Try.ntmps75
  go_wp2_with (go_at_call 31; refine (bad_nil _).mono ?_; rintro e w' ⟨rfl, rfl⟩)
  go_ret
  exact ⟨rfl, rfl⟩
set_option maxHeartbeats 400000 in
theorem left_any (g : Nat) (s : ByteArray) (b : Bool) (w : World) (h : Src w g s b) : Calls Try.prog 75 #[.pointer (some ⟨g, 0, none⟩)] w fun e w' => e = .returned (.int .i64 (if b then 0 else (s.size : Int))) ∧ w = w' := by
  have h0 := h.rest
  have H := Lib.hid h
  clear h
  cases b
  · go_enter Try.func75, Try.ntmps75
    go_wp2_with (go_at_call 31; refine (bad_any g s _ _ H.out).mono ?_; rintro e w' ⟨rfl, rfl⟩)
    go_ret
    exact ⟨rfl, rfl⟩
  · go_enter Try.func75, Try.ntmps75
    go_wp2_with (go_at_call 31; refine (bad_any g s _ _ H.out).mono ?_; rintro e w' ⟨rfl, rfl⟩)
    go_ret
    exact ⟨rfl, rfl⟩
set_option maxHeartbeats 400000 in
theorem done_nil (w : World) : Calls Try.prog 15 #[.pointer none] w fun e w' => e = .returned (.int .i64 10) ∧ w = w' := by
  go_enter Try.func15, Try.ntmps15
  go_wp2_with (go_at_call 31; refine (bad_nil _).mono ?_; rintro e w' ⟨rfl, rfl⟩)
  go_ret
  exact ⟨rfl, rfl⟩
set_option maxHeartbeats 400000 in
theorem done_any (g : Nat) (s : ByteArray) (b : Bool) (w : World) (h : Src w g s b) : Calls Try.prog 15 #[.pointer (some ⟨g, 0, none⟩)] w fun e w' => e = .returned (.int .i64 (if b || !s.toList.isEmpty then 10 else 0)) ∧ w = w' := by
  have h0 := h.rest
  have H := Lib.hid h
  clear h
  cases b
  · cases hs : s.toList.isEmpty
    · have hs2 : s.toList ≠ [] := by intro hh; simp [hh] at hs
      go_enter Try.func15, Try.ntmps15
      go_wp2_with (go_at_call 31; refine (bad_any g s _ _ H.out).mono ?_; rintro e w' ⟨rfl, rfl⟩)
      go_ret
      exact ⟨rfl, rfl⟩
    · go_enter Try.func15, Try.ntmps15
      go_wp2_with (go_at_call 31; refine (bad_any g s _ _ H.out).mono ?_; rintro e w' ⟨rfl, rfl⟩)
      go_ret
      exact ⟨rfl, rfl⟩
  · go_enter Try.func15, Try.ntmps15
    go_wp2_with (go_at_call 31; refine (bad_any g s _ _ H.out).mono ?_; rintro e w' ⟨rfl, rfl⟩)
    go_ret
    exact ⟨rfl, rfl⟩
end Go.Proofs.Ytipiplnhbecjeaa

/- A source begun, and moved on by a function that tells how far. -/
namespace Go.Proofs.Ytipiplnhbecjeaa
set_option linter.unusedVariables false
set_option linter.unusedSimpArgs false
open Go.RowKit

set_option maxHeartbeats 400000 in
theorem from_any (v : Value) (s : ByteArray) (w : World) (hc : (convert 39 9 v).run Try.prog w = .ok (.string s) w) :
    Calls Try.prog 12 #[v] w fun e w' => e = .returned (.pointer (some ⟨w.heap.size, 0, none⟩)) ∧ Src w' w.heap.size s false ∧ Below w.heap.size w w' := by
  go_enter Try.func12, Try.ntmps12
  go_wp2_with fail
  go_ret
  exact ⟨rfl, heap_alloc_new w _, (Below.refl _ _).alloc (Nat.le_refl _) _⟩

set_option maxHeartbeats 400000 in
theorem take_nil (fv : Value) (w : World) : Calls Try.prog 71 #[.pointer none, fv] w fun e w' => e = .returned (.tuple #[]) ∧ w = w' := by
  go_enter Try.func71, Try.ntmps71
  go_wp2_with (go_at_call 31; refine (bad_nil _).mono ?_; rintro e w' ⟨rfl, rfl⟩)
  refine bodyPost_ret (results_none rfl _ _ _) rfl ?_
  exact ⟨rfl, rfl⟩
set_option maxHeartbeats 400000 in
theorem take_bad (fv : Value) (g : Nat) (s : ByteArray) (w : World) (h : Src w g s true) : Calls Try.prog 71 #[.pointer (some ⟨g, 0, none⟩), fv] w fun e w' => e = .returned (.tuple #[]) ∧ w = w' := by
  have H := Lib.hid h
  clear h
  go_enter Try.func71, Try.ntmps71
  go_wp2_with (go_at_call 31; refine (bad_any _ _ _ _ H.out).mono ?_; rintro e w' ⟨rfl, rfl⟩)
  refine bodyPost_ret (results_none rfl _ _ _) rfl ?_
  exact ⟨rfl, rfl⟩

/-- A call of function k through a value enters it. -/
def Enters (k : Nat) : Prop := ∀ (args : Array Value) (W : World), (callFunc k args).run Try.prog W = .ok (.enter k args) W
theorem enters_byte : Enters 72 := fun _ _ => by simp [callFunc, go_sem, Try.func72, Try.f72]
theorem enters_text : Enters 103 := fun _ _ => by simp [callFunc, go_sem, Try.func103, Try.f103]
theorem enters_groups : Enters 100 := fun _ _ => by simp [callFunc, go_sem, Try.func100, Try.f100]

/-- What becomes of a source that is moved on by n bytes. -/
def Moved (w1 w' : World) (g : Nat) (s : ByteArray) (n : Nat) : Prop := Only w1 w' g ∧ (n = 0 → Src w' g ByteArray.empty true) ∧ (0 < n → Src w' g (s.extract n s.size) false)

set_option maxHeartbeats 400000 in
theorem take_good (k : Nat) (caps : Array Value) (g : Nat) (s : ByteArray) (n : Nat) (w : World) (R : World → Prop) (h : Src w g s false) (hn : n ≤ s.size) (hs : (s.size : Int) ≤ 9223372036854775807) (hcf0 : Enters k)
    (hk : Calls Try.prog k (#[.string s] ++ caps) w fun e w' => e = .returned (.int .i64 n) ∧ Src w' g s false ∧ R w') :
    Calls Try.prog 71 #[.pointer (some ⟨g, 0, none⟩), .func (.func k) #[] caps] w fun e w' => e = .returned (.tuple #[]) ∧ ∃ w1, R w1 ∧ Moved w1 w' g s n := by
  have h0 := h.rest
  have H := Lib.hid h
  have HK := Lib.hid hk
  have hcf : ∀ (args : Array Value) (W : World), (callFunc k args).run Try.prog W = .ok (.enter k args) W := hcf0
  clear h hk hcf0
  go_enter Try.func71, Try.ntmps71
  go_wp2_with (go_at_call 31; refine (bad_any g s _ _ H.out).mono ?_; rintro e w' ⟨rfl, rfl⟩)
  refine HK.out.mono ?_
  rintro e w1 ⟨rfl, hsrc, hR⟩
  have h1 := hsrc.rest
  have f1 := hsrc.free 0
  have HS := Lib.hid hsrc
  clear hsrc H HK hcf h0
  by_cases hz : n = 0
  · subst hz
    go_wp2_with (go_at_call 32; refine (spoil_any g s _ _ HS.out).mono ?_; rintro e w2 ⟨rfl, hs2, ho2⟩)
    refine bodyPost_ret (results_none rfl _ _ _) rfl ?_
    exact ⟨rfl, _, hR, ho2, fun _ => hs2, fun h => absurd h (by omega)⟩
  · have hz2 : ((n : Int) == 0) = false := by simp; omega
    go_wp2
    go_end0
    exact ⟨rfl, _, hR, (Only.refl _ g).set _ _, fun h => absurd h hz, fun _ => HS.out.set0⟩
end Go.Proofs.Ytipiplnhbecjeaa

/- The groups at the beginning of a string, read. -/
namespace Go.Proofs.Ytipiplnhbecjeaa
set_option linter.unusedVariables false
set_option linter.unusedSimpArgs false
open Go.RowKit

/-- What a round of the reading finds. -/
def GInv (s : ByteArray) (k acc : Nat) : Prop := acc < 128 ^ k ∧ getG k acc (s.data.toList.drop k) = getG 0 0 s.data.toList

theorem pow7 (k : Nat) : (2 : Nat) ^ (7 * k) = 128 ^ k := by rw [Nat.pow_mul]
theorem pow_le9 (k : Nat) (h : k ≤ 9) : (128 : Nat) ^ k ≤ 9223372036854775808 := by
  have : (128 : Nat) ^ k ≤ 128 ^ 9 := Nat.pow_le_pow_right (by omega) h
  have e9 : (128 : Nat) ^ 9 = 9223372036854775808 := by decide
  omega
theorem mul_pow_lt (c k : Nat) (hc : c < 128) (h : k ≤ 9) (h9 : k = 9 → c ≤ 1) : c * 128 ^ k ≤ 9223372036854775808 := by
  by_cases e : k = 9
  · subst e
    have := h9 rfl
    have e9 : (128 : Nat) ^ 9 = 9223372036854775808 := by decide
    have : c * 128 ^ 9 ≤ 1 * 128 ^ 9 := Nat.mul_le_mul_right _ (by omega)
    omega
  · have h2 := pow_le9 (k + 1) (by omega)
    have e3 : (128 : Nat) ^ (k + 1) = 128 * 128 ^ k := by rw [Nat.pow_succ]; omega
    have : c * 128 ^ k ≤ 128 * 128 ^ k := Nat.mul_le_mul_right _ (by omega)
    omega
theorem or_val (acc b k : Nat) (hacc : acc < 128 ^ k) (h : k ≤ 9) (h9 : k = 9 → b % 128 ≤ 1) :
    bits .or .u64 (acc : Int) (IntKind.u64.wrap ((b : Int) % 128 * 2 ^ (7 * k))) = ((acc + b % 128 * 128 ^ k : Nat) : Int) := by
  have hm := mul_pow_lt (b % 128) k (by omega) h h9
  have hp := pow_le9 k h
  have e : IntKind.u64.wrap ((b : Int) % 128 * 2 ^ (7 * k)) = ((b % 128 * 128 ^ k : Nat) : Int) := by
    have e1 : ((b : Int) % 128 * 2 ^ (7 * k)) = ((b % 128 * 128 ^ k : Nat) : Int) := by
      rw [← pow7]; simp
    rw [e1, IntKind.wrap_u64]; omega
  rw [e, u64_or_nat _ _ (by omega) (by omega), Nat.or_comm, nat_join (7 * k) _ _ (by rw [pow7]; exact Nat.mul_mod_left _ _) (by rw [pow7]; exact hacc)]
  omega
theorem ret_g {X Y : Int} {p q : Nat} (h1 : X = (p : Int)) (h2 : Y = (q : Int)) :
    Ending.returned (.tuple #[.int .u64 X, .int .i64 Y]) = .returned (.tuple #[.int .u64 p, .int .i64 q]) := by rw [h1, h2]

theorem drop_at (s : ByteArray) (k : Nat) (hk : k < s.size) : s.data.toList.drop k = s[k] :: s.data.toList.drop (k + 1) := by
  rw [List.drop_eq_getElem_cons (by simpa using hk)]; rfl
theorem G_end {s : ByteArray} {k acc : Nat} (HG : GInv s k acc) (h10 : k ≤ 10) (hn : ¬ (k < s.size ∧ k < 10)) (hle : k ≤ s.size) : getG 0 0 s.data.toList = (0, 0) := by
  rw [← HG.2]
  by_cases h : k < s.size
  · rw [drop_at s k h, getG, if_pos (by omega)]
  · rw [List.drop_eq_nil_of_le (by simp; omega), getG]
theorem G_hi {s : ByteArray} {k acc : Nat} (HG : GInv s k acc) (hk : k < s.size) (h10 : k < 10) (h9 : k = 9) (hb : 1 < s[k].toNat) : getG 0 0 s.data.toList = (0, 0) := by
  rw [← HG.2, drop_at s k hk, getG, if_neg (by omega), if_pos ⟨h9, hb⟩]
theorem G_zero {s : ByteArray} {k acc : Nat} (HG : GInv s k acc) (hk : k < s.size) (h10 : k < 10) (h0 : 0 < k) (hb : s[k].toNat = 0) : getG 0 0 s.data.toList = (0, 0) := by
  rw [← HG.2, drop_at s k hk, getG, if_neg (by omega), if_neg (by omega), if_pos (by omega), if_pos ⟨hb, h0⟩]
theorem G_last {s : ByteArray} {k acc : Nat} (HG : GInv s k acc) (hk : k < s.size) (h10 : k < 10) (h9 : k = 9 → s[k].toNat ≤ 1) (hb : s[k].toNat < 128) (hz : s[k].toNat = 0 → ¬ 0 < k) :
    bits .or .u64 (acc : Int) (IntKind.u64.wrap ((s[k].toNat : Int) % 128 * 2 ^ (7 * k))) = ((getG 0 0 s.data.toList).1 : Int) ∧ (k : Int) + 1 = ((getG 0 0 s.data.toList).2 : Int) := by
  rw [or_val acc s[k].toNat k HG.1 (by omega) (by omega)]
  rw [← HG.2, drop_at s k hk, getG, if_neg (by omega), if_neg (by omega), if_pos (by omega), if_neg (by omega)]
  rw [Nat.mod_eq_of_lt hb]
  exact ⟨rfl, by simp⟩
theorem G_last9 {s : ByteArray} {k acc : Nat} (HG : GInv s k acc) (hk : k < s.size) (h9 : k = 9) (hb : s[k].toNat ≤ 1) (hz : ¬ s[k].toNat = 0) :
    bits .or .u64 (acc : Int) ((s[k].toNat : Int) % 128 * 9223372036854775808) = ((getG 0 0 s.data.toList).1 : Int) ∧ (10 : Int) = ((getG 0 0 s.data.toList).2 : Int) := by
  have h := G_last HG hk (by omega) (fun _ => hb) (by omega) (fun h => absurd h hz)
  have e : IntKind.u64.wrap ((s[k].toNat : Int) % 128 * 2 ^ (7 * k)) = (s[k].toNat : Int) % 128 * 9223372036854775808 := by
    have e1 : (2 : Int) ^ (7 * k) = 9223372036854775808 := by rw [h9]; rfl
    rw [e1, IntKind.wrap_u64]; omega
  rw [e] at h
  refine ⟨h.1, ?_⟩
  rw [← h.2, h9]; rfl
theorem G_last0 {s : ByteArray} {k acc : Nat} (HG : GInv s k acc) (hk : k < s.size) (h0 : ¬ 0 < k) (hb : s[k].toNat = 0) :
    bits .or .u64 (acc : Int) (IntKind.u64.wrap 0) = ((getG 0 0 s.data.toList).1 : Int) ∧ (k : Int) + 1 = ((getG 0 0 s.data.toList).2 : Int) := by
  have h := G_last HG hk (by omega) (by omega) (by omega) (fun _ => h0)
  have e : ((s[k].toNat : Int) % 128 * 2 ^ (7 * k)) = 0 := by rw [hb]; simp
  rw [e] at h
  exact h
theorem G_more {s : ByteArray} {k acc : Nat} (HG : GInv s k acc) (hk : k < s.size) (h10 : k < 10) (h9 : k ≠ 9) (hb : 128 ≤ s[k].toNat) :
    ∃ acc' : Nat, bits .or .u64 (acc : Int) (IntKind.u64.wrap ((s[k].toNat : Int) % 128 * 2 ^ (7 * k))) = (acc' : Int) ∧ GInv s (k + 1) acc' := by
  have hlt := UInt8.toNat_lt s[k]
  refine ⟨_, or_val acc s[k].toNat k HG.1 (by omega) (by omega), ?_, ?_⟩
  · have e3 : (128 : Nat) ^ (k + 1) = 128 * 128 ^ k := by rw [Nat.pow_succ]; omega
    have : s[k].toNat % 128 * 128 ^ k ≤ 127 * 128 ^ k := Nat.mul_le_mul_right _ (by omega)
    have := HG.1
    omega
  · rw [← HG.2, drop_at s k hk]
    conv => rhs; rw [getG, if_neg (by omega), if_neg (by omega), if_neg (by omega)]
    have e : s[k].toNat % 128 = s[k].toNat - 128 := by omega
    rw [e]

set_option maxHeartbeats 1000000 in
set_option maxRecDepth 1000000 in
theorem gets_any (s : ByteArray) (w : World) (hs : (s.size : Int) ≤ 9223372036854775807) :
    Calls Try.prog 101 #[.string s] w fun e w' => e = .returned (.tuple #[.int .u64 (getG 0 0 s.data.toList).1, .int .i64 (getG 0 0 s.data.toList).2]) ∧ w = w' := by
  by_cases h10 : 10 < s.size
  all_goals
    go_enter Try.func101, Try.ntmps101
    go_wp2
    go_loop [4, 10] (fun n i => ∃ (k acc : Nat), n = .int .u64 acc ∧ i = .int .i64 k ∧ k ≤ 10 ∧ k ≤ s.size ∧ GInv s k acc) (fun _ i => 10 - (intOf i).toNat)
    case atStart => exact ⟨0, 0, rfl, rfl, by omega, by omega, by simp, by simp⟩
    case round =>
      obtain ⟨k, acc, rfl, rfl, hL1, hL2, HG⟩ := hrel
      by_cases hlt : k < s.size ∧ k < 10
      · obtain ⟨hlt1, hlt2⟩ := hlt
        go_wp2
        all_goals first
          | (go_ret2; exact ⟨by rw [G_hi HG hlt1 hlt2 (by omega) (by omega)]; rfl, rfl⟩)
          | (go_ret2; exact ⟨by rw [G_zero HG hlt1 hlt2 (by omega) (by omega)]; rfl, rfl⟩)
          | (go_ret2; exact ⟨ret_g (G_last HG hlt1 hlt2 (by omega) (by omega) (by omega)).1 (G_last HG hlt1 hlt2 (by omega) (by omega) (by omega)).2, rfl⟩)
          | (go_ret2; exact ⟨ret_g (G_last9 HG hlt1 (by omega) (by omega) (by omega)).1 (G_last9 HG hlt1 (by omega) (by omega) (by omega)).2, rfl⟩)
          | (go_ret2; exact ⟨ret_g (G_last0 HG hlt1 (by omega) (by omega)).1 (G_last0 HG hlt1 (by omega) (by omega)).2, rfl⟩)
          | skip
        obtain ⟨acc', ha1, ha2⟩ := G_more HG hlt1 hlt2 (by omega) (by omega)
        go_round
        case rel => exact ⟨k + 1, acc', by rw [ha1], by go_num, by omega, by omega, ha2⟩
        case measure => simp [intOf]; omega
      · have hz := G_end HG hL1 hlt hL2
        have HZ := Lib.hid hz
        clear hz
        go_wp2
        go_ret2
        exact ⟨by rw [HZ.out]; rfl, rfl⟩
end Go.Proofs.Ytipiplnhbecjeaa

/- A source's methods that read, at a source that is nil, bad, or good. -/
namespace Go.Proofs.Ytipiplnhbecjeaa
set_option linter.unusedVariables false
set_option linter.unusedSimpArgs false
open Go.RowKit

/-- A code that is read, most at most: what it says, and its bytes: (0, 0), if there is none. -/
def readN (s : ByteArray) (most : Nat) : Nat × Nat := if (getG 0 0 s.data.toList).2 = 0 ∨ most < (getG 0 0 s.data.toList).1 then (0, 0) else getG 0 0 s.data.toList
theorem readN_size (s : ByteArray) (most : Nat) : (readN s most).2 ≤ s.size := by
  unfold readN
  have := (getG_size_le s.data.toList 0 0).1
  split
  · exact Nat.zero_le _
  · simpa using this
theorem readN_lt (s : ByteArray) (most : Nat) : (readN s most).1 < 18446744073709551616 := by
  unfold readN
  split
  · decide
  · exact getG_lt _ 0 0 (by decide) (by omega)
theorem readN_le (s : ByteArray) (most : Nat) : (readN s most).1 ≤ most := by
  unfold readN
  split
  · exact Nat.zero_le _
  · omega
theorem gets_is (s : ByteArray) (w : World) (x sz : Nat) (hs : (s.size : Int) ≤ 9223372036854775807) (h : getG 0 0 s.data.toList = (x, sz)) :
    Calls Try.prog 101 #[.string s] w fun e w' => e = .returned (.tuple #[.int .u64 x, .int .i64 sz]) ∧ w = w' := by
  have := gets_any s w hs
  rw [h] at this
  exact this

/-- A cell of the call's own that holds v. -/
def Holds1 (w : World) (B : Nat) (v : Value) : Prop := w.cell? ⟨B, 0, none⟩ = some v ∧ w.frozen? ⟨B, 0, none⟩ = false ∧ B < w.heap.size
theorem Holds1.lt {w : World} {B : Nat} {v : Value} (h : Holds1 w B v) : B < w.heap.size := h.2.2
theorem Holds1.new (w : World) (v : Value) (t : TypeId) : Holds1 (w.alloc (.cells #[v] t)) w.heap.size v := by
  have hb : (w.alloc (.cells #[v] t)).heap[w.heap.size]? = some (.cells #[v] t (0, 0)) := heap_alloc_new w _
  exact ⟨Go.Joins.cell_of_block hb 0, Go.Joins.unfrozen_of_block hb 0, by simp⟩
theorem Holds1.of {w w' : World} {B : Nat} {v : Value} (h : Holds1 w B v) (he : w'.heap[B]? = w.heap[B]?) (hs : w.heap.size ≤ w'.heap.size) : Holds1 w' B v :=
  ⟨(World.cell?_of_block (a := ⟨B, 0, none⟩) he).trans h.1, (World.frozen?_of_block (a := ⟨B, 0, none⟩) he).trans h.2.1, Nat.lt_of_lt_of_le h.2.2 hs⟩
theorem Holds1.alloc {w : World} {B : Nat} {v : Value} (h : Holds1 w B v) (o : Obj) : Holds1 (w.alloc o) B v := h.of (Below.heap_alloc w o B h.lt) (by simp)
theorem Holds1.only {w w' : World} {B g : Nat} {v : Value} (h : Holds1 w B v) (ho : Only w w' g) (hne : B ≠ g) : Holds1 w' B v := h.of (ho.block B h.lt (by rintro ⟨⟩; exact hne rfl)) ho.size
theorem Holds1.set {w : World} {B : Nat} {v : Value} (h : Holds1 w B v) (u : Value) : Holds1 (w.setCell ⟨B, 0, none⟩ u) B u :=
  ⟨World.cell?_setCell_same _ _ _ h.1, (World.frozen?_setCell _ _ _ _).trans h.2.1, by simpa [World.setCell] using h.2.2⟩
theorem Holds1.far {w : World} {B : Nat} {v : Value} (h : Holds1 w B v) {p : Addr} (hne : B ≠ p.block) (u : Value) : Holds1 (w.setCell p u) B v := h.of (Below.heap_setCell w p u B hne) (by simp [World.setCell])
theorem Src.alloc {w : World} {g : Nat} {s : ByteArray} {b : Bool} (h : Src w g s b) (o : Obj) : Src (w.alloc o) g s b := (Below.heap_alloc w o g h.lt).trans h
theorem Src.far {w : World} {g : Nat} {s : ByteArray} {b : Bool} (h : Src w g s b) {p : Addr} (hne : g ≠ p.block) (u : Value) : Src (w.setCell p u) g s b := (Below.heap_setCell w p u g hne).trans h

/-! groups -/
set_option maxHeartbeats 400000 in
theorem groupsC_any (s : ByteArray) (w : World) (Bm Bn : Nat) (most : Nat) (hs : (s.size : Int) ≤ 9223372036854775807) (hm : Holds1 w Bm (.int .u64 most)) (hn : Holds1 w Bn (.int .u64 0)) :
    Calls Try.prog 100 #[.string s, .pointer (some ⟨Bm, 0, none⟩), .pointer (some ⟨Bn, 0, none⟩)] w fun e w' => e = .returned (.int .i64 (readN s most).2) ∧ Holds1 w' Bn (.int .u64 (readN s most).1) ∧ (w' = w ∨ ∃ u, w' = w.setCell ⟨Bn, 0, none⟩ u) := by
  obtain ⟨x, sz, hg⟩ : ∃ x sz, getG 0 0 s.data.toList = (x, sz) := ⟨_, _, rfl⟩
  have hr : readN s most = if sz = 0 ∨ most < x then (0, 0) else (x, sz) := by unfold readN; rw [hg]
  have HG := Lib.hid hg
  have HR := Lib.hid hr
  have HN := Lib.hid hn
  have c1 := hm.1
  have c2 := hn.1
  have f2 := hn.2.1
  clear hg hr hm hn
  by_cases h0 : sz = 0
  · go_enter Try.func100, Try.ntmps100
    go_wp2_with (go_at_call 101; refine (gets_is s _ x sz hs HG.out).mono ?_; rintro e w' ⟨rfl, rfl⟩)
    go_ret
    have e := HR.out
    rw [if_pos (Or.inl h0)] at e
    exact ⟨by rw [e]; rfl, by rw [e]; exact HN.out, .inl rfl⟩
  · have hz2 : ((sz : Int) == 0) = false := by simp; omega
    by_cases h1 : most < x
    · go_enter Try.func100, Try.ntmps100
      go_wp2_with (go_at_call 101; refine (gets_is s _ x sz hs HG.out).mono ?_; rintro e w' ⟨rfl, rfl⟩)
      go_ret
      have e := HR.out
      rw [if_pos (Or.inr h1)] at e
      exact ⟨by rw [e]; rfl, by rw [e]; exact HN.out, .inl rfl⟩
    · go_enter Try.func100, Try.ntmps100
      go_wp2_with (go_at_call 101; refine (gets_is s _ x sz hs HG.out).mono ?_; rintro e w' ⟨rfl, rfl⟩)
      go_ret
      have e := HR.out
      rw [if_neg (by omega)] at e
      exact ⟨by rw [e]; rfl, by rw [e]; exact HN.out.set _, .inr ⟨_, rfl⟩⟩

/-- A source that is moved on by n bytes, or made bad (n = 0), by a call that began in w. -/
def After (w w' : World) (g : Nat) (s : ByteArray) (n : Nat) : Prop := Only w w' g ∧ (n = 0 → Src w' g ByteArray.empty true) ∧ (0 < n → Src w' g (s.extract n s.size) false)

set_option maxHeartbeats 400000 in
theorem groups_good (g : Nat) (s : ByteArray) (most : Nat) (w : World) (h : Src w g s false) (hs : (s.size : Int) ≤ 9223372036854775807) :
    Calls Try.prog 88 #[.pointer (some ⟨g, 0, none⟩), .int .u64 most] w fun e w' => e = .returned (.int .u64 (readN s most).1) ∧ After w w' g s (readN s most).2 := by
  have HM : Holds1 ((w.alloc (.cells #[.int .u64 most] 81)).alloc (.cells #[.int .u64 0] 81)) w.heap.size (.int .u64 most) := (Holds1.new w _ _).alloc _
  have HN : Holds1 ((w.alloc (.cells #[.int .u64 most] 81)).alloc (.cells #[.int .u64 0] 81)) (w.heap.size + 1) (.int .u64 0) := by
    have := Holds1.new (w.alloc (.cells #[.int .u64 most] 81)) (.int .u64 0) 81
    simpa using this
  have HS : Src ((w.alloc (.cells #[.int .u64 most] 81)).alloc (.cells #[.int .u64 0] 81)) g s false := (h.alloc _).alloc _
  have hlt := h.lt
  have HM := Lib.hid HM
  have HN := Lib.hid HN
  have HS := Lib.hid HS
  clear h
  go_enter Try.func88, Try.ntmps88
  go_wp2_with fail
  refine (take_good 100 #[.pointer (some ⟨w.heap.size, 0, none⟩), .pointer (some ⟨w.heap.size + 1, 0, none⟩)] g s (readN s most).2 _ (fun w1 => Holds1 w1 (w.heap.size + 1) (.int .u64 (readN s most).1) ∧ Only w w1 g) HS.out (readN_size s most) hs enters_groups ?_).mono ?_
  · refine (groupsC_any s _ w.heap.size (w.heap.size + 1) most hs HM.out HN.out).mono ?_
    rintro e w' ⟨rfl, h1, h2⟩
    refine ⟨rfl, ?_, h1, ?_⟩
    · rcases h2 with rfl | ⟨u, rfl⟩
      · exact HS.out
      · exact HS.out.far (by simp; omega) u
    · have ho : Only w ((w.alloc (.cells #[.int .u64 most] 81)).alloc (.cells #[.int .u64 0] 81)) g := ((Only.refl w g).alloc _).alloc _
      rcases h2 with rfl | ⟨u, rfl⟩
      · exact ho
      · exact ho.setNew (by simp) u
  · rintro e w' ⟨rfl, w1, ⟨hn, ho⟩, hmv⟩
    have hn' := hn.only hmv.1 (by omega)
    have hc := hn'.1
    have HF : After w w' g s (readN s most).2 := ⟨ho.trans hmv.1, hmv.2.1, hmv.2.2⟩
    have HF := Lib.hid HF
    clear hn hn' hmv ho
    go_wp2_with fail
    go_ret
    exact ⟨rfl, HF.out⟩

set_option maxHeartbeats 400000 in
theorem groups_nil (M : Int) (w : World) : Calls Try.prog 88 #[.pointer none, .int .u64 M] w fun e w' => e = .returned (.int .u64 0) ∧ Below w.heap.size w w' := by
  go_enter Try.func88, Try.ntmps88
  go_wp2_with (go_at_call 71; refine (take_nil _ _).mono ?_; rintro e w' ⟨rfl, rfl⟩)
  go_ret
  exact ⟨rfl, ((Below.refl _ _).alloc (Nat.le_refl _) _).alloc (by simp) _⟩
set_option maxHeartbeats 400000 in
theorem groups_bad (g : Nat) (s : ByteArray) (M : Int) (w : World) (h : Src w g s true) :
    Calls Try.prog 88 #[.pointer (some ⟨g, 0, none⟩), .int .u64 M] w fun e w' => e = .returned (.int .u64 0) ∧ Only w w' g ∧ Src w' g s true := by
  have HS : Src ((w.alloc (.cells #[.int .u64 M] 81)).alloc (.cells #[.int .u64 0] 81)) g s true := (h.alloc _).alloc _
  have HS := Lib.hid HS
  clear h
  go_enter Try.func88, Try.ntmps88
  go_wp2_with (go_at_call 71; refine (take_bad _ g s _ HS.out).mono ?_; rintro e w' ⟨rfl, rfl⟩)
  go_ret
  exact ⟨rfl, ((Only.refl w g).alloc _).alloc _, HS.out⟩

/-! Sources by what they have left: none, if they are bad. -/
def SrcL (w : World) (g : Nat) : Option (List UInt8) → Prop
  | none => Src w g ByteArray.empty true
  | some l => Src w g ⟨l.toArray⟩ false ∧ l.length ≤ 9223372036854775807
theorem SrcL.lt {w : World} {g : Nat} {st : Option (List UInt8)} (h : SrcL w g st) : g < w.heap.size := by
  cases st with
  | none => exact Src.lt h
  | some l => exact Src.lt h.1
theorem SrcL.of {w w' : World} {g : Nat} {st : Option (List UInt8)} (h : SrcL w g st) (he : w'.heap[g]? = w.heap[g]?) : SrcL w' g st := by
  cases st with
  | none => exact he.trans h
  | some l => exact ⟨he.trans h.1, h.2⟩
theorem SrcL.alloc {w : World} {g : Nat} {st : Option (List UInt8)} (h : SrcL w g st) (o : Obj) : SrcL (w.alloc o) g st := h.of (Below.heap_alloc w o g h.lt)
theorem SrcL.far {w : World} {g : Nat} {st : Option (List UInt8)} (h : SrcL w g st) {p : Addr} (hne : g ≠ p.block) (u : Value) : SrcL (w.setCell p u) g st := h.of (Below.heap_setCell w p u g hne)
theorem SrcL.keep {w w' : World} {g B : Nat} {st : Option (List UInt8)} (h : SrcL w g st) (hb : Below B w w') (hg : g < B) : SrcL w' g st := h.of (hb.block g hg)

/-- The next code, most at most. -/
def rdN (most : Nat) : Option (List UInt8) → Nat × Option (List UInt8)
  | none => (0, none)
  | some l => if (getG 0 0 l).2 = 0 ∨ most < (getG 0 0 l).1 then (0, none) else ((getG 0 0 l).1, some (l.drop (getG 0 0 l).2))
def rdByte : Option (List UInt8) → Nat × Option (List UInt8)
  | none => (0, none)
  | some [] => (0, none)
  | some (b :: r) => (b.toNat, some r)
def rdInt (st : Option (List UInt8)) : Int × Option (List UInt8) := (zag (rdN 18446744073709551615 st).1, (rdN 18446744073709551615 st).2)
def mc (n : Int) : Nat := if n ≤ 4611686018427387904 then n.toNat else 4611686018427387904
def rdCount (n : Int) (st : Option (List UInt8)) : Nat × Option (List UInt8) := if n < 0 then (0, none) else rdN (mc n) st
def rdText (n : Int) (st : Option (List UInt8)) : List UInt8 × Option (List UInt8) :=
  if (rdCount n st).1 = 0 then ([], (rdCount n st).2)
  else match (rdCount n st).2 with
    | none => ([], none)
    | some r => if r.length < (rdCount n st).1 then ([], none) else (r.take (rdCount n st).1, some (r.drop (rdCount n st).1))

theorem extract_drop (l : List UInt8) (n : Nat) : (⟨l.toArray⟩ : ByteArray).extract n (⟨l.toArray⟩ : ByteArray).size = ⟨(l.drop n).toArray⟩ := by
  have h := Lib.extract_data (⟨l.toArray⟩ : ByteArray) n (⟨l.toArray⟩ : ByteArray).size
  have e : ((⟨l.toArray⟩ : ByteArray).extract n (⟨l.toArray⟩ : ByteArray).size).data.toList = l.drop n := by
    rw [h]
    have e2 : (⟨l.toArray⟩ : ByteArray).size = l.length := by simp [ByteArray.size]
    rw [e2]
    exact List.take_of_length_le (by simp)
  rw [← Go.Joins.bytes_eta ((⟨l.toArray⟩ : ByteArray).extract n _), e]
theorem size_mk (l : List UInt8) : (⟨l.toArray⟩ : ByteArray).size = l.length := by simp [ByteArray.size]

theorem groups_any (g : Nat) (st : Option (List UInt8)) (M : Int) (most : Nat) (w : World) (h : SrcL w g st) (hM : M = (most : Int)) :
    Calls Try.prog 88 #[.pointer (some ⟨g, 0, none⟩), .int .u64 M] w fun e w' => e = .returned (.int .u64 (rdN most st).1) ∧ SrcL w' g (rdN most st).2 ∧ Only w w' g := by
  subst hM
  cases st with
  | none => exact (groups_bad g _ _ w h).mono fun e w' ⟨he, ho, hs⟩ => ⟨he, hs, ho⟩
  | some l =>
    refine (groups_good g _ most w h.1 (by rw [size_mk]; have := h.2; omega)).mono fun e w' ⟨he, ho, h0, h1⟩ => ?_
    have hl := h.2
    unfold readN at he h0 h1
    simp only [rdN]
    split
    · next hc => rw [if_pos hc] at he h0; exact ⟨he, h0 rfl, ho⟩
    · next hc =>
      rw [if_neg hc] at he h1
      refine ⟨he, ⟨?_, ?_⟩, ho⟩
      · rw [← extract_drop]; exact h1 (by simp at hc ⊢; omega)
      · simp; omega
end Go.Proofs.Ytipiplnhbecjeaa
