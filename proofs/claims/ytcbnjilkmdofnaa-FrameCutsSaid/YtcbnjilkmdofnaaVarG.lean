/- A source's methods that read, at a source that is nil, bad, or good. -/
import Derived.Test.YtcbnjilkmdofnaaVarE
import Derived.Test.YtcbnjilkmdofnaaVarF
namespace Go.Proofs.Ytcbnjilkmdofnaa
set_option linter.unusedVariables false
set_option linter.unusedSimpArgs false
open Go.RowKit

/-- A code that is read, most at most: what it says, and its bytes: (0, 0), if there is none. -/
def readN (s : ByteArray) (most : Nat) : Nat × Nat := if (getG 0 0 s.data.toList).2 = 0 ∨ most < (getG 0 0 s.data.toList).1 then (0, 0) else getG 0 0 s.data.toList
theorem readN_size (s : ByteArray) (most : Nat) : (readN s most).2 ≤ s.size := by
  unfold readN
  have := (getG_size_le s.data.toList 0 0).1
  split
  · exact Nat.zero_le _
  · simpa using this
theorem readN_lt (s : ByteArray) (most : Nat) : (readN s most).1 < 18446744073709551616 := by
  unfold readN
  split
  · decide
  · exact getG_lt _ 0 0 (by decide) (by omega)
theorem readN_le (s : ByteArray) (most : Nat) : (readN s most).1 ≤ most := by
  unfold readN
  split
  · exact Nat.zero_le _
  · omega
theorem gets_is (s : ByteArray) (w : World) (x sz : Nat) (hs : (s.size : Int) ≤ 9223372036854775807) (h : getG 0 0 s.data.toList = (x, sz)) :
    Calls Try.prog 100 #[.string s] w fun e w' => e = .returned (.tuple #[.int .u64 x, .int .i64 sz]) ∧ w = w' := by
  have := gets_any s w hs
  rw [h] at this
  exact this

/-- A cell of the call's own that holds v. -/
def Holds1 (w : World) (B : Nat) (v : Value) : Prop := w.cell? ⟨B, 0, none⟩ = some v ∧ w.frozen? ⟨B, 0, none⟩ = false ∧ B < w.heap.size
theorem Holds1.lt {w : World} {B : Nat} {v : Value} (h : Holds1 w B v) : B < w.heap.size := h.2.2
theorem Holds1.new (w : World) (v : Value) (t : TypeId) : Holds1 (w.alloc (.cells #[v] t)) w.heap.size v := by
  have hb : (w.alloc (.cells #[v] t)).heap[w.heap.size]? = some (.cells #[v] t (0, 0)) := heap_alloc_new w _
  exact ⟨Go.Joins.cell_of_block hb 0, Go.Joins.unfrozen_of_block hb 0, by simp⟩
theorem Holds1.of {w w' : World} {B : Nat} {v : Value} (h : Holds1 w B v) (he : w'.heap[B]? = w.heap[B]?) (hs : w.heap.size ≤ w'.heap.size) : Holds1 w' B v :=
  ⟨(World.cell?_of_block (a := ⟨B, 0, none⟩) he).trans h.1, (World.frozen?_of_block (a := ⟨B, 0, none⟩) he).trans h.2.1, Nat.lt_of_lt_of_le h.2.2 hs⟩
theorem Holds1.alloc {w : World} {B : Nat} {v : Value} (h : Holds1 w B v) (o : Obj) : Holds1 (w.alloc o) B v := h.of (Below.heap_alloc w o B h.lt) (by simp)
theorem Holds1.only {w w' : World} {B g : Nat} {v : Value} (h : Holds1 w B v) (ho : Only w w' g) (hne : B ≠ g) : Holds1 w' B v := h.of (ho.block B h.lt (by rintro ⟨⟩; exact hne rfl)) ho.size
theorem Holds1.set {w : World} {B : Nat} {v : Value} (h : Holds1 w B v) (u : Value) : Holds1 (w.setCell ⟨B, 0, none⟩ u) B u :=
  ⟨World.cell?_setCell_same _ _ _ h.1, (World.frozen?_setCell _ _ _ _).trans h.2.1, by simpa [World.setCell] using h.2.2⟩
theorem Holds1.far {w : World} {B : Nat} {v : Value} (h : Holds1 w B v) {p : Addr} (hne : B ≠ p.block) (u : Value) : Holds1 (w.setCell p u) B v := h.of (Below.heap_setCell w p u B hne) (by simp [World.setCell])
theorem Src.alloc {w : World} {g : Nat} {s : ByteArray} {b : Bool} (h : Src w g s b) (o : Obj) : Src (w.alloc o) g s b := (Below.heap_alloc w o g h.lt).trans h
theorem Src.far {w : World} {g : Nat} {s : ByteArray} {b : Bool} (h : Src w g s b) {p : Addr} (hne : g ≠ p.block) (u : Value) : Src (w.setCell p u) g s b := (Below.heap_setCell w p u g hne).trans h

/-! groups -/
set_option maxHeartbeats 400000 in
theorem groupsC_any (s : ByteArray) (w : World) (Bm Bn : Nat) (most : Nat) (hs : (s.size : Int) ≤ 9223372036854775807) (hm : Holds1 w Bm (.int .u64 most)) (hn : Holds1 w Bn (.int .u64 0)) :
    Calls Try.prog 99 #[.string s, .pointer (some ⟨Bm, 0, none⟩), .pointer (some ⟨Bn, 0, none⟩)] w fun e w' => e = .returned (.int .i64 (readN s most).2) ∧ Holds1 w' Bn (.int .u64 (readN s most).1) ∧ (w' = w ∨ ∃ u, w' = w.setCell ⟨Bn, 0, none⟩ u) := by
  obtain ⟨x, sz, hg⟩ : ∃ x sz, getG 0 0 s.data.toList = (x, sz) := ⟨_, _, rfl⟩
  have hr : readN s most = if sz = 0 ∨ most < x then (0, 0) else (x, sz) := by unfold readN; rw [hg]
  have HG := Lib.hid hg
  have HR := Lib.hid hr
  have HN := Lib.hid hn
  have c1 := hm.1
  have c2 := hn.1
  have f2 := hn.2.1
  clear hg hr hm hn
  by_cases h0 : sz = 0
  · go_enter Try.func99, Try.ntmps99
    go_wp2_with (go_at_call 100; refine (gets_is s _ x sz hs HG.out).mono ?_; rintro e w' ⟨rfl, rfl⟩)
    go_ret
    have e := HR.out
    rw [if_pos (Or.inl h0)] at e
    exact ⟨by rw [e]; rfl, by rw [e]; exact HN.out, .inl rfl⟩
  · have hz2 : ((sz : Int) == 0) = false := by simp; omega
    by_cases h1 : most < x
    · go_enter Try.func99, Try.ntmps99
      go_wp2_with (go_at_call 100; refine (gets_is s _ x sz hs HG.out).mono ?_; rintro e w' ⟨rfl, rfl⟩)
      go_ret
      have e := HR.out
      rw [if_pos (Or.inr h1)] at e
      exact ⟨by rw [e]; rfl, by rw [e]; exact HN.out, .inl rfl⟩
    · go_enter Try.func99, Try.ntmps99
      go_wp2_with (go_at_call 100; refine (gets_is s _ x sz hs HG.out).mono ?_; rintro e w' ⟨rfl, rfl⟩)
      go_ret
      have e := HR.out
      rw [if_neg (by omega)] at e
      exact ⟨by rw [e]; rfl, by rw [e]; exact HN.out.set _, .inr ⟨_, rfl⟩⟩

/-- A source that is moved on by n bytes, or made bad (n = 0), by a call that began in w. -/
def After (w w' : World) (g : Nat) (s : ByteArray) (n : Nat) : Prop := Only w w' g ∧ (n = 0 → Src w' g ByteArray.empty true) ∧ (0 < n → Src w' g (s.extract n s.size) false)

set_option maxHeartbeats 400000 in
theorem groups_good (g : Nat) (s : ByteArray) (most : Nat) (w : World) (h : Src w g s false) (hs : (s.size : Int) ≤ 9223372036854775807) :
    Calls Try.prog 85 #[.pointer (some ⟨g, 0, none⟩), .int .u64 most] w fun e w' => e = .returned (.int .u64 (readN s most).1) ∧ After w w' g s (readN s most).2 := by
  have HM : Holds1 ((w.alloc (.cells #[.int .u64 most] 96)).alloc (.cells #[.int .u64 0] 96)) w.heap.size (.int .u64 most) := (Holds1.new w _ _).alloc _
  have HN : Holds1 ((w.alloc (.cells #[.int .u64 most] 96)).alloc (.cells #[.int .u64 0] 96)) (w.heap.size + 1) (.int .u64 0) := by
    have := Holds1.new (w.alloc (.cells #[.int .u64 most] 96)) (.int .u64 0) 96
    simpa using this
  have HS : Src ((w.alloc (.cells #[.int .u64 most] 96)).alloc (.cells #[.int .u64 0] 96)) g s false := (h.alloc _).alloc _
  have hlt := h.lt
  have HM := Lib.hid HM
  have HN := Lib.hid HN
  have HS := Lib.hid HS
  clear h
  go_enter Try.func85, Try.ntmps85
  go_wp2_with fail
  refine (take_good 99 #[.pointer (some ⟨w.heap.size, 0, none⟩), .pointer (some ⟨w.heap.size + 1, 0, none⟩)] g s (readN s most).2 _ (fun w1 => Holds1 w1 (w.heap.size + 1) (.int .u64 (readN s most).1) ∧ Only w w1 g) HS.out (readN_size s most) hs enters_groups ?_).mono ?_
  · refine (groupsC_any s _ w.heap.size (w.heap.size + 1) most hs HM.out HN.out).mono ?_
    rintro e w' ⟨rfl, h1, h2⟩
    refine ⟨rfl, ?_, h1, ?_⟩
    · rcases h2 with rfl | ⟨u, rfl⟩
      · exact HS.out
      · exact HS.out.far (by simp; omega) u
    · have ho : Only w ((w.alloc (.cells #[.int .u64 most] 96)).alloc (.cells #[.int .u64 0] 96)) g := ((Only.refl w g).alloc _).alloc _
      rcases h2 with rfl | ⟨u, rfl⟩
      · exact ho
      · exact ho.setNew (by simp) u
  · rintro e w' ⟨rfl, w1, ⟨hn, ho⟩, hmv⟩
    have hn' := hn.only hmv.1 (by omega)
    have hc := hn'.1
    have HF : After w w' g s (readN s most).2 := ⟨ho.trans hmv.1, hmv.2.1, hmv.2.2⟩
    have HF := Lib.hid HF
    clear hn hn' hmv ho
    go_wp2_with fail
    go_ret
    exact ⟨rfl, HF.out⟩

set_option maxHeartbeats 400000 in
theorem groups_nil (M : Int) (w : World) : Calls Try.prog 85 #[.pointer none, .int .u64 M] w fun e w' => e = .returned (.int .u64 0) ∧ Below w.heap.size w w' := by
  go_enter Try.func85, Try.ntmps85
  go_wp2_with (go_at_call 76; refine (take_nil _ _).mono ?_; rintro e w' ⟨rfl, rfl⟩)
  go_ret
  exact ⟨rfl, ((Below.refl _ _).alloc (Nat.le_refl _) _).alloc (by simp) _⟩
set_option maxHeartbeats 400000 in
theorem groups_bad (g : Nat) (s : ByteArray) (M : Int) (w : World) (h : Src w g s true) :
    Calls Try.prog 85 #[.pointer (some ⟨g, 0, none⟩), .int .u64 M] w fun e w' => e = .returned (.int .u64 0) ∧ Only w w' g ∧ Src w' g s true := by
  have HS : Src ((w.alloc (.cells #[.int .u64 M] 96)).alloc (.cells #[.int .u64 0] 96)) g s true := (h.alloc _).alloc _
  have HS := Lib.hid HS
  clear h
  go_enter Try.func85, Try.ntmps85
  go_wp2_with (go_at_call 76; refine (take_bad _ g s _ HS.out).mono ?_; rintro e w' ⟨rfl, rfl⟩)
  go_ret
  exact ⟨rfl, ((Only.refl w g).alloc _).alloc _, HS.out⟩

/-! Sources by what they have left: none, if they are bad. -/
def SrcL (w : World) (g : Nat) : Option (List UInt8) → Prop
  | none => Src w g ByteArray.empty true
  | some l => Src w g ⟨l.toArray⟩ false ∧ l.length ≤ 9223372036854775807
theorem SrcL.lt {w : World} {g : Nat} {st : Option (List UInt8)} (h : SrcL w g st) : g < w.heap.size := by
  cases st with
  | none => exact Src.lt h
  | some l => exact Src.lt h.1
theorem SrcL.of {w w' : World} {g : Nat} {st : Option (List UInt8)} (h : SrcL w g st) (he : w'.heap[g]? = w.heap[g]?) : SrcL w' g st := by
  cases st with
  | none => exact he.trans h
  | some l => exact ⟨he.trans h.1, h.2⟩
theorem SrcL.alloc {w : World} {g : Nat} {st : Option (List UInt8)} (h : SrcL w g st) (o : Obj) : SrcL (w.alloc o) g st := h.of (Below.heap_alloc w o g h.lt)
theorem SrcL.far {w : World} {g : Nat} {st : Option (List UInt8)} (h : SrcL w g st) {p : Addr} (hne : g ≠ p.block) (u : Value) : SrcL (w.setCell p u) g st := h.of (Below.heap_setCell w p u g hne)
theorem SrcL.keep {w w' : World} {g B : Nat} {st : Option (List UInt8)} (h : SrcL w g st) (hb : Below B w w') (hg : g < B) : SrcL w' g st := h.of (hb.block g hg)

/-- The next code, most at most. -/
def rdN (most : Nat) : Option (List UInt8) → Nat × Option (List UInt8)
  | none => (0, none)
  | some l => if (getG 0 0 l).2 = 0 ∨ most < (getG 0 0 l).1 then (0, none) else ((getG 0 0 l).1, some (l.drop (getG 0 0 l).2))
def rdByte : Option (List UInt8) → Nat × Option (List UInt8)
  | none => (0, none)
  | some [] => (0, none)
  | some (b :: r) => (b.toNat, some r)
def rdInt (st : Option (List UInt8)) : Int × Option (List UInt8) := (zag (rdN 18446744073709551615 st).1, (rdN 18446744073709551615 st).2)
def mc (n : Int) : Nat := if n ≤ 4611686018427387904 then n.toNat else 4611686018427387904
def rdCount (n : Int) (st : Option (List UInt8)) : Nat × Option (List UInt8) := if n < 0 then (0, none) else rdN (mc n) st
def rdText (n : Int) (st : Option (List UInt8)) : List UInt8 × Option (List UInt8) :=
  if (rdCount n st).1 = 0 then ([], (rdCount n st).2)
  else match (rdCount n st).2 with
    | none => ([], none)
    | some r => if r.length < (rdCount n st).1 then ([], none) else (r.take (rdCount n st).1, some (r.drop (rdCount n st).1))

theorem extract_drop (l : List UInt8) (n : Nat) : (⟨l.toArray⟩ : ByteArray).extract n (⟨l.toArray⟩ : ByteArray).size = ⟨(l.drop n).toArray⟩ := by
  have h := Lib.extract_data (⟨l.toArray⟩ : ByteArray) n (⟨l.toArray⟩ : ByteArray).size
  have e : ((⟨l.toArray⟩ : ByteArray).extract n (⟨l.toArray⟩ : ByteArray).size).data.toList = l.drop n := by
    rw [h]
    have e2 : (⟨l.toArray⟩ : ByteArray).size = l.length := by simp [ByteArray.size]
    rw [e2]
    exact List.take_of_length_le (by simp)
  rw [← Go.Joins.bytes_eta ((⟨l.toArray⟩ : ByteArray).extract n _), e]
theorem size_mk (l : List UInt8) : (⟨l.toArray⟩ : ByteArray).size = l.length := by simp [ByteArray.size]

theorem groups_any (g : Nat) (st : Option (List UInt8)) (M : Int) (most : Nat) (w : World) (h : SrcL w g st) (hM : M = (most : Int)) :
    Calls Try.prog 85 #[.pointer (some ⟨g, 0, none⟩), .int .u64 M] w fun e w' => e = .returned (.int .u64 (rdN most st).1) ∧ SrcL w' g (rdN most st).2 ∧ Only w w' g := by
  subst hM
  cases st with
  | none => exact (groups_bad g _ _ w h).mono fun e w' ⟨he, ho, hs⟩ => ⟨he, hs, ho⟩
  | some l =>
    refine (groups_good g _ most w h.1 (by rw [size_mk]; have := h.2; omega)).mono fun e w' ⟨he, ho, h0, h1⟩ => ?_
    have hl := h.2
    unfold readN at he h0 h1
    simp only [rdN]
    split
    · next hc => rw [if_pos hc] at he h0; exact ⟨he, h0 rfl, ho⟩
    · next hc =>
      rw [if_neg hc] at he h1
      refine ⟨he, ⟨?_, ?_⟩, ho⟩
      · rw [← extract_drop]; exact h1 (by simp at hc ⊢; omega)
      · simp; omega
end Go.Proofs.Ytcbnjilkmdofnaa
