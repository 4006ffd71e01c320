/- Numbers, counts, bytes and texts read from a source that is nil, or that has something left, or is bad. -/
import Derived.Test.YtipiplnhbecjeaaKVarD
namespace Go.Proofs.Ytipiplnhbecjeaa
set_option linter.unusedVariables false
set_option linter.unusedSimpArgs false
open Go.RowKit

theorem maxU : (18446744073709551615 : Int) = ((18446744073709551615 : Nat) : Int) := rfl
theorem rdN_lt (most : Nat) (st : Option (List UInt8)) : (rdN most st).1 < 18446744073709551616 := by
  cases st with
  | none => simp [rdN]
  | some l =>
    simp only [rdN]
    split
    · simp
    · exact getG_lt _ 0 0 (by decide) (by omega)
theorem rdN_le (most : Nat) (st : Option (List UInt8)) : (rdN most st).1 ≤ most := by
  cases st with
  | none => simp [rdN]
  | some l =>
    simp only [rdN]
    split
    · simp
    · simp only []; omega

set_option maxHeartbeats 400000 in
theorem sint_nil (w : World) : Calls Try.prog 90 #[.pointer none] w fun e w' => e = .returned (.int .i64 0) ∧ Below w.heap.size w w' := by
  go_enter Try.func90, Try.ntmps90
  go_wp2_with fail
  refine (groups_nil _ _).mono ?_
  rintro e w1 ⟨rfl, hb⟩
  go_wp2_with fail
  refine (unfold_any 0 _ (by decide)).mono ?_
  rintro e w2 ⟨rfl, rfl⟩
  go_wp2_with fail
  go_ret
  exact ⟨rfl, hb⟩
set_option maxHeartbeats 400000 in
theorem sint_any (g : Nat) (st : Option (List UInt8)) (w : World) (h : SrcL w g st) :
    Calls Try.prog 90 #[.pointer (some ⟨g, 0, none⟩)] w fun e w' => e = .returned (.int .i64 (rdInt st).1) ∧ SrcL w' g (rdInt st).2 ∧ Only w w' g := by
  have H := Lib.hid h
  clear h
  go_enter Try.func90, Try.ntmps90
  go_wp2_with fail
  refine (groups_any g st _ 18446744073709551615 _ H.out maxU).mono ?_
  rintro e w1 ⟨rfl, hs, ho⟩
  have HS := Lib.hid hs
  have HO := Lib.hid ho
  clear hs ho
  go_wp2_with fail
  refine (unfold_any _ _ (rdN_lt _ _)).mono ?_
  rintro e w2 ⟨rfl, rfl⟩
  go_wp2_with fail
  go_ret
  exact ⟨rfl, HS.out, HO.out⟩

set_option maxHeartbeats 400000 in
theorem scount_nil (n : Int) (w : World) (h2 : n ≤ 9223372036854775807) : Calls Try.prog 73 #[.pointer none, .int .i64 n] w fun e w' => e = .returned (.int .i64 0) ∧ Below w.heap.size w w' := by
  by_cases h0 : n < 0
  · clear h2
    go_enter Try.func73, Try.ntmps73
    go_wp2_with fail
    refine (spoil_nil _).mono ?_
    rintro e w1 ⟨rfl, rfl⟩
    go_wp2_with fail
    go_ret
    exact ⟨rfl, Below.refl _ _⟩
  · by_cases h3 : n ≤ 4611686018427387904
    · go_enter Try.func73, Try.ntmps73
      go_wp2_with fail
      all_goals
        refine (groups_nil _ _).mono ?_
        rintro e w1 ⟨rfl, hb⟩
        go_wp2_with fail
        go_ret
        exact ⟨rfl, hb⟩
    · go_enter Try.func73, Try.ntmps73
      go_wp2_with fail
      all_goals
        refine (groups_nil _ _).mono ?_
        rintro e w1 ⟨rfl, hb⟩
        go_wp2_with fail
        go_ret
        exact ⟨rfl, hb⟩
set_option maxHeartbeats 400000 in
theorem scount_any (g : Nat) (st : Option (List UInt8)) (n : Int) (w : World) (h : SrcL w g st) (h2 : n ≤ 9223372036854775807) :
    Calls Try.prog 73 #[.pointer (some ⟨g, 0, none⟩), .int .i64 n] w fun e w' => e = .returned (.int .i64 (rdCount n st).1) ∧ SrcL w' g (rdCount n st).2 ∧ Only w w' g := by
  have H := Lib.hid h
  clear h
  by_cases h0 : n < 0
  · have HR : Hid (rdCount n st = (0, none)) := by unfold rdCount; rw [if_pos h0]; exact rfl
    clear h2
    obtain ⟨s, b, hs⟩ : ∃ s b, Src w g s b := by
      cases st with
      | none => exact ⟨_, _, H.out⟩
      | some l => exact ⟨_, _, H.out.1⟩
    have HS := Lib.hid hs
    clear hs
    go_enter Try.func73, Try.ntmps73
    go_wp2_with fail
    refine (spoil_any g s b _ HS.out).mono ?_
    rintro e w1 ⟨rfl, hs1, ho⟩
    go_wp2_with fail
    go_ret
    rw [HR.out]
    exact ⟨rfl, hs1, ho⟩
  · have HR : Hid (rdCount n st = rdN (mc n) st) := by unfold rdCount; rw [if_neg h0]; exact rfl
    have hm2 : mc n ≤ 4611686018427387904 := by unfold mc; split <;> omega
    have hle := rdN_le (mc n) st
    have hle2 : (((rdN (mc n) st).1 : Nat) : Int) ≤ 4611686018427387904 := by omega
    by_cases h3 : n ≤ 4611686018427387904
    · have HM : Hid (n = (mc n : Int)) := by show n = (mc n : Int); unfold mc; rw [if_pos h3]; omega
      clear hle hm2
      go_enter Try.func73, Try.ntmps73
      go_wp2_with fail
      all_goals
        refine (groups_any g st _ (mc n) _ H.out (by have := HM.out; omega)).mono ?_
        rintro e w1 ⟨rfl, hs, ho⟩
        go_wp2_with fail
        go_ret
        rw [HR.out]
        exact ⟨rfl, hs, ho⟩
    · have HM : Hid ((4611686018427387904 : Int) = (mc n : Int)) := by show (4611686018427387904 : Int) = (mc n : Int); unfold mc; rw [if_neg h3]; rfl
      clear hle hm2
      go_enter Try.func73, Try.ntmps73
      go_wp2_with fail
      all_goals
        refine (groups_any g st _ (mc n) _ H.out HM.out).mono ?_
        rintro e w1 ⟨rfl, hs, ho⟩
        go_wp2_with fail
        go_ret
        rw [HR.out]
        exact ⟨rfl, hs, ho⟩
end Go.Proofs.Ytipiplnhbecjeaa

/- Bytes and texts read from a source. -/
namespace Go.Proofs.Ytipiplnhbecjeaa
set_option linter.unusedVariables false
set_option linter.unusedSimpArgs false
open Go.RowKit

theorem toList_ne (s : ByteArray) (h : 0 < s.size) : s.toList.isEmpty = false ∧ s.toList ≠ [] := by
  have hl : s.toList.length = s.size := by rw [ByteArray.toList_eq s]; simp
  have hne : s.toList ≠ [] := by intro e; rw [e] at hl; simp at hl; omega
  exact ⟨by cases hh : s.toList with
    | nil => exact absurd hh hne
    | cons a r => rfl, hne⟩
theorem toList_nil_e (s : ByteArray) (h : s.size = 0) : s.toList.isEmpty = true ∧ s.toList = [] := by
  have hl : s.toList.length = s.size := by rw [ByteArray.toList_eq s]; simp
  have hne : s.toList = [] := List.eq_nil_of_length_eq_zero (by omega)
  exact ⟨by rw [hne]; rfl, hne⟩
set_option maxHeartbeats 400000 in
theorem byteC_some (s : ByteArray) (w : World) (B : Nat) (hp : 0 < s.size) (hx : Holds1 w B (.int .i64 0)) :
    Calls Try.prog 72 #[.string s, .pointer (some ⟨B, 0, none⟩)] w fun e w' => e = .returned (.int .i64 1) ∧ w' = w.setCell ⟨B, 0, none⟩ (.int .i64 (s[0].toNat : Int)) := by
  have c1 := hx.1
  have f1 := hx.2.1
  have hn1 := (toList_ne s hp).1
  have hn2 := (toList_ne s hp).2
  have hb : (s[0].toNat : Int) < 256 := by have := UInt8.toNat_lt s[0]; omega
  clear hx
  go_enter Try.func72, Try.ntmps72
  go_wp2
  go_ret
  exact ⟨rfl, rfl⟩
set_option maxHeartbeats 400000 in
theorem byteC_none (s : ByteArray) (w : World) (p : Value) (hp : s.size = 0) :
    Calls Try.prog 72 #[.string s, p] w fun e w' => e = .returned (.int .i64 0) ∧ w' = w := by
  have hn1 := (toList_nil_e s hp).1
  have hn2 := (toList_nil_e s hp).2
  clear hp
  go_enter Try.func72, Try.ntmps72
  go_wp2
  go_ret
  exact ⟨rfl, rfl⟩

set_option maxHeartbeats 400000 in
theorem sbyte_nil (w : World) : Calls Try.prog 51 #[.pointer none] w fun e w' => e = .returned (.int .i64 0) ∧ Below w.heap.size w w' := by
  go_enter Try.func51, Try.ntmps51
  go_wp2_with (go_at_call 71; refine (take_nil _ _).mono ?_; rintro e w' ⟨rfl, rfl⟩)
  go_ret
  exact ⟨rfl, (Below.refl _ _).alloc (Nat.le_refl _) _⟩
theorem head_mk (b : UInt8) (r : List UInt8) (h : 0 < (⟨(b :: r).toArray⟩ : ByteArray).size) : (⟨(b :: r).toArray⟩ : ByteArray)[0] = b := rfl
set_option maxHeartbeats 400000 in
theorem sbyte_any (g : Nat) (st : Option (List UInt8)) (w : World) (h : SrcL w g st) :
    Calls Try.prog 51 #[.pointer (some ⟨g, 0, none⟩)] w fun e w' => e = .returned (.int .i64 (rdByte st).1) ∧ SrcL w' g (rdByte st).2 ∧ Only w w' g := by
  have HX : Holds1 (w.alloc (.cells #[.int .i64 0] 3)) w.heap.size (.int .i64 0) := Holds1.new w _ _
  have H1 := h.alloc (.cells #[.int .i64 0] 3)
  have hlt := h.lt
  have HO : Only w (w.alloc (.cells #[.int .i64 0] 3)) g := (Only.refl w g).alloc _
  have HX := Lib.hid HX
  have H1 := Lib.hid H1
  have HO := Lib.hid HO
  clear h
  rcases st with _ | l
  · go_enter Try.func51, Try.ntmps51
    go_wp2_with (go_at_call 71; refine (take_bad _ g _ _ H1.out).mono ?_; rintro e w' ⟨rfl, rfl⟩)
    go_ret
    exact ⟨rfl, H1.out, HO.out⟩
  · rcases l with _ | ⟨b, r⟩
    · go_enter Try.func51, Try.ntmps51
      go_wp2_with fail
      refine (take_good 72 #[.pointer (some ⟨w.heap.size, 0, none⟩)] g _ 0 _ (fun w1 => Holds1 w1 w.heap.size (.int .i64 0) ∧ Only w w1 g) H1.out.1 (Nat.zero_le _) (by rw [size_mk]; simp) enters_byte ?_).mono ?_
      · refine (byteC_none _ _ _ (by rw [size_mk]; rfl)).mono ?_
        rintro e w' ⟨rfl, rfl⟩
        exact ⟨rfl, H1.out.1, HX.out, HO.out⟩
      · rintro e w' ⟨rfl, w1, ⟨hn, ho⟩, hmv⟩
        have hn' := hn.only hmv.1 (by omega)
        have hc := hn'.1
        have HF : Hid (SrcL w' g none ∧ Only w w' g) := ⟨hmv.2.1 rfl, ho.trans hmv.1⟩
        clear hn hn' hmv ho
        go_wp2_with fail
        go_ret
        exact ⟨rfl, HF.out.1, HF.out.2⟩
    · go_enter Try.func51, Try.ntmps51
      go_wp2_with fail
      refine (take_good 72 #[.pointer (some ⟨w.heap.size, 0, none⟩)] g _ 1 _ (fun w1 => Holds1 w1 w.heap.size (.int .i64 b.toNat) ∧ Only w w1 g) H1.out.1 (by rw [size_mk]; simp) (by rw [size_mk]; have := H1.out.2; omega) enters_byte ?_).mono ?_
      · refine (byteC_some _ _ w.heap.size (by rw [size_mk]; simp) HX.out).mono ?_
        rintro e w' ⟨rfl, rfl⟩
        exact ⟨rfl, H1.out.1.far (by simp; omega) _, HX.out.set _, HO.out.setNew (by simp) _⟩
      · rintro e w' ⟨rfl, w1, ⟨hn, ho⟩, hmv⟩
        have hn' := hn.only hmv.1 (by omega)
        have hc := hn'.1
        have HF : Hid (SrcL w' g (some r) ∧ Only w w' g) := by
          refine ⟨⟨?_, ?_⟩, ho.trans hmv.1⟩
          · have h2 := hmv.2.2 (by omega)
            rw [extract_drop] at h2
            exact h2
          · have := H1.out.2
            simp at this; omega
        clear hn hn' hmv ho
        go_wp2_with fail
        go_ret
        exact ⟨rfl, HF.out.1, HF.out.2⟩

/-! Texts. -/
set_option maxHeartbeats 400000 in
theorem textC_some (s : ByteArray) (n : Nat) (w : World) (Bn Bt : Nat) (hp : n ≤ s.size) (hs : (s.size : Int) ≤ 9223372036854775807) (hn : Holds1 w Bn (.int .i64 n)) (hx : Holds1 w Bt (.string ByteArray.empty)) (hne : Bn ≠ Bt) :
    Calls Try.prog 103 #[.string s, .pointer (some ⟨Bn, 0, none⟩), .pointer (some ⟨Bt, 0, none⟩)] w fun e w' => e = .returned (.int .i64 n) ∧ w' = w.setCell ⟨Bt, 0, none⟩ (.string (s.extract 0 n)) := by
  have c1 := hn.1
  have c2 := hx.1
  have f2 := hx.2.1
  have c3 := (hn.far (p := ⟨Bt, 0, none⟩) hne (.string (s.extract 0 n))).1
  clear hx hn
  go_enter Try.func103, Try.ntmps103
  go_wp2
  go_ret
  exact ⟨rfl, rfl⟩
set_option maxHeartbeats 400000 in
theorem textC_none (s : ByteArray) (n : Nat) (w : World) (Bn : Nat) (p : Value) (hp : s.size < n) (hn : Holds1 w Bn (.int .i64 n)) :
    Calls Try.prog 103 #[.string s, .pointer (some ⟨Bn, 0, none⟩), p] w fun e w' => e = .returned (.int .i64 0) ∧ w' = w := by
  have c1 := hn.1
  clear hn
  go_enter Try.func103, Try.ntmps103
  go_wp2
  go_ret
  exact ⟨rfl, rfl⟩

theorem extract_take (l : List UInt8) (n : Nat) : (⟨l.toArray⟩ : ByteArray).extract 0 n = ⟨(l.take n).toArray⟩ := by
  have h := Lib.extract_data (⟨l.toArray⟩ : ByteArray) 0 n
  have e : ((⟨l.toArray⟩ : ByteArray).extract 0 n).data.toList = l.take n := by
    rw [h]; simp
  rw [← Go.Joins.bytes_eta ((⟨l.toArray⟩ : ByteArray).extract 0 n), e]

set_option maxHeartbeats 400000 in
theorem stext_nil (n : Int) (w : World) (h2 : n ≤ 9223372036854775807) : Calls Try.prog 91 #[.pointer none, .int .i64 n] w fun e w' => e = .returned (.string ByteArray.empty) ∧ Below w.heap.size w w' := by
  have H2 := Lib.hid h2
  clear h2
  go_enter Try.func91, Try.ntmps91
  go_wp2_with fail
  refine (scount_nil n _ H2.out).mono ?_
  rintro e w1 ⟨rfl, hb⟩
  have hsz := hb.size
  go_wp2_with fail
  go_ret
  exact ⟨rfl, hb.alloc hsz _⟩

set_option maxHeartbeats 800000 in
theorem stext_any (g : Nat) (st : Option (List UInt8)) (n : Int) (w : World) (h : SrcL w g st) (h2 : n ≤ 9223372036854775807) :
    Calls Try.prog 91 #[.pointer (some ⟨g, 0, none⟩), .int .i64 n] w fun e w' => e = .returned (.string ⟨(rdText n st).1.toArray⟩) ∧ SrcL w' g (rdText n st).2 ∧ Only w w' g := by
  have H := Lib.hid h
  have hlt := h.lt
  have H2 := Lib.hid h2
  obtain ⟨m, st1, hc⟩ : ∃ m st1, rdCount n st = (m, st1) := ⟨_, _, rfl⟩
  have hm : m ≤ 4611686018427387904 := by
    have e : m = (rdCount n st).1 := by rw [hc]
    rw [e]; unfold rdCount
    split
    · simp
    · have := rdN_le (mc n) st
      have h3 : mc n ≤ 4611686018427387904 := by unfold mc; split <;> omega
      omega
  have HC := Lib.hid hc
  have HM := Lib.hid hm
  clear h h2 hc hm
  go_enter Try.func91, Try.ntmps91
  go_wp2_with fail
  refine (scount_any g st n _ H.out H2.out).mono ?_
  rw [HC.out]
  rintro e w1 ⟨rfl, hs1, ho1⟩
  have hsz := ho1.size
  have hg1 := hs1.lt
  by_cases h0 : m = 0
  · subst h0
    have HR : Hid (rdText n st = ([], st1)) := by unfold rdText; rw [HC.out, if_pos rfl]; exact rfl
    have HS := Lib.hid hs1
    have HO := Lib.hid ho1
    clear hs1 ho1
    go_wp2_with fail
    go_ret
    rw [HR.out]
    exact ⟨rfl, HS.out.alloc _, HO.out.alloc _⟩
  · have hz : ((m : Int) == 0) = false := by simp; omega
    have hn1 : Holds1 ((w1.alloc (.cells #[.int .i64 m] 3)).alloc (.cells #[.string ByteArray.empty] 9)) w1.heap.size (.int .i64 m) := (Holds1.new w1 _ _).alloc _
    have hx1 : Holds1 ((w1.alloc (.cells #[.int .i64 m] 3)).alloc (.cells #[.string ByteArray.empty] 9)) (w1.heap.size + 1) (.string ByteArray.empty) := by
      have := Holds1.new (w1.alloc (.cells #[.int .i64 m] 3)) (.string ByteArray.empty) 9
      simpa using this
    have hs2 := (hs1.alloc (.cells #[.int .i64 m] 3)).alloc (.cells #[.string ByteArray.empty] 9)
    have ho2 : Only w ((w1.alloc (.cells #[.int .i64 m] 3)).alloc (.cells #[.string ByteArray.empty] 9)) g := (ho1.alloc _).alloc _
    have HN := Lib.hid hn1
    have HX := Lib.hid hx1
    have HS := Lib.hid hs2
    have HO := Lib.hid ho2
    clear hn1 hx1 hs2 ho2 hs1 ho1
    rcases st1 with _ | r
    · have HR : Hid (rdText n st = ([], none)) := by unfold rdText; rw [HC.out, if_neg h0]; exact rfl
      go_wp2_with fail
      refine (take_bad _ g _ _ HS.out).mono ?_
      rintro e w' ⟨rfl, rfl⟩
      have hc := HX.out.1
      go_wp2_with fail
      go_ret
      rw [HR.out]
      exact ⟨rfl, HS.out, HO.out⟩
    · have hrl := HS.out.2
      by_cases hl : r.length < m
      · have HR : Hid (rdText n st = ([], none)) := by unfold rdText; rw [HC.out, if_neg h0]; show (if r.length < m then _ else _) = _; rw [if_pos hl]
        go_wp2_with fail
        refine (take_good 103 #[.pointer (some ⟨w1.heap.size, 0, none⟩), .pointer (some ⟨w1.heap.size + 1, 0, none⟩)] g _ 0 _ (fun w2 => Holds1 w2 (w1.heap.size + 1) (.string ByteArray.empty) ∧ Only w w2 g) HS.out.1 (Nat.zero_le _) (by rw [size_mk]; omega) enters_text ?_).mono ?_
        · refine (textC_none _ m _ w1.heap.size _ (by rw [size_mk]; exact hl) HN.out).mono ?_
          rintro e w' ⟨rfl, rfl⟩
          exact ⟨rfl, HS.out.1, HX.out, HO.out⟩
        · rintro e w' ⟨rfl, w2, ⟨hn, ho⟩, hmv⟩
          have hn' := hn.only hmv.1 (by omega)
          have hc := hn'.1
          have HF : Hid (SrcL w' g none ∧ Only w w' g) := ⟨hmv.2.1 rfl, ho.trans hmv.1⟩
          clear hn hn' hmv ho
          go_wp2_with fail
          go_ret
          rw [HR.out]
          exact ⟨rfl, HF.out.1, HF.out.2⟩
      · have HR : Hid (rdText n st = (r.take m, some (r.drop m))) := by unfold rdText; rw [HC.out, if_neg h0]; show (if r.length < m then _ else _) = _; rw [if_neg hl]
        go_wp2_with fail
        refine (take_good 103 #[.pointer (some ⟨w1.heap.size, 0, none⟩), .pointer (some ⟨w1.heap.size + 1, 0, none⟩)] g _ m _ (fun w2 => Holds1 w2 (w1.heap.size + 1) (.string ⟨(r.take m).toArray⟩) ∧ Only w w2 g) HS.out.1 (by rw [size_mk]; omega) (by rw [size_mk]; omega) enters_text ?_).mono ?_
        · refine (textC_some _ m _ w1.heap.size (w1.heap.size + 1) (by rw [size_mk]; omega) (by rw [size_mk]; omega) HN.out HX.out (by omega)).mono ?_
          rintro e w' ⟨rfl, rfl⟩
          rw [extract_take]
          exact ⟨rfl, HS.out.1.far (by simp; omega) _, HX.out.set _, HO.out.setNew (by simp; omega) _⟩
        · rintro e w' ⟨rfl, w2, ⟨hn, ho⟩, hmv⟩
          have hn' := hn.only hmv.1 (by omega)
          have hc := hn'.1
          have HF : Hid (SrcL w' g (some (r.drop m)) ∧ Only w w' g) := by
            refine ⟨⟨?_, by simp; omega⟩, ho.trans hmv.1⟩
            have h2 := hmv.2.2 (by omega)
            rw [extract_drop] at h2
            exact h2
          clear hn hn' hmv ho
          go_wp2_with fail
          go_ret
          rw [HR.out]
          exact ⟨rfl, HF.out.1, HF.out.2⟩
end Go.Proofs.Ytipiplnhbecjeaa

/- What must come of every program at the first layer, comes. -/
namespace Go.Proofs.Ytipiplnhbecjeaa
set_option linter.unusedVariables false
set_option linter.unusedSimpArgs false
open Go.RowKit

theorem grp300 : grp 300 = [172, 2] := by decide
theorem grp1 : grp (zig (-1)) = [1] := by decide
theorem grp64 : grp (zig 64) = [128, 1] := by decide
theorem txtab : txt ⟨#[97, 98]⟩ = [2, 97, 98] := by decide

theorem rd1 : rdInt (some [1, 2, 97, 98]) = (-1, some [2, 97, 98]) := by decide
theorem rd2 : rdText 9 (some [2, 97, 98]) = ([97, 98], some []) := by decide
theorem rd3 : rdByte (some []) = (0, none) := by decide
theorem SrcL.mk {w : World} {g : Nat} {l : List UInt8} (h : Src w g ⟨l.toArray⟩ false) (hl : l.length ≤ 9223372036854775807) : SrcL w g (some l) := ⟨h, hl⟩
theorem sleft_any (g : Nat) (l : List UInt8) (w : World) (h : SrcL w g (some l)) : Calls Try.prog 75 #[.pointer (some ⟨g, 0, none⟩)] w fun e w' => e = .returned (.int .i64 l.length) ∧ w = w' :=
  (left_any g _ false w h.1).mono fun e w' ⟨he, hw⟩ => ⟨by rw [he, size_mk]; rfl, hw⟩
theorem sleft_none (g : Nat) (w : World) (h : SrcL w g none) : Calls Try.prog 75 #[.pointer (some ⟨g, 0, none⟩)] w fun e w' => e = .returned (.int .i64 0) ∧ w = w' :=
  (left_any g _ true w h).mono fun e w' ⟨he, hw⟩ => ⟨he, hw⟩
theorem isEmpty_mk (l : List UInt8) : (⟨l.toArray⟩ : ByteArray).toList.isEmpty = l.isEmpty := by rw [ByteArray.toList_eq]
theorem sdone_any (g : Nat) (l : List UInt8) (w : World) (h : SrcL w g (some l)) : Calls Try.prog 15 #[.pointer (some ⟨g, 0, none⟩)] w fun e w' => e = .returned (.int .i64 (if l.isEmpty then 0 else 10)) ∧ w = w' :=
  (done_any g _ false w h.1).mono fun e w' ⟨he, hw⟩ => ⟨by rw [he, isEmpty_mk]; cases l.isEmpty <;> rfl, hw⟩
theorem sdone_none (g : Nat) (w : World) (h : SrcL w g none) : Calls Try.prog 15 #[.pointer (some ⟨g, 0, none⟩)] w fun e w' => e = .returned (.int .i64 10) ∧ w = w' :=
  (done_any g _ true w h).mono fun e w' ⟨he, hw⟩ => ⟨he, hw⟩
theorem sbad_any (g : Nat) (st : Option (List UInt8)) (w : World) (h : SrcL w g st) : Calls Try.prog 31 #[.pointer (some ⟨g, 0, none⟩)] w fun e w' => e = .returned (.bool st.isNone) ∧ w = w' := by
  cases st with
  | none => exact bad_any g _ true w h
  | some l => exact bad_any g _ false w h.1

end Go.Proofs.Ytipiplnhbecjeaa
