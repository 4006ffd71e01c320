/- A number, a text and a count that were put are read; for any number, text and count. No conditions. -/
import Derived.Test.YteakkbgfkcknlaaVarL
import Derived.Test.YteakkbgfkcknlaaReg
import Derived.Laws.AppendOwnNone
import Derived.SizedLaws
import Derived.ProofKit
import Derived.OpenShut
import Derived.ShutString
import Derived.ChangeOld
import Derived.Below
namespace Go.Proofs.Yteakkbgfkcknlaa.Back
open Go.ChangeShapes Go.WideShapes Go.ChangeAt Go.RowKit Go.Joins
open Go.ChangeMaps (open_string shut_string)
set_option linter.unusedVariables false

theorem own : ownKnob Try.prog.godebug = none := by kernel_rfl
theorem laidOut : laidOutB Try.prog = true := by kernel_rfl

theorem rdN_put (m most : Nat) (r : List UInt8) (h : m < 18446744073709551616) (hm : m ≤ most) : rdN most (some (grp m ++ r)) = (m, some r) := by
  have hl := (grp_length m).2
  simp only [rdN, getG_grp m r h]
  rw [if_neg (by omega)]
  simp
theorem rdInt_put (x : Int) (r : List UInt8) (h1 : -9223372036854775808 ≤ x) (h2 : x ≤ 9223372036854775807) : rdInt (some (grp (zig x) ++ r)) = (x, some r) := by
  have hz := zig_lt x h1 h2
  unfold rdInt
  rw [rdN_put (zig x) _ r hz (by omega)]
  simp only [zag_zig]
theorem rdCount_put (n : Nat) (m : Int) (r : List UInt8) (h : n ≤ 4611686018427387904) (hm : (n : Int) ≤ m) : rdCount m (some (grp n ++ r)) = (n, some r) := by
  unfold rdCount
  rw [if_neg (by omega), rdN_put n _ r (by omega) (by unfold mc; split <;> omega)]
theorem rdText_put (t : ByteArray) (r : List UInt8) (h : t.size ≤ 65536) : rdText 65536 (some (txt t ++ r)) = (t.data.toList, some r) := by
  have hl : t.data.toList.length = t.size := by simp
  unfold rdText txt
  rw [List.append_assoc, rdCount_put t.size 65536 _ (by omega) (by omega)]
  by_cases h0 : t.size = 0
  · have e : t.data.toList = [] := List.eq_nil_of_length_eq_zero (by omega)
    rw [if_pos h0, e]; rfl
  · rw [if_neg h0]
    simp only []
    rw [if_neg (by rw [List.length_append]; omega), ← hl, List.take_left', List.drop_left'] <;> rfl

/-- The cells of bytes of the call's own. -/
theorem OwnB.cells {w : World} {B g cap : Nat} {l : List UInt8} (h : OwnB w B (.slice (some ⟨g, 0, none⟩) l.length cap) l) : ∀ j u, (bcells l)[j]? = some u → w.cell? ((⟨g, 0, none⟩ : Addr).add j) = some u :=
  World.ownsRow.cells h rfl
theorem OwnB_app {w1 : World} {B : Nat} {v' : Value} {l r : List UInt8} (h : w1.ownsRow B 5 1 v' (l.length + r.length) (bcells l ++ bcells r)) : OwnB w1 B v' (l ++ r) := by
  unfold OwnB
  rw [bcells_append, List.length_append]
  exact h

theorem OwnB_app0 {w1 : World} {B : Nat} {v' : Value} {r : List UInt8} (h : w1.ownsRow B 5 1 v' r.length (bcells [] ++ bcells r)) : OwnB w1 B v' r := h
/-- An append to a row of the call's own turns nothing below. -/
theorem app_below {B : Nat} {w w1 : World} {v : Value} {n : Nat} {xs : List Value} (hown : w.ownsRow B 5 1 v n xs) (hg : w.grownBy w1 v.ownBlock) {w2 : World} (hb : Below B w2 w) (hB : B ≤ w2.heap.size) : Below B w2 w1 :=
  hb.grown hg (Nat.le_trans hB hb.size) (fun k hk => (World.ownsRow.lt hown k hk).1)

set_option maxHeartbeats 2000000 in
set_option maxRecDepth 1000000 in
theorem walk (x : Int) (t : ByteArray) (n : Int) (w : World) (hx1 : -9223372036854775808 ≤ x) (hx2 : x ≤ 9223372036854775807) (hn2 : n ≤ 9223372036854775807) (ht : t.size ≤ 140737488351232) :
    Calls Try.prog 5 #[.int .i64 x, .string t, .int .i64 n] w fun e w' => e = .returned (.bool true) ∧ Below w.heap.size w w' := by
  obtain ⟨i0, hi, hz0, hz1, hz2⟩ := info_parts Try.infoU8
  have X1 := Lib.hid hx1
  have X2 := Lib.hid hx2
  have N2 := Lib.hid hn2
  have HT := Lib.hid ht
  have ht' : (t.size : Int) ≤ 9223372036854775000 := by omega
  clear hx1 hx2 hn2 ht
  go_enter Try.func5, Try.ntmps5
  go_wp2_with fail
  refine (count_any n _ N2.out).mono ?_
  rintro e w1 hc
  have HC := Lib.hid hc
  obtain ⟨v, k, rfl⟩ : ∃ v k, e = .returned (.tuple #[v, .int .i64 k]) := by
    rcases hc with ⟨_, _, v, rfl, _⟩ | ⟨_, rfl, _⟩
    · exact ⟨_, _, rfl⟩
    · exact ⟨_, _, rfl⟩
  have hb0 : Below w.heap.size w w1 := by
    rcases hc with ⟨_, _, v, _, _, hb⟩ | ⟨_, _, rfl⟩
    · exact hb
    · exact Below.refl _ _
  have HB0 := Lib.hid hb0
  clear hc hb0
  go_wp2_with fail
  refine (lives1_any _).mono ?_
  rintro e w2 ⟨rfl, hb⟩
  have HB1 := Lib.hid hb
  have HB2 := Lib.hid (grow_trans HB0.out hb)
  clear hb
  by_cases hl : 65536 < t.size
  · go_wp2_with fail
    refine (lives1_any _).mono ?_
    rintro e w3 ⟨rfl, hb⟩
    go_wp2_with fail
    go_ret
    exact ⟨rfl, grow_trans HB2.out hb⟩
  · have hl2 : t.size ≤ 65536 := by omega
    have hE : OwnB (w2.alloc (.cells #[] 5)) w2.heap.size (.slice (some ⟨w2.heap.size, 0, none⟩) 0 0) [] := World.ownsRow_lit w2 #[] 0 (Nat.le_refl _) (by decide) rfl
    have HE := Lib.hid hE
    have HA : Hid (Below w2.heap.size w2 (w2.alloc (.cells #[] 5))) := (Below.refl _ _).alloc (Nat.le_refl _) _
    clear hE
    go_wp2_with fail
    refine (int_any x _ X1.out X2.out).mono ?_
    rintro e w3 ⟨v3, rfl, hv, hb⟩
    obtain ⟨g3, c3, rfl, _, _, _⟩ := hv.shape (grp_length _).2
    have hE3 : w3.ownsRow w2.heap.size 5 1 (.slice (some ⟨w2.heap.size, 0, none⟩) 0 0) 0 (bcells []) := HE.out.below hb
    have HE3 := Lib.hid hE3
    have HV := Lib.hid (OwnB.cells hv)
    have HA3 := Lib.hid (grow_trans HA.out hb)
    have hl3 := (grp_length (zig x)).1
    have hs3 := HA3.out.size
    clear hv hb HE HA hE3
    go_wp2_with (at_builtin; go_must (refine wpList_append_own _ rfl _ _ 22 rfl w2.heap.size 5 i0 (.int .u8 0) 1 1 Try.underlying22 hi hz0 hz1 hz2 rfl (by decide) _ 0 _ rfl HE3.out ⟨g3, 0, none⟩ (grp (zig x)).length c3 (bcells (grp (zig x))) rfl ?c0 ?c1 ?c2 ?c3 ?c4 ?c5 ?_))
    case c0 => simp [bcells]
    case c1 => exact HV.out
    case c2 => exact bcells_oneCell _
    case c3 => unfold maxLen; omega
    case c4 => omega
    case c5 => exact hs3
    intro v4 w4 hown4 hg4 _
    have H4 : Hid (OwnB w4 w2.heap.size v4 (grp (zig x))) := OwnB_app0 (by simpa using hown4)
    have HB4 := Lib.hid (app_below HE3.out hg4 HA3.out (Nat.le_refl _))
    clear hown4 hg4 HE3 HV HA3 hs3
    go_wp2_with fail
    refine (text_any t _ HT.out).mono ?_
    rintro e w5 ⟨v5, rfl, hv, hb⟩
    have hl5 : (txt t).length ≤ 65547 ∧ 1 ≤ (txt t).length := by
      have := grp_length t.size
      unfold txt; rw [List.length_append]; simp; omega
    obtain ⟨g5, c5, rfl, _, _, _⟩ := hv.shape hl5.2
    have H45 : Hid (w5.ownsRow w2.heap.size 5 1 v4 (grp (zig x)).length (bcells (grp (zig x)))) := H4.out.below hb
    have HV := Lib.hid (OwnB.cells hv)
    have HB5 := Lib.hid (HB4.out.trans (hb.mono HB4.out.size))
    have hs5 := HB5.out.size
    clear hv hb H4 HB4
    go_wp2_with (at_builtin; go_must (refine wpList_append_own _ rfl _ _ 22 rfl w2.heap.size 5 i0 (.int .u8 0) 1 1 Try.underlying22 hi hz0 hz1 hz2 rfl (by decide) _ (grp (zig x)).length _ rfl H45.out ⟨g5, 0, none⟩ (txt t).length c5 (bcells (txt t)) rfl ?d0 ?d1 ?d2 ?d3 ?d4 ?d5 ?_))
    case d0 => simp [bcells]
    case d1 => exact HV.out
    case d2 => exact bcells_oneCell _
    case d3 => unfold maxLen; omega
    case d4 => omega
    case d5 => exact hs5
    intro v6 w6 hown6 hg6 _
    have H6 : Hid (OwnB w6 w2.heap.size v6 (grp (zig x) ++ txt t)) := OwnB_app hown6
    have HB6 := Lib.hid (app_below H45.out hg6 HB5.out (Nat.le_refl _))
    clear hown6 hg6 H45 HV HB5 hs5
    rcases HC.out with ⟨h0, h1, v', he, hv, hb⟩ | ⟨hn, he, hw⟩
    · obtain ⟨rfl, rfl⟩ : v = v' ∧ k = 0 := by simpa using he
      obtain ⟨m, rfl⟩ := Int.eq_ofNat_of_zero_le h0
      obtain ⟨gv, cv, rfl, _, _, _⟩ := hv.shape (grp_length _).2
      have hv6 := hv.below (grow_trans HB1.out HB6.out)
      have HV := Lib.hid (OwnB.cells hv6)
      have hl6 := (grp_length m).1
      have hs6 := HB6.out.size
      have H6' : Hid (w6.ownsRow w2.heap.size 5 1 v6 ((grp (zig x)).length + (txt t).length) (bcells (grp (zig x) ++ txt t))) := by
        have h := H6.out
        unfold OwnB at h
        rw [List.length_append] at h
        exact h
      have hm2 : m ≤ 4611686018427387904 := by omega
      clear he hv hb hv6
      go_wp2_with (at_builtin; go_must (refine wpList_append_own _ rfl _ _ 22 rfl w2.heap.size 5 i0 (.int .u8 0) 1 1 Try.underlying22 hi hz0 hz1 hz2 rfl (by decide) _ _ _ rfl H6'.out ⟨gv, 0, none⟩ (grp m).length cv (bcells (grp m)) rfl ?e0 ?e1 ?e2 ?e3 ?e4 ?e5 ?_))
      case e0 => simp [bcells]
      case e1 => exact HV.out
      case e2 => exact bcells_oneCell _
      case e3 => unfold maxLen; omega
      case e4 => omega
      case e5 => exact hs6
      intro v7 w7 hown7 hg7 _
      have H7 : OwnB w7 w2.heap.size v7 ((grp (zig x) ++ txt t) ++ grp m) := OwnB_app (by rw [List.length_append]; exact hown7)
      have HB7 := Lib.hid (app_below H6'.out hg7 HB6.out (Nat.le_refl _))
      have HCS := Lib.hid H7.conv
      clear hown7 hg7 H6 H6' HV HB6 H7 hs6
      go_wp2_with fail
      refine (from_any _ _ _ HCS.out).mono ?_
      rintro e w8 ⟨rfl, hs, hb⟩
      have hS : SrcL w8 w7.heap.size (some ((grp (zig x) ++ txt t) ++ grp m)) := SrcL.mk hs (by rw [List.length_append, List.length_append]; omega)
      have hs7 := HB7.out.size
      have hB8 := grow_trans HB7.out hb
      have HS := Lib.hid hS
      have HB8 := Lib.hid hB8
      clear hs hb hS hB8 HCS HB7
      go_wp2_with fail
      refine (sint_any _ _ _ HS.out).mono ?_
      rw [show rdInt (some ((grp (zig x) ++ txt t) ++ grp m)) = (x, some (txt t ++ grp m)) by rw [List.append_assoc]; exact rdInt_put x _ X1.out X2.out]
      rintro e w9 ⟨rfl, hs, ho⟩
      have HS9 := Lib.hid hs
      have HB9 := Lib.hid (HB8.out.trans (ho.below (B := w2.heap.size) HB8.out.size hs7))
      clear hs ho HS HB8
      go_wp2_with fail
      refine (stext_any _ _ _ _ HS9.out (by decide)).mono ?_
      rw [rdText_put t (grp m) hl2, bytes_eta t]
      rintro e w10 ⟨rfl, hs, ho⟩
      have HS10 := Lib.hid hs
      have HB10 := Lib.hid (HB9.out.trans (ho.below (B := w2.heap.size) HB9.out.size hs7))
      clear hs ho HS9 HB9
      go_wp2_with fail
      refine (scount_any _ _ _ _ HS10.out N2.out).mono ?_
      rw [show rdCount (m : Int) (some (grp m)) = (m, some []) by have := rdCount_put m m [] hm2 (by omega); simpa using this]
      rintro e w11 ⟨rfl, hs, ho⟩
      have HS11 := Lib.hid hs
      have HB11 := Lib.hid (HB10.out.trans (ho.below (B := w2.heap.size) HB10.out.size hs7))
      clear hs ho HS10 HB10
      go_wp2_with fail
      refine (sdone_any _ _ _ HS11.out).mono ?_
      rintro e w12 ⟨rfl, rfl⟩
      go_wp2_with fail
      go_ret
      exact ⟨rfl, grow_trans HB2.out HB11.out⟩
    · obtain ⟨rfl, rfl⟩ : v = .slice none 0 0 ∧ k = 1 := by simpa using he
      clear he hw
      go_wp2_with (at_builtin; go_must (refine wpList_append_own_none rfl _ _ 22 rfl w2.heap.size 5 i0 1 Try.underlying22 hi _ _ _ rfl H6.out rfl ?_))
      have HCS := Lib.hid H6.out.conv
      obtain ⟨w7, rfl⟩ : ∃ w7, w7 = w6 := ⟨_, rfl⟩
      have HB7 := HB6
      clear H6 HB6
      go_wp2_with fail
      refine (from_any _ _ _ HCS.out).mono ?_
      rintro e w8 ⟨rfl, hs, hb⟩
      have hS : SrcL w8 w7.heap.size (some (grp (zig x) ++ txt t)) := SrcL.mk hs (by rw [List.length_append]; omega)
      have hs7 := HB7.out.size
      have hB8 := grow_trans HB7.out hb
      have HS := Lib.hid hS
      have HB8 := Lib.hid hB8
      clear hs hb hS hB8 HCS HB7
      go_wp2_with fail
      refine (sint_any _ _ _ HS.out).mono ?_
      rw [rdInt_put x (txt t) X1.out X2.out]
      rintro e w9 ⟨rfl, hs, ho⟩
      have HS9 := Lib.hid hs
      have HB9 := Lib.hid (HB8.out.trans (ho.below (B := w2.heap.size) HB8.out.size hs7))
      clear hs ho HS HB8
      go_wp2_with fail
      refine (stext_any _ _ _ _ HS9.out (by decide)).mono ?_
      rw [show rdText 65536 (some (txt t)) = (t.data.toList, some []) by have := rdText_put t [] hl2; simpa using this, bytes_eta t]
      rintro e w10 ⟨rfl, hs, ho⟩
      have HS10 := Lib.hid hs
      have HB10 := Lib.hid (HB9.out.trans (ho.below (B := w2.heap.size) HB9.out.size hs7))
      clear hs ho HS9 HB9
      go_wp2_with fail
      refine (sleft_any _ _ _ HS10.out).mono ?_
      rintro e w11 ⟨rfl, rfl⟩
      go_wp2_with fail
      go_ret
      exact ⟨rfl, grow_trans HB2.out HB10.out⟩

set_option maxRecDepth 100000 in
theorem lifted (os : Os) (started : os.Started) (H : Type) (enc : TypeId × Value → H) :
    ReturnsInHanded {} Try.checked os 5 .any (Rows.varintBackSpec.pre6 enc Try.prog Try.f5 Rows.varintBackRow.domain false) (Rows.varintBackSpec.post enc Try.prog Try.f5 false true false false) := by
  refine returnsInHanded_of_change_sized (C := Try.checked) own started (by kernel_rfl) Try.func5
    (ChangeSpec.witness6 (enc := enc) (C := Try.checked) false ⟨#[], #[.int .i64 0, .string ByteArray.empty, .int .i64 0], []⟩ 8 (by kernel_rfl) (by kernel_rfl) (by kernel_rfl) (by kernel_rfl)) ?_
  intro W base args ds gs before hval0 hW hcnd hsz0 _
  have hval : ∀ (j : Nat) t v, Try.f5.params[j]? = some t → args[j]? = some v → Value.okWide Try.prog W .any base t v := hval0
  have hsz : (DataW.weightsEach Try.prog (Try.f5.params.toList ++ Rows.varintBackSpec.plain.varTypes Try.prog) (ds ++ gs)).all (· ≤ reachBytes) = true := hsz0
  have hW' := hW
  obtain ⟨p, q, hA0, hV, rfl, hfz, hnd⟩ := hW
  have hA : DataW.TrodAll enc Try.prog W 0 (fun _ => true) true Try.f5.params.toList args.toList ds p := hA0
  rw [Try.params5] at hA hval hsz
  obtain ⟨v0, v1, v2, d0, d1, d2, p0, p1, p2, rfl, rfl, rfl, h0, h1, h2⟩ := trodAll_three hA
  obtain ⟨rfl, rfl⟩ := trodVars_none hV
  obtain ⟨a0, rfl, rfl, rfl, wa0⟩ := open_int Try.underlying3 (hval 0 3 v0 rfl rfl) h0
  obtain ⟨a1, rfl, rfl, rfl, wa1⟩ := open_string Try.underlying9 (hval 1 9 v1 rfl rfl) h1
  obtain ⟨a2, rfl, rfl, rfl, wa2⟩ := open_int Try.underlying3 (hval 2 3 v2 rfl rfl) h2
  clear hA0 hval0
  have ha0 := in64_of_wf wa0
  have hs1 : a1.size ≤ 140737488351232 := by
    have h3 := sized_string hsz (j := 1) (t := 9) rfl rfl
    simpa [reachBytes] using h3
  have ha2 := in64_of_wf wa2
  refine (walk a0 a1 a2 W ha0.1 ha0.2 ha2.2 hs1).mono fun e W' ⟨he, bel⟩ => ?_
  subst he
  exact ⟨_, rfl, _, _, _, [], _, [], hW', trodAll_mk1 (shut_bool Try.underlying4 _), trodAll_mk3 (shut_int Try.underlying3 wa0) (shut_string Try.underlying9 wa1) (shut_int Try.underlying3 wa2), rfl, bel.frame _, fun h => by cases h⟩

/-- The statement. -/
theorem proved : Rows.VarintBackSaid :=
  OpenClaim.holds_of_wide 5 Try.f5 rfl rfl rfl rfl rfl rfl rfl ⟨rfl, rfl, rfl, rfl, rfl⟩ rfl rfl rfl rfl rfl (by kernel_rfl) Try.func5 (by kernel_rfl)
    (of_decide_eq_true (by kernel_rfl)) (by unfold Func.isWrapper; first | (rw [if_pos (by decide +kernel)]; kernel_rfl) | (rw [if_neg (by decide +kernel)]; exact ⟨rfl, rfl⟩))
    (fun os started H enc _ => lifted os started H enc)
end Go.Proofs.Yteakkbgfkcknlaa.Back
