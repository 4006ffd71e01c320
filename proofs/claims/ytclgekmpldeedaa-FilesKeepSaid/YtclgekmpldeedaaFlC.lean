/- What keeps a call on a disk from being looked at; a new disk; the power. -/
import Derived.Test.YtclgekmpldeedaaFlB
import Derived.Test.YtclgekmpldeedaaStrR
import Derived.Lib.QuietBelow
namespace Go.Proofs.Ytclgekmpldeedaa
set_option linter.unusedVariables false
set_option linter.unusedSimpArgs false
open Go.RowKit Go.Maps
set_option maxRecDepth 100000

theorem badNm_size (s : ByteArray) : badNm s.data.toList = (decide (s.size < 1) || decide (24 < s.size)) := rfl
theorem ret_boolF {a b : Bool} (h : a = b) : Ending.returned (.bool a) = .returned (.bool b) := by rw [h]
set_option maxHeartbeats 1000000 in
theorem mayName_any (s : ByteArray) (w : World) (hs : s.size ≤ 140737488351232) : Calls Try.prog 29 #[.string s] w fun e w' => e = .returned (.bool (!badNm s.data.toList)) ∧ w' = w := by
  have HS := Lib.hid hs
  have HB := Lib.hid (badNm_size s)
  obtain ⟨n, hn⟩ : ∃ n, n = s.size := ⟨_, rfl⟩
  by_cases h1 : 1 ≤ n
  · by_cases h2 : n ≤ 24
    · have d1 : decide ((1 : Int) ≤ (s.size : Int)) = true := decide_eq_true (by omega)
      have d2 : decide ((s.size : Int) ≤ 24) = true := decide_eq_true (by omega)
      have hr : (!badNm s.data.toList) = true := by rw [HB.out, decide_eq_false (show ¬ s.size < 1 by omega), decide_eq_false (show ¬ 24 < s.size by omega)]; rfl
      have HR := Lib.hid hr
      clear hr hn
      go_enter Try.func29, Try.ntmps29
      go_wp2_with fail
      go_ret
      exact ⟨by rw [HR.out]; rfl, rfl⟩
    · have d1 : decide ((1 : Int) ≤ (s.size : Int)) = true := decide_eq_true (by omega)
      have d2 : decide ((s.size : Int) ≤ 24) = false := decide_eq_false (by omega)
      have hr : (!badNm s.data.toList) = false := by rw [HB.out, decide_eq_false (show ¬ s.size < 1 by omega), decide_eq_true (show 24 < s.size by omega)]; rfl
      have HR := Lib.hid hr
      clear hr hn
      go_enter Try.func29, Try.ntmps29
      go_wp2_with fail
      go_ret
      exact ⟨by rw [HR.out]; rfl, rfl⟩
  · have d1 : decide ((1 : Int) ≤ (s.size : Int)) = false := decide_eq_false (by omega)
    have hr : (!badNm s.data.toList) = false := by rw [HB.out, decide_eq_true (show s.size < 1 by omega)]; rfl
    have HR := Lib.hid hr
    clear hr hn
    go_enter Try.func29, Try.ntmps29
    go_wp2_with fail
    go_ret
    exact ⟨by rw [HR.out]; rfl, rfl⟩
theorem refusal1_any (s : ByteArray) (w : World) (hs : s.size ≤ 140737488351232) : Calls Try.prog 40 #[.string s] w fun e w' => e = .returned (.bool (badNm s.data.toList)) ∧ w' = w := by
  go_enter Try.func40, Try.ntmps40
  go_wp2_with fail
  refine (mayName_any s _ hs).mono ?_
  rintro e u ⟨rfl, rfl⟩
  cases hb : badNm s.data.toList <;> (go_wp2_with fail; go_ret; exact ⟨by rw [hb]; rfl, rfl⟩)
def FBadAt (ns : List ByteArray) (w : World) (e : Ending) (w' : World) : Prop := ∃ i : Int, e = .returned (.int .i64 i) ∧ decide (0 ≤ i) = ns.any (fun s => badNm s.data.toList) ∧ w' = w
theorem any_upto {ns : List ByteArray} (h : ∀ j (h : j < ns.length), badNm ns[j].data.toList = false) : (ns.any fun s => badNm s.data.toList) = false := by
  rw [List.any_eq_false]
  intro x hx
  obtain ⟨j, hj, rfl⟩ := List.mem_iff_getElem.1 hx
  rw [h j hj]; simp
theorem any_at {ns : List ByteArray} {j : Nat} (hj : j < ns.length) (h : badNm ns[j].data.toList = true) : (ns.any fun s => badNm s.data.toList) = true := List.any_eq_true.2 ⟨ns[j], List.getElem_mem hj, h⟩
set_option maxHeartbeats 1000000 in
theorem indexFF_any (A : Option Addr) (c : Nat) (ns : List ByteArray) (w : World) (S : Nat → Prop) (h : StrsAt w S A ns) (hn : ns.length ≤ 140737488351232) : Calls Try.prog 45 #[.slice A ns.length c, .func (.func 40) #[] #[]] w (FBadAt ns w) := by
  have HS := Lib.hid h
  have HN := Lib.hid hn
  clear h
  go_enter Try.func45, Try.ntmps45
  go_wp2_with fail
  go_loopw [8] (fun i wr => ∃ k : Nat, i = .int .i64 k ∧ k ≤ ns.length ∧ wr = w ∧ Hid (∀ j (h : j < ns.length), j < k → badNm ns[j].data.toList = false)) (fun i _ => ns.length - (intOf i).toNat)
  case atStart => exact ⟨0, rfl, by omega, rfl, fun j _ h => absurd h (by omega)⟩
  case round =>
    obtain ⟨k, rfl, hk, rfl, HJ⟩ := hrel
    by_cases hlt : k < ns.length
    · obtain ⟨p, o, rfl, -, hc⟩ := HS.out (by omega)
      have hck := (hc k hlt).1
      have Hz := Lib.hid (hc k hlt).2
      clear hc
      go_wp2_with fail
      refine (refusal1_any _ _ (by have := Hz.out; omega)).mono ?_
      rintro e u ⟨rfl, rfl⟩
      cases hb : badNm ns[k].data.toList
      · have Hb := Lib.hid hb
        go_wp2_with fail
        go_roundw
        case rel => exact ⟨k + 1, by go_num, by omega, trivial, fun j h hjk => by
          by_cases e : j = k
          · subst e; exact Hb.out
          · exact HJ.out j h (by omega)⟩
        case measure => simp [intOf]; omega
      · go_wp2_with fail
        go_ret
        exact ⟨k, rfl, by rw [any_at hlt hb]; simp, rfl⟩
    · go_wp2_with fail
      go_ret
      exact ⟨-1, rfl, by rw [any_upto fun j h => HJ.out j h (by omega)]; rfl, rfl⟩
set_option maxHeartbeats 1000000 in
theorem contFF_any (A : Option Addr) (c : Nat) (ns : List ByteArray) (w : World) (S : Nat → Prop) (h : StrsAt w S A ns) (hn : ns.length ≤ 140737488351232) : Calls Try.prog 39 #[.slice A ns.length c, .func (.func 40) #[] #[]] w fun e w' => e = .returned (.bool (ns.any fun s => badNm s.data.toList)) ∧ w' = w := by
  go_enter Try.func39, Try.ntmps39
  go_wp2_with fail
  refine (indexFF_any A c ns _ S h hn).mono ?_
  rintro e u ⟨i, rfl, hi, rfl⟩
  have HI := Lib.hid hi
  clear hi
  go_wp2_with fail
  go_ret
  exact ⟨ret_boolF HI.out, rfl⟩

theorem map_ne_nil (m : Nat) (w : World) : (binOp .neq 46 (.map (some m)) (.map none)).run Try.prog w = .ok (.bool true) w := by kernel_rfl
section
variable {w : World} {Ft : Nat → Prop} {d m : Nat} {gs : List UInt8 → Option Nat} {rv : List UInt8 → Value} {D : DataW Unit} {M : DiskM}
theorem DiskAt.c0 (h : DiskAt w Ft d m gs rv D M) : w.cell? ⟨d, 0, none⟩ = some (.map (some m)) := by simp [World.cell?, h.disk]
theorem DiskAt.c1 (h : DiskAt w Ft d m gs rv D M) : w.cell? ⟨d, 1, none⟩ = some (.int .i64 M.left) := by simp [World.cell?, h.disk]
theorem DiskAt.c2 (h : DiskAt w Ft d m gs rv D M) : w.cell? ⟨d, 2, none⟩ = some (.int .i64 M.torn) := by simp [World.cell?, h.disk]
theorem DiskAt.c3 (h : DiskAt w Ft d m gs rv D M) : w.cell? ⟨d, 3, none⟩ = some (.bool M.gone) := by simp [World.cell?, h.disk]
theorem DiskAt.uf (h : DiskAt w Ft d m gs rv D M) (i : Nat) : w.frozen? ⟨d, i, none⟩ = false := Go.Joins.unfrozen_of_block h.disk i
set_option maxHeartbeats 1000000 in
theorem made_any (h : DiskAt w Ft d m gs rv D M) : Calls Try.prog 28 #[.pointer (some ⟨d, 0, none⟩)] w fun e w' => e = .returned (.bool true) ∧ w' = w := by
  have h0 := h.c0
  have he := map_ne_nil m w
  clear h
  go_enter Try.func28, Try.ntmps28
  go_wp2_with fail
  go_ret
  exact ⟨rfl, rfl⟩
theorem made_nil (w : World) : Calls Try.prog 28 #[.pointer none] w fun e w' => e = .returned (.bool false) ∧ w' = w := by
  go_enter Try.func28, Try.ntmps28
  go_wp2_with fail
  go_ret
  exact ⟨rfl, rfl⟩
/-- What keeps a call with these names from being looked at. -/
def refM (M : DiskM) (ns : List ByteArray) : Int := if M.gone then 90 else if ns.any (fun s => badNm s.data.toList) then 1 else 0
set_option maxHeartbeats 1000000 in
theorem refusal_any (h : DiskAt w Ft d m gs rv D M) (A : Option Addr) (c : Nat) (ns : List ByteArray) (S : Nat → Prop) (hs : StrsAt w S A ns) (hn : ns.length ≤ 140737488351232) :
    Calls Try.prog 21 #[.pointer (some ⟨d, 0, none⟩), .slice A ns.length c] w fun e w' => e = .returned (.int .i64 (refM M ns)) ∧ w' = w := by
  have h3 := h.c3
  have HM := Lib.hid (made_any h)
  have HC := Lib.hid (contFF_any A c ns w S hs hn)
  obtain ⟨r, hr⟩ : ∃ r, r = refM M ns := ⟨_, rfl⟩
  have HR := Lib.hid hr
  rw [← hr]
  clear h hs hr
  go_enter Try.func21, Try.ntmps21
  go_wp2_with fail
  refine HM.out.mono ?_
  rintro e u ⟨rfl, rfl⟩
  cases hg : M.gone
  · rw [hg] at h3
    go_wp2_with fail
    refine HC.out.mono ?_
    rintro e u ⟨rfl, rfl⟩
    cases hb : ns.any fun s => badNm s.data.toList
    · go_wp2_with fail
      go_ret
      exact ⟨by rw [HR.out]; unfold refM; rw [hg, hb]; rfl, rfl⟩
    · go_wp2_with fail
      go_ret
      exact ⟨by rw [HR.out]; unfold refM; rw [hg, hb]; rfl, rfl⟩
  · rw [hg] at h3
    go_wp2_with fail
    go_ret
    exact ⟨by rw [HR.out]; unfold refM; rw [hg]; rfl, rfl⟩
set_option maxHeartbeats 1000000 in
theorem refusal_nil (w : World) (v : Value) : Calls Try.prog 21 #[.pointer none, v] w fun e w' => e = .returned (.int .i64 6) ∧ w' = w := by
  go_enter Try.func21, Try.ntmps21
  go_wp2_with fail
  refine (made_nil _).mono ?_
  rintro e u ⟨rfl, rfl⟩
  go_wp2_with fail
  go_ret
  exact ⟨rfl, rfl⟩
end
end Go.Proofs.Ytclgekmpldeedaa
