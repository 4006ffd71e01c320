/- A new disk; its power is told to go; is it gone; a file's bytes and how many; what is said where there is no disk. -/
import Derived.Test.YtclgekmpldeedaaFlG
namespace Go.Proofs.Ytclgekmpldeedaa
set_option linter.unusedVariables false
set_option linter.unusedSimpArgs false
open Go.RowKit Go.Maps
set_option maxRecDepth 100000

theorem own_zeroF (w : World) : OwnB (w.alloc (.cells #[] 5)) w.heap.size (.slice (some ⟨w.heap.size, 0, none⟩) 0 0) [] := World.ownsRow_made w #[] 0 (Nat.le_refl _) (by decide) rfl
theorem bytes_ne_nil (a : Addr) (n c : Nat) (w : World) : (binOp .eql 22 (.slice (some a) n c) (.slice none 0 0)).run Try.prog w = .ok (.bool false) w := by kernel_rfl
theorem bytes_nil (w : World) : (binOp .eql 22 (.slice none 0 0) (.slice none 0 0)).run Try.prog w = .ok (.bool true) w := by kernel_rfl
set_option maxHeartbeats 2000000 in
theorem cloneB_any (v : Value) (l : List UInt8) (w : World) (hr : Rd w w.heap.size v l) (hl : l.length ≤ 140737488351232) : Calls Try.prog 32 #[v] w (Gives l w) := by
  have HR := Lib.hid hr
  obtain ⟨A, cap, rfl, hcap, ⟨hc2, hA⟩, hc⟩ := hr
  have HL := Lib.hid hl
  cases A with
  | none =>
    have hll : l = [] := by
      match l, hc with
      | [], _ => rfl
      | b :: r, hc => obtain ⟨_, _, h, _⟩ := hc (by simp); cases h
    subst hll
    obtain rfl := hA rfl
    clear hc
    have he := bytes_nil w
    go_enter Try.func32, Try.ntmps32
    go_wp2_with fail
    go_ret
    exact ⟨_, rfl, World.ownsRow_nil _ _ _ _, Below.refl _ _⟩
  | some ad =>
    have hb0 : Below w.heap.size w (w.alloc (.cells #[] 5)) := (Below.refl _ _).alloc (Nat.le_refl _) _
    have HO0 := Lib.hid (own_zeroF w)
    have HR0 := Lib.hid (HR.out.keep hb0)
    have HB0 := Lib.hid hb0
    have hz0 := hb0.size
    clear hb0 hc hA
    have he := bytes_ne_nil ad l.length cap w
    go_enter Try.func32, Try.ntmps32
    go_wp2_with (at_builtin; go_must (refine append_bytesY rfl _ _ rfl w.heap.size _ [] rfl HO0.out _ _ l rfl HR0.out hz0 (by have := HL.out; simp only [List.length_nil]; omega) ?_))
    intro v1 w1 hv1 hg1
    have hb1 := below_ownY HB0.out HO0.out hz0 hg1
    have HV1 := Lib.hid hv1
    have HB1 := Lib.hid hb1
    clear hv1 hb1 hg1
    go_wp2_with fail
    go_ret
    exact ⟨_, rfl, HV1.out, HB1.out⟩

def DiskM.new : DiskM := ⟨fun _ => none, 0, -1, 0, false⟩
set_option maxHeartbeats 2000000 in
theorem new_any (w : World) : Calls Try.prog 5 #[] w fun e w' => ∃ (d : Nat) (Ft : Nat → Prop), e = .returned (.pointer (some ⟨d, 0, none⟩)) ∧ DAt w' Ft d .new ∧ Below w.heap.size w w' ∧ ∀ k, Ft k → w.heap.size ≤ k := by
  have hm : (Instr.makeMap 46 none).run Try.prog w = .ok (.map (some w.heap.size)) (w.alloc (.map #[] 0)) := run_makeMap _ w
  go_enter Try.func5, Try.ntmps5
  go_wp2_with fail
  go_ret
  have hmap := World.ownsMap_made w Try.prog 9 fileR
  obtain ⟨wm, hwm⟩ : ∃ wm, wm = w.alloc (.map #[] 0) := ⟨_, rfl⟩
  have hz1 : wm.heap.size = w.heap.size + 1 := by rw [hwm]; simp
  have hb : Below w.heap.size w wm := by rw [hwm]; exact (Below.refl _ _).alloc (Nat.le_refl _) _
  rw [← hwm] at hmap ⊢
  have hd := heap_alloc_new wm (.cells #[.map (some w.heap.size), .int .i64 (-1), .int .i64 0, .bool false] 50)
  rw [hz1] at hd
  have hb2 := (Below.refl wm.heap.size wm).alloc (Nat.le_refl _) (.cells #[.map (some w.heap.size), .int .i64 (-1), .int .i64 0, .bool false] 50)
  have hz2 : (wm.alloc (.cells #[.map (some w.heap.size), .int .i64 (-1), .int .i64 0, .bool false] 50)).heap.size = w.heap.size + 2 := by simp [hz1]
  refine ⟨w.heap.size + 1, fun k => k = w.heap.size ∨ k = w.heap.size + 1, rfl, ⟨fun b hb => ?_, w.heap.size, fun _ => none, fun _ => .slice none 0 0, .map [], hd, ownsMap_keep hmap (hb2.block _ (by omega)), rfl, by decide, fun nm => rfl, fun nm => rfl, fun nm => rfl, fun nm g f h => (by cases h), fun a b g h => (by cases h), fun a b k h => (by cases h), fun nm h => (by cases h), .inr rfl, .inl rfl, by decide⟩, hb.trans (hb2.mono (by omega)), fun k hk => by omega⟩
  omega
section
variable {w : World} {Ft : Nat → Prop} {d m : Nat} {gs : List UInt8 → Option Nat} {rv : List UInt8 → Value} {D : DataW Unit} {M : DiskM}
theorem Gr.of_grown {Ft : Nat → Prop} {w w' : World} {d : Nat} (h : w.grownBy w' (some d)) (hd : Ft d) : Gr Ft w Ft w' := ⟨h.os, h.tape, h.output, h.size, fun k hk hn => h.block k hk (fun e => hn (by injection e with e; exact e ▸ hd)), fun _ x => .inl x⟩
set_option maxHeartbeats 2000000 in
theorem stop_any (h : DAt w Ft d M) (n t : Int) (hn : -9223372036854775808 ≤ n ∧ n ≤ 9223372036854775807) (ht : -9223372036854775808 ≤ t ∧ t ≤ 9223372036854775807) :
    Calls Try.prog 10 #[.pointer (some ⟨d, 0, none⟩), .int .i64 n, .int .i64 t] w fun e w' => e = .returned (.int .i64 (M.stop n t).1) ∧ DAt w' Ft d (M.stop n t).2 ∧ Gr Ft w Ft w' := by
  have H := Lib.hid h
  obtain ⟨hlt, m, gs, rv, D, h⟩ := h
  have HLT := Lib.hid hlt
  have HD := Lib.hid h
  have HR := Lib.hid (refusal_any h none 0 [] (fun _ => True) (strs_nil _ _ _) (by simp))
  have f1 := h.uf 1
  have f2 := h.uf 2
  have f3 := h.uf 3
  have x1 := h.c1
  have x2 := h.c2
  have x3 := h.c3
  have hdl := h.lt
  have HN := Lib.hid hn
  have HT := Lib.hid ht
  clear h hlt hn ht
  go_enter Try.func10, Try.ntmps10
  go_wp2_with fail
  refine HR.out.mono ?_
  rintro e u ⟨rfl, rfl⟩
  cases hg : M.gone
  · have hr : refM M [] = 0 := by unfold refM; rw [hg]; rfl
    have HG := Lib.hid hg
    rw [hr]
    clear hr hg
    by_cases h1 : n < -1
    · have d1 : decide (n < -1) = true := decide_eq_true h1
      have hs : M.stop n t = (1, M) := by unfold DiskM.stop; rw [HG.out, if_neg (by simp), if_pos (.inl h1)]
      have HS := Lib.hid hs
      clear hs
      go_wp2_with fail
      go_ret
      rw [HS.out]
      exact ⟨rfl, H.out, Gr.refl _ _⟩
    · have d1 : decide (n < -1) = false := decide_eq_false h1
      by_cases h2 : t < 0
      · have d2 : decide (t < 0) = true := decide_eq_true h2
        have hs : M.stop n t = (1, M) := by unfold DiskM.stop; rw [HG.out, if_neg (by simp), if_pos (.inr h2)]
        have HS := Lib.hid hs
        clear hs
        go_wp2_with fail
        go_ret
        rw [HS.out]
        exact ⟨rfl, H.out, Gr.refl _ _⟩
      · have d2 : decide (t < 0) = false := decide_eq_false h2
        have hs : M.stop n t = (0, { M with left := n, torn := t }) := by unfold DiskM.stop; rw [HG.out, if_neg (by simp), if_neg (by omega)]
        have HS := Lib.hid hs
        have hb1 := setCell_one HD.out.disk 1 (.int .i64 n)
        have hb2 := setCell_one hb1 2 (.int .i64 t)
        have hb3 := setCell_one hb2 3 (.bool false)
        have hk : ∀ b, b ≠ d → (((u.setCell ⟨d, 1, none⟩ (.int .i64 n)).setCell ⟨d, 2, none⟩ (.int .i64 t)).setCell ⟨d, 3, none⟩ (.bool false)).heap[b]? = u.heap[b]? := fun b hb => (heap_setCell_other _ ⟨d, 3, none⟩ b _ hb).trans ((heap_setCell_other _ ⟨d, 2, none⟩ b _ hb).trans (heap_setCell_other _ ⟨d, 1, none⟩ b _ hb))
        have hz : (((u.setCell ⟨d, 1, none⟩ (.int .i64 n)).setCell ⟨d, 2, none⟩ (.int .i64 t)).setCell ⟨d, 3, none⟩ (.bool false)).heap.size = u.heap.size := by simp
        have hfin := HD.out.power { M with left := n, torn := t } rfl rfl ⟨by show -1 ≤ n; omega, HN.out.2, by show 0 ≤ t; omega, HT.out.2⟩ (w' := (((u.setCell ⟨d, 1, none⟩ (.int .i64 n)).setCell ⟨d, 2, none⟩ (.int .i64 t)).setCell ⟨d, 3, none⟩ (.bool false))) (by rw [hb3]; show _ = some (Obj.cells #[_, _, _, .bool M.gone] _ _); rw [HG.out]; rfl) hk
        have HF := Lib.hid hfin
        have HK := Lib.hid hk
        have HZ := Lib.hid hz
        clear hs hb1 hb2 hb3 hk hz hfin
        go_wp2_with fail
        go_ret
        rw [HS.out]
        refine ⟨rfl, ⟨fun b hb => by rw [HZ.out]; exact HLT.out b hb, _, _, _, _, HF.out⟩, ⟨rfl, rfl, rfl, by rw [HZ.out]; exact Nat.le_refl _, fun k _ hn => HK.out k (fun e => hn (e ▸ HD.out.fd)), fun _ x => .inl x⟩⟩
  · have hr : refM M [] = 90 := by unfold refM; rw [hg]; rfl
    have hs : M.stop n t = (90, M) := by unfold DiskM.stop; rw [hg]; rfl
    have HS := Lib.hid hs
    rw [hr]
    clear hr hs
    go_wp2_with fail
    go_ret
    rw [HS.out]
    exact ⟨rfl, H.out, Gr.refl _ _⟩
set_option maxHeartbeats 2000000 in
theorem off_any (h : DAt w Ft d M) : Calls Try.prog 19 #[.pointer (some ⟨d, 0, none⟩)] w fun e w' => e = .returned (.bool M.gone) ∧ w' = w := by
  obtain ⟨hlt, m, gs, rv, D, h⟩ := h
  have h3 := h.c3
  have HM := Lib.hid (made_any h)
  clear h hlt
  cases hg : M.gone <;>
  · rw [hg] at h3
    clear hg
    go_enter Try.func19, Try.ntmps19
    go_wp2_with fail
    refine HM.out.mono ?_
    rintro e u ⟨rfl, rfl⟩
    go_wp2_with fail
    go_ret
    exact ⟨rfl, rfl⟩
set_option maxHeartbeats 2000000 in
theorem read_any (h : DAt w Ft d M) (s : ByteArray) (hs : s.size ≤ 140737488351232) :
    Calls Try.prog 13 #[.pointer (some ⟨d, 0, none⟩), .string s] w fun e w' => Below w.heap.size w w' ∧ ∃ v, e = .returned (.tuple #[v, .int .i64 (M.read s.data.toList).2]) ∧ OwnB w' w.heap.size v (M.read s.data.toList).1 := by
  obtain ⟨hlt, m, gs, rv, D, h⟩ := h
  have HD := Lib.hid h
  have HLT := Lib.hid hlt
  have HO := Lib.hid (open_any h hlt s hs)
  clear h hlt
  obtain ⟨R, hR⟩ : ∃ R, R = M.read s.data.toList := ⟨_, rfl⟩
  rw [← hR]
  go_enter Try.func13, Try.ntmps13
  go_wp2_with fail
  refine HO.out.mono ?_
  rintro e w1 ⟨rfl, hb1⟩
  have H1 := Lib.hid (HD.out.below HLT.out hb1)
  have HB1 := Lib.hid hb1
  by_cases hz : refM M [s] = 0
  · obtain ⟨hg, hbn, h24⟩ := refM_zero hz
    have hok := HD.out.ok s.data.toList
    cases hgs : gs s.data.toList with
    | none =>
      have hov : openV M gs s = (.pointer none, 4) := by unfold openV; rw [if_pos hz, hgs]
      have hrd : R = ([], 4) := by
        rw [hR]; unfold DiskM.read; rw [hg, hbn]
        rw [hgs] at hok
        cases hf : M.fs s.data.toList with
        | none => rfl
        | some f => rw [hf] at hok; cases hok
      have HRD := Lib.hid hrd
      rw [hov]
      clear hb1 hok hov hrd hR hz hgs
      go_wp2_with fail
      go_ret2
      refine ⟨HB1.out, .slice none 0 0, by rw [HRD.out]; rfl, by rw [HRD.out]; exact World.ownsRow_nil _ _ _ _⟩
    | some g =>
      have hov : openV M gs s = (.pointer (some ⟨g, 0, none⟩), 0) := by unfold openV; rw [if_pos hz, hgs]
      obtain ⟨f, hf, hF⟩ := H1.out.ex hgs
      have hrd : R = (f.b, 0) := by rw [hR]; unfold DiskM.read; rw [hg, hbn, hf]; rfl
      have HRD := Lib.hid hrd
      have hc0 := hF.c0
      have HC := Lib.hid (cloneB_any (rv s.data.toList) f.b w1 hF.own.rdY (by have := hF.most; omega))
      rw [hov]
      clear hb1 hok hov hrd hR hz hgs hF hf
      go_wp2_with fail
      refine HC.out.mono ?_
      rintro e w2 ⟨v, rfl, hv, hb2⟩
      have HV := Lib.hid (hv.base HB1.out.size)
      have HB2 := Lib.hid (HB1.out.trans (hb2.mono HB1.out.size))
      clear hv hb2
      go_wp2_with fail
      go_ret2
      refine ⟨HB2.out, v, by rw [HRD.out]; rfl, by rw [HRD.out]; exact HV.out⟩
  · have hov : openV M gs s = (.pointer none, refM M [s]) := by unfold openV; rw [if_neg hz]
    have hrd : R = ([], refM M [s]) := by
      rw [hR]; unfold DiskM.read refM
      unfold refM at hz
      cases hg : M.gone
      · rw [hg] at hz
        cases hb : badNm s.data.toList
        · exact absurd (by simp [hb]) hz
        · simp [hb]
      · simp
    obtain ⟨r, hr⟩ : ∃ r, r = refM M [s] := ⟨_, rfl⟩
    rw [hov]
    rw [← hr] at hrd hz ⊢
    have hd : (r == 0) = false := by simpa using hz
    have HRD := Lib.hid hrd
    clear hb1 hov hrd hR hr
    go_wp2_with fail
    go_ret2
    refine ⟨HB1.out, .slice none 0 0, by rw [HRD.out]; rfl, by rw [HRD.out]; exact World.ownsRow_nil _ _ _ _⟩
end
end Go.Proofs.Ytclgekmpldeedaa
