/- A change that is done, or at which the power goes; a disk's file by its name; a new disk; what reads. -/
import Derived.Test.YtflkaladkbkbgaaGreatKFlD
import Derived.Carry
namespace Go.Proofs.YtflkaladkbkbgaaGreat
set_option linter.unusedVariables false
set_option linter.unusedSimpArgs false
open Go.RowKit Go.Maps
set_option maxRecDepth 100000

section
variable {w : World} {Ft : Nat → Prop} {d m : Nat} {gs : List UInt8 → Option Nat} {rv : List UInt8 → Value} {D : DataW Unit} {M : DiskM}
set_option maxHeartbeats 2000000 in
theorem change_do (h : DiskAt w Ft d m gs rv D M) (hg : M.gone = false) (hl : M.left ≠ 0) (f : Nat) (caps : Array Value) (hcf0 : EntersF f) (ls : Value) (R : World → Prop)
    (hcall : ∀ w1, DiskAt w1 Ft d m gs rv D M.spent → w.grownBy w1 (some d) → w1.heap.size = w.heap.size → Calls Tryz.prog f caps w1 fun e w' => (∃ v, e = .returned v) ∧ R w') :
    Calls Tryz.prog 59 #[.pointer (some ⟨d, 0, none⟩), .func (.func f) #[] caps, ls] w fun e w' => e = .returned (.int .i64 0) ∧ R w' := by
  have hcf : ∀ (args : Array Value) (W : World), (callFunc f args).run Tryz.prog W = .ok (.enter f args) W := hcf0
  have HL := Lib.hid (lasts_any h hg)
  have hd : decide (M.left ≠ 0) = true := decide_eq_true hl
  have HZ := Lib.hid hl
  have HD := Lib.hid hd
  have HC := Lib.hid hcall
  clear h hg hcall hcf0 hl hd
  go_enter Tryz.func59, Tryz.ntmps59
  go_wp2_with fail
  refine HL.out.mono ?_
  rintro e w1 ⟨he, h1, hg1, hz1⟩
  rw [HD.out] at he
  subst he
  rw [if_neg HZ.out] at h1
  have HC1 := Lib.hid (HC.out w1 h1 hg1 hz1)
  clear h1 hg1 hz1
  go_wp2_with fail
  try rw [Array.empty_append]
  refine HC1.out.mono ?_
  rintro e w2 ⟨⟨v, rfl⟩, hR⟩
  have HR := Lib.hid hR
  clear hR
  go_wp2_with fail
  go_ret
  exact ⟨rfl, HR.out⟩
set_option maxHeartbeats 2000000 in
theorem change_off0 (h : DiskAt w Ft d m gs rv D M) (hg : M.gone = false) (hl : M.left = 0) (f : Value) :
    Calls Tryz.prog 59 #[.pointer (some ⟨d, 0, none⟩), f, .slice none 0 0] w fun e w' => e = .returned (.int .i64 90) ∧ DiskAt w' Ft d m gs rv D M.off ∧ w.grownBy w' (some d) ∧ w'.heap.size = w.heap.size := by
  have HL := Lib.hid (lasts_any h hg)
  have hd : decide (M.left ≠ 0) = false := decide_eq_false (by omega)
  have HZ := Lib.hid hl
  have HD := Lib.hid hd
  clear h hg hl hd
  go_enter Tryz.func59, Tryz.ntmps59
  go_wp2_with fail
  refine HL.out.mono ?_
  rintro e w1 ⟨he, h1, hg1, hz1⟩
  rw [HD.out] at he
  subst he
  rw [if_pos HZ.out] at h1
  have H1 := Lib.hid h1
  have HG1 := Lib.hid hg1
  have HZ1 := Lib.hid hz1
  clear h1 hg1 hz1
  go_wp2_with fail
  go_loopw [17] (fun i wr => i = .int .i64 0 ∧ wr = w1) (fun _ _ => 0)
  case atStart => exact ⟨rfl, rfl⟩
  case round =>
    obtain ⟨rfl, rfl⟩ := hrel
    go_wp2_with fail
    go_ret
    exact ⟨rfl, H1.out, HG1.out, HZ1.out⟩
set_option maxHeartbeats 2000000 in
theorem change_off1 (h : DiskAt w Ft d m gs rv D M) (hg : M.gone = false) (hl : M.left = 0) (fv : Value) (f : Nat) (caps : Array Value) (hcf0 : EntersF f) (b c : Nat) (hbF : ¬ Ft b) (hc : w.cell? ⟨b, 0, none⟩ = some (.func (.func f) #[] caps)) (R : World → Prop)
    (hcall : ∀ w1, DiskAt w1 Ft d m gs rv D M.off → w.grownBy w1 (some d) → w1.heap.size = w.heap.size → Calls Tryz.prog f caps w1 fun e w' => (∃ v, e = .returned v) ∧ R w') :
    Calls Tryz.prog 59 #[.pointer (some ⟨d, 0, none⟩), fv, .slice (some ⟨b, 0, none⟩) 1 c] w fun e w' => e = .returned (.int .i64 90) ∧ R w' := by
  have hcf : ∀ (args : Array Value) (W : World), (callFunc f args).run Tryz.prog W = .ok (.enter f args) W := hcf0
  have HL := Lib.hid (lasts_any h hg)
  have hd : decide (M.left ≠ 0) = false := decide_eq_false (by omega)
  have HZ := Lib.hid hl
  have HD := Lib.hid hd
  have HC := Lib.hid hcall
  have hbd : b ≠ d := fun e => hbF (e ▸ h.fd)
  have HC0 := Lib.hid hc
  clear h hg hl hd hcall hcf0 hc hbF
  go_enter Tryz.func59, Tryz.ntmps59
  go_wp2_with fail
  refine HL.out.mono ?_
  rintro e w1 ⟨he, h1, hg1, hz1⟩
  rw [HD.out] at he
  subst he
  rw [if_pos HZ.out] at h1
  have hc1 := hg1.cell HC0.out (by intro e; injection e with e; exact hbd e)
  have HC1 := Lib.hid (HC.out w1 h1 hg1 hz1)
  clear h1 hg1 hz1
  go_wp2_with fail
  go_loopw [17] (fun i wr => (i = .int .i64 0 ∧ wr = w1) ∨ (i = .int .i64 1 ∧ Hid (R wr))) (fun i _ => 1 - (intOf i).toNat)
  case atStart => exact .inl ⟨rfl, rfl⟩
  case round =>
    rcases hrel with ⟨rfl, rfl⟩ | ⟨rfl, hR⟩
    · go_wp2_with fail
      try rw [Array.empty_append]
      refine HC1.out.mono ?_
      rintro e w2 ⟨⟨v, rfl⟩, hR⟩
      have HR := Lib.hid hR
      clear hR
      go_wp2_with fail
      go_roundw
      case rel => exact .inr ⟨rfl, HR⟩
      case measure => simp [intOf]
    · go_wp2_with fail
      go_ret
      exact ⟨rfl, hR.out⟩
end
end Go.Proofs.YtflkaladkbkbgaaGreat

/- A disk's file by its name. -/
namespace Go.Proofs.YtflkaladkbkbgaaGreat
set_option linter.unusedVariables false
set_option linter.unusedSimpArgs false
open Go.RowKit Go.Maps
set_option maxRecDepth 100000
theorem Tryz.infoSF : (Tryz.prog.info? 9).map (fun i => (i.zero, i.size, i.bytes)) = some (some (.string ⟨#[]⟩), 1, 16) := by kernel_rfl
theorem strs_nil (w : World) (S : Nat → Prop) (A : Option Addr) : StrsAt w S A [] := fun h => absurd h (by simp)
theorem strs_one {w : World} {S : Nat → Prop} {b : Nat} {s : ByteArray} (hc : w.cell? ⟨b, 0, none⟩ = some (.string s)) (hS : S b) (hs : s.size ≤ 140737488351232) : StrsAt w S (some ⟨b, 0, none⟩) [s] := fun _ => ⟨b, 0, rfl, hS, fun i hi => by
  have : i = 0 := by simp at hi; omega
  subst this
  exact ⟨hc, hs⟩⟩
section
variable {w : World} {Ft : Nat → Prop} {d m : Nat} {gs : List UInt8 → Option Nat} {rv : List UInt8 → Value} {D : DataW Unit} {M : DiskM}
def openV (M : DiskM) (gs : List UInt8 → Option Nat) (s : ByteArray) : Value × Int :=
  if refM M [s] = 0 then (match gs s.data.toList with | none => (.pointer none, 4) | some g => (.pointer (some ⟨g, 0, none⟩), 0)) else (.pointer none, refM M [s])
theorem refM_zero {M : DiskM} {s : ByteArray} (h : refM M [s] = 0) : M.gone = false ∧ badNm s.data.toList = false ∧ s.size ≤ 24 := by
  unfold refM at h
  cases hg : M.gone
  · rw [hg] at h
    cases hb : badNm s.data.toList
    · refine ⟨rfl, rfl, ?_⟩
      unfold badNm at hb
      simp at hb
      exact hb.2
    · simp [hb] at h
  · rw [hg] at h; simp at h
theorem app_names_one {w : World} {ops : Array Oper} {rest : List Oper} {o : Oper} {a : Act} {Q : Exit → Act → World → Prop} (hgd : o.guard = none) (s x : Operand)
    (ho : o.op = .call { callee := .builtin .append, args := #[s, x], argTypes := #[60, 60] }) (hs : a.eval s = .slice none 0 0)
    (b c : Nat) (nm : ByteArray) (hx : a.eval x = .slice (some ⟨b, 0, none⟩) 1 c) (hc : w.cell? ⟨b, 0, none⟩ = some (.string nm))
    (K : ∀ g cap w', w'.cell? ⟨g, 0, none⟩ = some (.string nm) → w.heap.size ≤ g → Below w.heap.size w w' → wpList Tryz.prog ops Q rest (a.put o.dst (.slice (some ⟨g, 0, none⟩) 1 cap)) w') : wpList Tryz.prog ops Q (o :: rest) a w := by
  obtain ⟨i0, hi, hz0, hz1, hz2⟩ := info_parts Tryz.infoSF
  refine wpList_append_own _ hgd s x 60 ho w.heap.size 9 i0 (.string ⟨#[]⟩) 1 16 Tryz.underlying60 hi hz0 hz1 hz2 rfl (by decide) (.slice none 0 0) 0 [] hs (World.ownsRow_nil _ _ _ _) ⟨b, 0, none⟩ 1 c [.string nm] hx rfl ?_ (fun u hu => by simp at hu; subst hu; rfl) (by unfold maxLen; omega) (by omega) (Nat.le_refl _) ?_
  · intro j u hj
    have : j = 0 := by have := (List.getElem?_eq_some_iff.1 hj).1; simp at this; omega
    subst this
    simp at hj
    subst hj
    rw [addr_addY]
    exact hc
  · intro v' w' h1 h2 _
    rcases h1.2 with ⟨-, h0⟩ | ⟨g, cap, cur, rfl, hg, hh, -, -, -, ht⟩
    · omega
    · refine K g cap w' ?_ hg ⟨h2.os, h2.tape, h2.output, h2.size, fun k hk => h2.block k hk (by simp [Value.ownBlock])⟩
      have := World.ownsRow.cells (g := g) h1 rfl 0 (.string nm) (by simp)
      rw [addr_addY] at this
      exact this
set_option maxHeartbeats 2000000 in
theorem open_any (h : DiskAt w Ft d m gs rv D M) (hlt : ∀ b, Ft b → b < w.heap.size) (s : ByteArray) (hs : s.size ≤ 140737488351232) :
    Calls Tryz.prog 52 #[.pointer (some ⟨d, 0, none⟩), .string s, .slice none 0 0] w fun e w' => e = .returned (.tuple #[(openV M gs s).1, .int .i64 (openV M gs s).2]) ∧ Below w.heap.size w w' := by
  have H := Lib.hid h
  have HLT := Lib.hid hlt
  obtain ⟨O, hO⟩ : ∃ O, O = openV M gs s := ⟨_, rfl⟩
  have HO := Lib.hid hO
  rw [← hO]
  have HS := Lib.hid hs
  clear h hO hlt hs
  go_enter Tryz.func52, Tryz.ntmps52
  go_wp2_with (at_builtin; go_must (refine app_names_one rfl _ _ rfl rfl _ _ s rfl ?_ ?_))
  · exact Go.Joins.cell_of_block (heap_alloc_new w (.cells #[.string s] 9)) 0
  · intro g cap w2 hc2 hg2 hb2
    have hb := ((Below.refl w.heap.size w).alloc (Nat.le_refl _) (.cells #[.string s] 9)).trans (hb2.mono (by simp))
    have h2 := H.out.below HLT.out hb
    have HB := Lib.hid hb
    have HR := Lib.hid (refusal_any h2 (some ⟨g, 0, none⟩) cap [s] (fun _ => True) (strs_one hc2 trivial HS.out) (by simp))
    have HH2 := Lib.hid h2
    clear hb hb2 h2 hg2 hc2
    go_wp2_with fail
    refine HR.out.mono ?_
    rintro e u ⟨rfl, rfl⟩
    obtain ⟨r, hr⟩ : ∃ r, r = refM M [s] := ⟨_, rfl⟩
    have HRM := Lib.hid hr
    rw [← hr]
    clear hr HR
    by_cases hz : r = 0
    · subst hz
      obtain ⟨-, -, h24⟩ := refM_zero HRM.out.symm
      have hl := HH2.out.look s (by unfold maxLen; omega)
      have c0 := HH2.out.c0
      have hop : O = (match gs s.data.toList with | none => (.pointer none, 4) | some g => (.pointer (some ⟨g, 0, none⟩), 0)) := by rw [HO.out]; unfold openV; rw [if_pos HRM.out.symm]
      clear h24
      cases hgs : gs s.data.toList with
      | none =>
        rw [hgs] at hl hop
        have HOP := Lib.hid hop
        clear hop hgs
        have hl' : (Instr.lookup 45 (.map (some m)) (.string s) false).run Tryz.prog u = .ok (.pointer none) u := hl
        clear hl
        go_wp2_with fail
        go_ret2
        exact ⟨by rw [HOP.out]; rfl, HB.out⟩
      | some gg =>
        rw [hgs] at hl hop
        have HOP := Lib.hid hop
        clear hop hgs
        have hl' : (Instr.lookup 45 (.map (some m)) (.string s) false).run Tryz.prog u = .ok (.pointer (some ⟨gg, 0, none⟩)) u := hl
        clear hl
        go_wp2_with fail
        go_ret2
        exact ⟨by rw [HOP.out]; rfl, HB.out⟩
    · have hd : (r == 0) = false := by simpa using hz
      have hop : O = (.pointer none, r) := by rw [HO.out]; unfold openV; rw [if_neg (by rw [← HRM.out]; exact hz), HRM.out]
      have HOP := Lib.hid hop
      clear hop
      go_wp2_with fail
      go_ret2
      exact ⟨by rw [HOP.out]; rfl, HB.out⟩
end
end Go.Proofs.YtflkaladkbkbgaaGreat

/- A new disk; its power is told to go; is it gone; a file's bytes and how many; what is said where there is no disk. -/
namespace Go.Proofs.YtflkaladkbkbgaaGreat
set_option linter.unusedVariables false
set_option linter.unusedSimpArgs false
open Go.RowKit Go.Maps
set_option maxRecDepth 100000

theorem own_zeroF (w : World) : OwnB (w.alloc (.cells #[] 5)) w.heap.size (.slice (some ⟨w.heap.size, 0, none⟩) 0 0) [] := World.ownsRow_made w #[] 0 (Nat.le_refl _) (by decide) rfl
theorem bytes_ne_nil (a : Addr) (n c : Nat) (w : World) : (binOp .eql 33 (.slice (some a) n c) (.slice none 0 0)).run Tryz.prog w = .ok (.bool false) w := by kernel_rfl
theorem bytes_nil (w : World) : (binOp .eql 33 (.slice none 0 0) (.slice none 0 0)).run Tryz.prog w = .ok (.bool true) w := by kernel_rfl
set_option maxHeartbeats 2000000 in
theorem cloneB_any (v : Value) (l : List UInt8) (w : World) (hr : Rd w w.heap.size v l) (hl : l.length ≤ 140737488351232) : Calls Tryz.prog 53 #[v] w (Gives l w) := by
  have HR := Lib.hid hr
  obtain ⟨A, cap, rfl, hcap, ⟨hc2, hA⟩, hc⟩ := hr
  have HL := Lib.hid hl
  cases A with
  | none =>
    have hll : l = [] := by
      match l, hc with
      | [], _ => rfl
      | b :: r, hc => obtain ⟨_, _, h, _⟩ := hc (by simp); cases h
    subst hll
    obtain rfl := hA rfl
    clear hc
    have he := bytes_nil w
    go_enter Tryz.func53, Tryz.ntmps53
    go_wp2_with fail
    go_ret
    exact ⟨_, rfl, World.ownsRow_nil _ _ _ _, Below.refl _ _⟩
  | some ad =>
    have hb0 : Below w.heap.size w (w.alloc (.cells #[] 5)) := (Below.refl _ _).alloc (Nat.le_refl _) _
    have HO0 := Lib.hid (own_zeroF w)
    have HR0 := Lib.hid (HR.out.keep hb0)
    have HB0 := Lib.hid hb0
    have hz0 := hb0.size
    clear hb0 hc hA
    have he := bytes_ne_nil ad l.length cap w
    go_enter Tryz.func53, Tryz.ntmps53
    go_wp2_with (at_builtin; go_must (refine append_bytesY rfl _ _ rfl w.heap.size _ [] rfl HO0.out _ _ l rfl HR0.out hz0 (by have := HL.out; simp only [List.length_nil]; omega) ?_))
    intro v1 w1 hv1 hg1
    have hb1 := below_ownY HB0.out HO0.out hz0 hg1
    have HV1 := Lib.hid hv1
    have HB1 := Lib.hid hb1
    clear hv1 hb1 hg1
    go_wp2_with fail
    go_ret
    exact ⟨_, rfl, HV1.out, HB1.out⟩

def DiskM.new : DiskM := ⟨fun _ => none, 0, -1, 0, false⟩
set_option maxHeartbeats 2000000 in
theorem new_any (w : World) : Calls Tryz.prog 6 #[] w fun e w' => ∃ (d : Nat) (Ft : Nat → Prop), e = .returned (.pointer (some ⟨d, 0, none⟩)) ∧ DAt w' Ft d .new ∧ Below w.heap.size w w' ∧ ∀ k, Ft k → w.heap.size ≤ k := by
  have hm : (Instr.makeMap 45 none).run Tryz.prog w = .ok (.map (some w.heap.size)) (w.alloc (.map #[] 0)) := run_makeMap _ w
  go_enter Tryz.func6, Tryz.ntmps6
  go_wp2_with fail
  go_ret
  have hmap := World.ownsMap_made w Tryz.prog 9 fileR
  obtain ⟨wm, hwm⟩ : ∃ wm, wm = w.alloc (.map #[] 0) := ⟨_, rfl⟩
  have hz1 : wm.heap.size = w.heap.size + 1 := by rw [hwm]; simp
  have hb : Below w.heap.size w wm := by rw [hwm]; exact (Below.refl _ _).alloc (Nat.le_refl _) _
  rw [← hwm] at hmap ⊢
  have hd := heap_alloc_new wm (.cells #[.map (some w.heap.size), .int .i64 (-1), .int .i64 0, .bool false] 49)
  rw [hz1] at hd
  have hb2 := (Below.refl wm.heap.size wm).alloc (Nat.le_refl _) (.cells #[.map (some w.heap.size), .int .i64 (-1), .int .i64 0, .bool false] 49)
  have hz2 : (wm.alloc (.cells #[.map (some w.heap.size), .int .i64 (-1), .int .i64 0, .bool false] 49)).heap.size = w.heap.size + 2 := by simp [hz1]
  refine ⟨w.heap.size + 1, fun k => k = w.heap.size ∨ k = w.heap.size + 1, rfl, ⟨fun b hb => ?_, w.heap.size, fun _ => none, fun _ => .slice none 0 0, .map [], hd, ownsMap_keep hmap (hb2.block _ (by omega)), rfl, by decide, fun nm => rfl, fun nm => rfl, fun nm => rfl, fun nm g f h => (by cases h), fun a b g h => (by cases h), fun a b k h => (by cases h), fun nm h => (by cases h), .inr rfl, .inl rfl, by decide⟩, hb.trans (hb2.mono (by omega)), fun k hk => by omega⟩
  omega
section
variable {w : World} {Ft : Nat → Prop} {d m : Nat} {gs : List UInt8 → Option Nat} {rv : List UInt8 → Value} {D : DataW Unit} {M : DiskM}
theorem Gr.of_grown {Ft : Nat → Prop} {w w' : World} {d : Nat} (h : w.grownBy w' (some d)) (hd : Ft d) : Gr Ft w Ft w' := ⟨h.os, h.tape, h.output, h.size, fun k hk hn => h.block k hk (fun e => hn (by injection e with e; exact e ▸ hd)), fun _ x => .inl x⟩
set_option maxHeartbeats 2000000 in
theorem stop_any (h : DAt w Ft d M) (n t : Int) (hn : -9223372036854775808 ≤ n ∧ n ≤ 9223372036854775807) (ht : -9223372036854775808 ≤ t ∧ t ≤ 9223372036854775807) :
    Calls Tryz.prog 10 #[.pointer (some ⟨d, 0, none⟩), .int .i64 n, .int .i64 t] w fun e w' => e = .returned (.int .i64 (M.stop n t).1) ∧ DAt w' Ft d (M.stop n t).2 ∧ Gr Ft w Ft w' := by
  have H := Lib.hid h
  obtain ⟨hlt, m, gs, rv, D, h⟩ := h
  have HLT := Lib.hid hlt
  have HD := Lib.hid h
  have HR := Lib.hid (refusal_any h none 0 [] (fun _ => True) (strs_nil _ _ _) (by simp))
  have f1 := h.uf 1
  have f2 := h.uf 2
  have f3 := h.uf 3
  have x1 := h.c1
  have x2 := h.c2
  have x3 := h.c3
  have hdl := h.lt
  have HN := Lib.hid hn
  have HT := Lib.hid ht
  clear h hlt hn ht
  go_enter Tryz.func10, Tryz.ntmps10
  go_wp2_with fail
  refine HR.out.mono ?_
  rintro e u ⟨rfl, rfl⟩
  cases hg : M.gone
  · have hr : refM M [] = 0 := by unfold refM; rw [hg]; rfl
    have HG := Lib.hid hg
    rw [hr]
    clear hr hg
    by_cases h1 : n < -1
    · have d1 : decide (n < -1) = true := decide_eq_true h1
      have hs : M.stop n t = (1, M) := by unfold DiskM.stop; rw [HG.out, if_neg (by simp), if_pos (.inl h1)]
      have HS := Lib.hid hs
      clear hs
      go_wp2_with fail
      go_ret
      rw [HS.out]
      exact ⟨rfl, H.out, Gr.refl _ _⟩
    · have d1 : decide (n < -1) = false := decide_eq_false h1
      by_cases h2 : t < 0
      · have d2 : decide (t < 0) = true := decide_eq_true h2
        have hs : M.stop n t = (1, M) := by unfold DiskM.stop; rw [HG.out, if_neg (by simp), if_pos (.inr h2)]
        have HS := Lib.hid hs
        clear hs
        go_wp2_with fail
        go_ret
        rw [HS.out]
        exact ⟨rfl, H.out, Gr.refl _ _⟩
      · have d2 : decide (t < 0) = false := decide_eq_false h2
        have hs : M.stop n t = (0, { M with left := n, torn := t }) := by unfold DiskM.stop; rw [HG.out, if_neg (by simp), if_neg (by omega)]
        have HS := Lib.hid hs
        have hb1 := setCell_one HD.out.disk 1 (.int .i64 n)
        have hb2 := setCell_one hb1 2 (.int .i64 t)
        have hb3 := setCell_one hb2 3 (.bool false)
        have hk : ∀ b, b ≠ d → (((u.setCell ⟨d, 1, none⟩ (.int .i64 n)).setCell ⟨d, 2, none⟩ (.int .i64 t)).setCell ⟨d, 3, none⟩ (.bool false)).heap[b]? = u.heap[b]? := fun b hb => (heap_setCell_other _ ⟨d, 3, none⟩ b _ hb).trans ((heap_setCell_other _ ⟨d, 2, none⟩ b _ hb).trans (heap_setCell_other _ ⟨d, 1, none⟩ b _ hb))
        have hz : (((u.setCell ⟨d, 1, none⟩ (.int .i64 n)).setCell ⟨d, 2, none⟩ (.int .i64 t)).setCell ⟨d, 3, none⟩ (.bool false)).heap.size = u.heap.size := by simp
        have hfin := HD.out.power { M with left := n, torn := t } rfl rfl ⟨by show -1 ≤ n; omega, HN.out.2, by show 0 ≤ t; omega, HT.out.2⟩ (w' := (((u.setCell ⟨d, 1, none⟩ (.int .i64 n)).setCell ⟨d, 2, none⟩ (.int .i64 t)).setCell ⟨d, 3, none⟩ (.bool false))) (by rw [hb3]; show _ = some (Obj.cells #[_, _, _, .bool M.gone] _ _); rw [HG.out]; rfl) hk
        have HF := Lib.hid hfin
        have HK := Lib.hid hk
        have HZ := Lib.hid hz
        clear hs hb1 hb2 hb3 hk hz hfin
        go_wp2_with fail
        go_ret
        rw [HS.out]
        refine ⟨rfl, ⟨fun b hb => by rw [HZ.out]; exact HLT.out b hb, _, _, _, _, HF.out⟩, ⟨rfl, rfl, rfl, by rw [HZ.out]; exact Nat.le_refl _, fun k _ hn => HK.out k (fun e => hn (e ▸ HD.out.fd)), fun _ x => .inl x⟩⟩
  · have hr : refM M [] = 90 := by unfold refM; rw [hg]; rfl
    have hs : M.stop n t = (90, M) := by unfold DiskM.stop; rw [hg]; rfl
    have HS := Lib.hid hs
    rw [hr]
    clear hr hs
    go_wp2_with fail
    go_ret
    rw [HS.out]
    exact ⟨rfl, H.out, Gr.refl _ _⟩
set_option maxHeartbeats 2000000 in
theorem read_any (h : DAt w Ft d M) (s : ByteArray) (hs : s.size ≤ 140737488351232) :
    Calls Tryz.prog 34 #[.pointer (some ⟨d, 0, none⟩), .string s] w fun e w' => Below w.heap.size w w' ∧ ∃ v, e = .returned (.tuple #[v, .int .i64 (M.read s.data.toList).2]) ∧ OwnB w' w.heap.size v (M.read s.data.toList).1 := by
  obtain ⟨hlt, m, gs, rv, D, h⟩ := h
  have HD := Lib.hid h
  have HLT := Lib.hid hlt
  have HO := Lib.hid (open_any h hlt s hs)
  clear h hlt
  obtain ⟨R, hR⟩ : ∃ R, R = M.read s.data.toList := ⟨_, rfl⟩
  rw [← hR]
  go_enter Tryz.func34, Tryz.ntmps34
  go_wp2_with fail
  refine HO.out.mono ?_
  rintro e w1 ⟨rfl, hb1⟩
  have H1 := Lib.hid (HD.out.below HLT.out hb1)
  have HB1 := Lib.hid hb1
  by_cases hz : refM M [s] = 0
  · obtain ⟨hg, hbn, h24⟩ := refM_zero hz
    have hok := HD.out.ok s.data.toList
    cases hgs : gs s.data.toList with
    | none =>
      have hov : openV M gs s = (.pointer none, 4) := by unfold openV; rw [if_pos hz, hgs]
      have hrd : R = ([], 4) := by
        rw [hR]; unfold DiskM.read; rw [hg, hbn]
        rw [hgs] at hok
        cases hf : M.fs s.data.toList with
        | none => rfl
        | some f => rw [hf] at hok; cases hok
      have HRD := Lib.hid hrd
      rw [hov]
      clear hb1 hok hov hrd hR hz hgs
      go_wp2_with fail
      go_ret2
      refine ⟨HB1.out, .slice none 0 0, by rw [HRD.out]; rfl, by rw [HRD.out]; exact World.ownsRow_nil _ _ _ _⟩
    | some g =>
      have hov : openV M gs s = (.pointer (some ⟨g, 0, none⟩), 0) := by unfold openV; rw [if_pos hz, hgs]
      obtain ⟨f, hf, hF⟩ := H1.out.ex hgs
      have hrd : R = (f.b, 0) := by rw [hR]; unfold DiskM.read; rw [hg, hbn, hf]; rfl
      have HRD := Lib.hid hrd
      have hc0 := hF.c0
      have HC := Lib.hid (cloneB_any (rv s.data.toList) f.b w1 hF.own.rdY (by have := hF.most; omega))
      rw [hov]
      clear hb1 hok hov hrd hR hz hgs hF hf
      go_wp2_with fail
      refine HC.out.mono ?_
      rintro e w2 ⟨v, rfl, hv, hb2⟩
      have HV := Lib.hid (hv.base HB1.out.size)
      have HB2 := Lib.hid (HB1.out.trans (hb2.mono HB1.out.size))
      clear hv hb2
      go_wp2_with fail
      go_ret2
      refine ⟨HB2.out, v, by rw [HRD.out]; rfl, by rw [HRD.out]; exact HV.out⟩
  · have hov : openV M gs s = (.pointer none, refM M [s]) := by unfold openV; rw [if_neg hz]
    have hrd : R = ([], refM M [s]) := by
      rw [hR]; unfold DiskM.read refM
      unfold refM at hz
      cases hg : M.gone
      · rw [hg] at hz
        cases hb : badNm s.data.toList
        · exact absurd (by simp [hb]) hz
        · simp [hb]
      · simp
    obtain ⟨r, hr⟩ : ∃ r, r = refM M [s] := ⟨_, rfl⟩
    rw [hov]
    rw [← hr] at hrd hz ⊢
    have hd : (r == 0) = false := by simpa using hz
    have HRD := Lib.hid hrd
    clear hb1 hov hrd hR hr
    go_wp2_with fail
    go_ret2
    refine ⟨HB1.out, .slice none 0 0, by rw [HRD.out]; rfl, by rw [HRD.out]; exact World.ownsRow_nil _ _ _ _⟩
end
end Go.Proofs.YtflkaladkbkbgaaGreat
