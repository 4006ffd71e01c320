/- A disk's file by its name. -/
import Derived.Test.YtclgekmpldeedaaFlF
namespace Go.Proofs.Ytclgekmpldeedaa
set_option linter.unusedVariables false
set_option linter.unusedSimpArgs false
open Go.RowKit Go.Maps
set_option maxRecDepth 100000
theorem Try.infoSF : (Try.prog.info? 9).map (fun i => (i.zero, i.size, i.bytes)) = some (some (.string ⟨#[]⟩), 1, 16) := by kernel_rfl
theorem strs_nil (w : World) (S : Nat → Prop) (A : Option Addr) : StrsAt w S A [] := fun h => absurd h (by simp)
theorem strs_one {w : World} {S : Nat → Prop} {b : Nat} {s : ByteArray} (hc : w.cell? ⟨b, 0, none⟩ = some (.string s)) (hS : S b) (hs : s.size ≤ 140737488351232) : StrsAt w S (some ⟨b, 0, none⟩) [s] := fun _ => ⟨b, 0, rfl, hS, fun i hi => by
  have : i = 0 := by simp at hi; omega
  subst this
  exact ⟨hc, hs⟩⟩
section
variable {w : World} {Ft : Nat → Prop} {d m : Nat} {gs : List UInt8 → Option Nat} {rv : List UInt8 → Value} {D : DataW Unit} {M : DiskM}
def openV (M : DiskM) (gs : List UInt8 → Option Nat) (s : ByteArray) : Value × Int :=
  if refM M [s] = 0 then (match gs s.data.toList with | none => (.pointer none, 4) | some g => (.pointer (some ⟨g, 0, none⟩), 0)) else (.pointer none, refM M [s])
theorem refM_zero {M : DiskM} {s : ByteArray} (h : refM M [s] = 0) : M.gone = false ∧ badNm s.data.toList = false ∧ s.size ≤ 24 := by
  unfold refM at h
  cases hg : M.gone
  · rw [hg] at h
    cases hb : badNm s.data.toList
    · refine ⟨rfl, rfl, ?_⟩
      unfold badNm at hb
      simp at hb
      exact hb.2
    · simp [hb] at h
  · rw [hg] at h; simp at h
theorem app_names_one {w : World} {ops : Array Oper} {rest : List Oper} {o : Oper} {a : Act} {Q : Exit → Act → World → Prop} (hgd : o.guard = none) (s x : Operand)
    (ho : o.op = .call { callee := .builtin .append, args := #[s, x], argTypes := #[44, 44] }) (hs : a.eval s = .slice none 0 0)
    (b c : Nat) (nm : ByteArray) (hx : a.eval x = .slice (some ⟨b, 0, none⟩) 1 c) (hc : w.cell? ⟨b, 0, none⟩ = some (.string nm))
    (K : ∀ g cap w', w'.cell? ⟨g, 0, none⟩ = some (.string nm) → w.heap.size ≤ g → Below w.heap.size w w' → wpList Try.prog ops Q rest (a.put o.dst (.slice (some ⟨g, 0, none⟩) 1 cap)) w') : wpList Try.prog ops Q (o :: rest) a w := by
  obtain ⟨i0, hi, hz0, hz1, hz2⟩ := info_parts Try.infoSF
  refine wpList_append_own _ hgd s x 44 ho w.heap.size 9 i0 (.string ⟨#[]⟩) 1 16 Try.underlying44 hi hz0 hz1 hz2 rfl (by decide) (.slice none 0 0) 0 [] hs (World.ownsRow_nil _ _ _ _) ⟨b, 0, none⟩ 1 c [.string nm] hx rfl ?_ (fun u hu => by simp at hu; subst hu; rfl) (by unfold maxLen; omega) (by omega) (Nat.le_refl _) ?_
  · intro j u hj
    have : j = 0 := by have := (List.getElem?_eq_some_iff.1 hj).1; simp at this; omega
    subst this
    simp at hj
    subst hj
    rw [addr_addY]
    exact hc
  · intro v' w' h1 h2 _
    rcases h1.2 with ⟨-, h0⟩ | ⟨g, cap, cur, rfl, hg, hh, -, -, -, ht⟩
    · omega
    · refine K g cap w' ?_ hg ⟨h2.os, h2.tape, h2.output, h2.size, fun k hk => h2.block k hk (by simp [Value.ownBlock])⟩
      have := World.ownsRow.cells (g := g) h1 rfl 0 (.string nm) (by simp)
      rw [addr_addY] at this
      exact this
set_option maxHeartbeats 2000000 in
theorem open_any (h : DiskAt w Ft d m gs rv D M) (hlt : ∀ b, Ft b → b < w.heap.size) (s : ByteArray) (hs : s.size ≤ 140737488351232) :
    Calls Try.prog 26 #[.pointer (some ⟨d, 0, none⟩), .string s, .slice none 0 0] w fun e w' => e = .returned (.tuple #[(openV M gs s).1, .int .i64 (openV M gs s).2]) ∧ Below w.heap.size w w' := by
  have H := Lib.hid h
  have HLT := Lib.hid hlt
  obtain ⟨O, hO⟩ : ∃ O, O = openV M gs s := ⟨_, rfl⟩
  have HO := Lib.hid hO
  rw [← hO]
  have HS := Lib.hid hs
  clear h hO hlt hs
  go_enter Try.func26, Try.ntmps26
  go_wp2_with (at_builtin; go_must (refine app_names_one rfl _ _ rfl rfl _ _ s rfl ?_ ?_))
  · exact Go.Joins.cell_of_block (heap_alloc_new w (.cells #[.string s] 9)) 0
  · intro g cap w2 hc2 hg2 hb2
    have hb := ((Below.refl w.heap.size w).alloc (Nat.le_refl _) (.cells #[.string s] 9)).trans (hb2.mono (by simp))
    have h2 := H.out.below HLT.out hb
    have HB := Lib.hid hb
    have HR := Lib.hid (refusal_any h2 (some ⟨g, 0, none⟩) cap [s] (fun _ => True) (strs_one hc2 trivial HS.out) (by simp))
    have HH2 := Lib.hid h2
    clear hb hb2 h2 hg2 hc2
    go_wp2_with fail
    refine HR.out.mono ?_
    rintro e u ⟨rfl, rfl⟩
    obtain ⟨r, hr⟩ : ∃ r, r = refM M [s] := ⟨_, rfl⟩
    have HRM := Lib.hid hr
    rw [← hr]
    clear hr HR
    by_cases hz : r = 0
    · subst hz
      obtain ⟨-, -, h24⟩ := refM_zero HRM.out.symm
      have hl := HH2.out.look s (by unfold maxLen; omega)
      have c0 := HH2.out.c0
      have hop : O = (match gs s.data.toList with | none => (.pointer none, 4) | some g => (.pointer (some ⟨g, 0, none⟩), 0)) := by rw [HO.out]; unfold openV; rw [if_pos HRM.out.symm]
      clear h24
      cases hgs : gs s.data.toList with
      | none =>
        rw [hgs] at hl hop
        have HOP := Lib.hid hop
        clear hop hgs
        have hl' : (Instr.lookup 46 (.map (some m)) (.string s) false).run Try.prog u = .ok (.pointer none) u := hl
        clear hl
        go_wp2_with fail
        go_ret2
        exact ⟨by rw [HOP.out]; rfl, HB.out⟩
      | some gg =>
        rw [hgs] at hl hop
        have HOP := Lib.hid hop
        clear hop hgs
        have hl' : (Instr.lookup 46 (.map (some m)) (.string s) false).run Try.prog u = .ok (.pointer (some ⟨gg, 0, none⟩)) u := hl
        clear hl
        go_wp2_with fail
        go_ret2
        exact ⟨by rw [HOP.out]; rfl, HB.out⟩
    · have hd : (r == 0) = false := by simpa using hz
      have hop : O = (.pointer none, r) := by rw [HO.out]; unfold openV; rw [if_neg (by rw [← HRM.out]; exact hz), HRM.out]
      have HOP := Lib.hid hop
      clear hop
      go_wp2_with fail
      go_ret2
      exact ⟨by rw [HOP.out]; rfl, HB.out⟩
end
end Go.Proofs.Ytclgekmpldeedaa
